/- Arguments opened: programs. -/
import Derived.Test.YtgocmpooppejdaaFSpec
import Derived.Deep.Slices
import Derived.Deep.Strs
import Derived.ProofKit
set_option maxRecDepth 100000
namespace Go.Proofs.Ytgocmpooppejdaa
open Go Go.RowKit
theorem list_of {α : Type} {p : Nat → α → Prop} : ∀ (n : Nat), (∀ i, i < n → ∃ x, p i x) → ∃ l : List α, l.length = n ∧ ∀ i x, l[i]? = some x → p i x
  | 0, _ => ⟨[], rfl, fun i x h => by simp at h⟩
  | n + 1, h => by
    obtain ⟨l, hl, hp⟩ := list_of n (fun i hi => h i (by omega))
    obtain ⟨x, hx⟩ := h n (by omega)
    refine ⟨l ++ [x], by simp [hl], fun i y hy => ?_⟩
    rcases Nat.lt_or_ge i n with h1 | h1
    · rw [List.getElem?_append_left (by omega)] at hy
      exact hp i y hy
    · rw [List.getElem?_append_right (by omega)] at hy
      have h2 : i < n + 1 := by
        have := (List.getElem?_eq_some_iff.1 hy).1
        simp at this; omega
      obtain rfl : i = n := by omega
      rw [hl] at hy
      simp at hy
      rw [← hy]; exact hx
theorem cells3 : Try.prog.cellsOf 3 = 1 := by kernel_rfl
theorem cells9 : Try.prog.cellsOf 9 = 1 := by kernel_rfl
theorem cellsIn : Try.prog.cellsOf 44 = 3 := by kernel_rfl
theorem cellsIns : Try.prog.cellsOf 35 = 1 := by kernel_rfl
theorem cellsCd : Try.prog.cellsOf 37 = 3 := by kernel_rfl
theorem cellsCds : Try.prog.cellsOf 22 = 1 := by kernel_rfl
theorem cellsStrs : Try.prog.cellsOf 23 = 1 := by kernel_rfl
theorem cellsPg : Try.prog.cellsOf 25 = 2 := by kernel_rfl
theorem cellsPm : Try.prog.cellsOf 29 = 3 := by kernel_rfl
section
variable {H : Type} {enc : TypeId × Value → H} {w : World} {base : Nat} {sp : Nat → Bool} {held : Bool}
theorem i64_of_wf {n : Int} (h : (Lit.int .i64 n).wf = true) : -9223372036854775808 ≤ n ∧ n ≤ 9223372036854775807 := by
  simpa [Lit.wf, IntKind.min, IntKind.max, IntKind.signed, IntKind.bits] using h
theorem open_list {α : Type} {encA : α → List Value} {sz : Nat} {Wf : α → Prop} {t e : TypeId} (ht : Try.prog.underlying t = some (.slice e)) (hce : Try.prog.cellsOf e = sz) (hs : 0 < sz)
    (hopen : ∀ {fuel : Nat} {cs : List Value} {x : DataW H × List MemPlace}, DataW.trod enc Try.prog w base sp held fuel e cs = some x → ∃ a : α, cs = encA a ∧ Wf a)
    {fuel : Nat} {v : Value} {x : DataW H × List MemPlace} (h : DataW.trod enc Try.prog w base sp held fuel t [v] = some x) :
    ∃ l : List α, Sl encA sz w v l ∧ (∀ a ∈ l, Wf a) ∧ ((x.1 = .nil ∧ l = []) ∨ ∃ els spare, x.1 = .slice els spare ∧ els.length = l.length) := by
  rcases Deep.open_slice ht h with ⟨hcs, rfl⟩ | ⟨a, len, cap, m, n, D, Pl, hcs, hb, hlc, hcm, hm, rfl, hel⟩
  · obtain rfl : v = .slice none 0 0 := by simpa using hcs
    exact ⟨[], ⟨none, 0, rfl, by unfold maxLen; simp, fun i x hx => by simp at hx⟩, by simp, .inl ⟨rfl, rfl⟩⟩
  · obtain rfl : v = .slice (some a) len cap := by simpa using hcs
    have hlm : len ≤ m := by rw [hm]; split <;> omega
    rw [hce] at hel
    obtain ⟨l, hl, hp⟩ := list_of (p := fun i (y : α) => Wf y ∧ w.cells? base (a.add (i * sz)) sz = some (encA y)) len (fun i hi => by
      obtain ⟨cs', hc', hd'⟩ := hel i (by omega)
      obtain ⟨y, rfl, hw⟩ := hopen hd'
      exact ⟨y, hw, hc'⟩)
    refine ⟨l, ⟨some a, cap, by rw [hl], by omega, fun i y hy => ?_⟩, fun y hy => ?_, .inr ⟨_, _, rfl, by simp [hl]⟩⟩
    · obtain ⟨_, hc⟩ := hp i y hy
      obtain ⟨_, hlen, hcell⟩ := World.cells?_some hc
      have hbl := World.cells?_block hc hs
      have hil : i < len := by rw [← hl]; exact (List.getElem?_eq_some_iff.1 hy).1
      have hsp : a.spot = none := by
        obtain ⟨cs0, hc0, _⟩ := hel 0 (by omega)
        obtain ⟨_, hl0, hcell0⟩ := World.cells?_some hc0
        have h0 := hcell0 0 hs
        rw [Nat.zero_mul] at h0
        have e0 : (a.add 0).add 0 = a := by simp [Addr.add]
        rw [e0, List.getElem?_eq_getElem (by omega)] at h0
        cases ha : a.spot with
        | none => rfl
        | some s =>
          exfalso
          unfold World.cell? at h0
          split at h0
          · simp [ha] at h0
          · cases h0
      obtain ⟨ab, ao, asp⟩ := a
      simp only at hsp
      subst hsp
      have hadd : ∀ k, (⟨ab, ao, none⟩ : Addr).add k = ⟨ab, ao + k, none⟩ := fun k => by unfold Addr.add; split <;> simp_all
      refine ⟨ab, ao, rfl, ?_, fun j u hu => ?_⟩
      · rw [hadd] at hbl; exact hbl
      · have hj : j < sz := by rw [← hlen]; exact (List.getElem?_eq_some_iff.1 hu).1
        have := hcell j hj
        rw [Deep.add_add, hadd, hu, ← Nat.add_assoc] at this
        exact this
    · obtain ⟨i, hi, rfl⟩ := List.getElem_of_mem hy
      exact (hp i _ (List.getElem?_eq_getElem hi)).1
theorem open_in {fuel : Nat} {cs : List Value} {x : DataW H × List MemPlace} (h : DataW.trod enc Try.prog w base sp held fuel 44 cs = some x) : ∃ i : In, cs = encI i ∧ WfI i := by
  obtain ⟨y0, y1, y2, n, _, hl, h0, h1, h2⟩ := Deep.trod_struct3 Try.underlying44 h
  rw [cellsIn] at hl
  match cs, hl with
  | [c0, c1, c2], _ =>
    simp only [cells3, List.drop_zero, List.drop_succ_cons, List.take_succ_cons, List.take_zero] at h0 h1 h2
    obtain ⟨k, e0, _, w0⟩ := DataW.trod_int Try.underlying3 h0
    obtain ⟨m, e1, _, w1⟩ := DataW.trod_int Try.underlying3 h1
    obtain ⟨o, e2, _, w2⟩ := DataW.trod_int Try.underlying3 h2
    simp at e0 e1 e2
    subst e0 e1 e2
    exact ⟨⟨k, m, o⟩, rfl, i64_of_wf w0, i64_of_wf w1, i64_of_wf w2⟩
theorem open_word {fuel : Nat} {cs : List Value} {x : DataW H × List MemPlace} (h : DataW.trod enc Try.prog w base sp held fuel 9 cs = some x) : ∃ t : Bs, cs = encN t ∧ t.length ≤ 9223372036854775807 := by
  obtain ⟨s, e2, _, w2⟩ := DataW.trod_string Try.underlying9 h
  subst e2
  refine ⟨s.data.toList, rfl, ?_⟩
  have e : s.data.toList.length = s.size := Array.length_toList
  rw [e]
  unfold maxLen at w2
  omega
/-- A code that lies there. -/
def WfR (w : World) (r : RawC) : Prop := ∃ c : Cz, CzOk w r c ∧ i64 c.np ∧ i64 c.nv ∧ ∀ i ∈ c.ins, WfI i
theorem open_code {fuel : Nat} {cs : List Value} {x : DataW H × List MemPlace} (h : DataW.trod enc Try.prog w base sp held fuel 37 cs = some x) : ∃ r : RawC, cs = encC r ∧ WfR w r := by
  obtain ⟨y0, y1, y2, n, _, hl, h0, h1, h2⟩ := Deep.trod_struct3 Try.underlying37 h
  rw [cellsCd] at hl
  match cs, hl with
  | [c0, c1, c2], _ =>
    simp only [cells3, cellsIns, List.drop_zero, List.drop_succ_cons, List.take_succ_cons, List.take_zero] at h0 h1 h2
    obtain ⟨k, e0, _, w0⟩ := DataW.trod_int Try.underlying3 h0
    obtain ⟨m, e1, _, w1⟩ := DataW.trod_int Try.underlying3 h1
    obtain ⟨l, hs, hw, _⟩ := open_list Try.underlying35 cellsIn (by decide) (fun h => open_in h) h2
    simp at e0 e1
    subst e0 e1
    obtain ⟨ao, cap, rfl, hm, hc⟩ := id hs
    exact ⟨⟨k, m, ⟨ao, l.length, cap⟩⟩, rfl, ⟨k, m, l⟩, ⟨rfl, rfl, hs⟩, i64_of_wf w0, i64_of_wf w1, hw⟩
theorem open_prog {fuel : Nat} {cs : List Value} {x : DataW H × List MemPlace} (h : DataW.trod enc Try.prog w base sp held fuel 25 cs = some x) : ∃ (sc sw : Slc) (p : Pz), cs = [.slice sc.a sc.n sc.c, .slice sw.a sw.n sw.c] ∧ PzOk w sc sw p ∧ WfZ p := by
  obtain ⟨y0, y1, n, _, hl, h0, h1⟩ := ChangeShapes.trod_struct2 Try.underlying25 h
  rw [cellsPg] at hl
  match cs, hl with
  | [c0, c1], _ =>
    simp only [cellsCds, cellsStrs, List.drop_zero, List.drop_succ_cons, List.take_succ_cons, List.take_zero] at h0 h1
    obtain ⟨rs, hs, hw, _⟩ := open_list Try.underlying22 cellsCd (by decide) (fun h => open_code h) h0
    obtain ⟨ws, hs1, hw1, _⟩ := open_list Try.underlying23 cells9 (by decide) (fun h => open_word h) h1
    obtain ⟨cl, hcl, hcp⟩ := list_of (p := fun i (c : Cz) => ∀ r, rs[i]? = some r → CzOk w r c ∧ i64 c.np ∧ i64 c.nv ∧ ∀ i ∈ c.ins, WfI i) rs.length (fun i hi => by
      obtain ⟨c, hc⟩ := hw rs[i] (List.getElem_mem hi)
      exact ⟨c, fun r hr => by rw [List.getElem?_eq_getElem hi] at hr; cases hr; exact hc⟩)
    obtain ⟨ao, cap, rfl, hm, hc⟩ := id hs
    obtain ⟨ao1, cap1, rfl, hm1, hc1⟩ := id hs1
    refine ⟨⟨ao, rs.length, cap⟩, ⟨ao1, ws.length, cap1⟩, ⟨cl, ws⟩, rfl, ⟨⟨rs, hs, hcl.symm, fun i r x e1 e2 => (hcp i x e2 r e1).1⟩, hs1⟩, ⟨fun c hc => ?_, hw1⟩⟩
    obtain ⟨i, hi, rfl⟩ := List.getElem_of_mem hc
    exact (hcp i _ (List.getElem?_eq_getElem hi) _ (List.getElem?_eq_getElem (by rw [← hcl]; exact hi))).2
end
end Go.Proofs.Ytgocmpooppejdaa
