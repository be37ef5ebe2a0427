/- Arguments opened: bytes. -/
import Derived.Test.YtcfjieebcgpapaaTurns
import Derived.Deep.Slices
import Derived.Deep.Strs
import Derived.ProofKit
namespace Go.Proofs.Ytcfjieebcgpapaa
open Go.RowKit Go.Lib

theorem list_of {α : Type} {p : Nat → α → Prop} : ∀ (n : Nat), (∀ i, i < n → ∃ x, p i x) → ∃ l : List α, l.length = n ∧ ∀ i x, l[i]? = some x → p i x
  | 0, _ => ⟨[], rfl, fun i x h => by simp at h⟩
  | n + 1, h => by
    obtain ⟨l, hl, hp⟩ := list_of n (fun i hi => h i (by omega))
    obtain ⟨x, hx⟩ := h n (by omega)
    refine ⟨l ++ [x], by simp [hl], fun i y hy => ?_⟩
    rcases Nat.lt_or_ge i n with h1 | h1
    · rw [List.getElem?_append_left (by omega)] at hy
      exact hp i y hy
    · rw [List.getElem?_append_right (by omega)] at hy
      have h2 : i < n + 1 := by
        have := (List.getElem?_eq_some_iff.1 hy).1
        simp at this; omega
      obtain rfl : i = n := by omega
      rw [hl] at hy
      simp at hy
      rw [← hy]; exact hx

theorem cells5 : Try.prog.cellsOf 5 = 1 := by kernel_rfl

section
variable {H : Type} {enc : TypeId × Value → H} {w : World} {base : Nat} {sp : Nat → Bool} {held : Bool}

theorem i64_of_wf {n : Int} (h : (Lit.int .i64 n).wf = true) : -9223372036854775808 ≤ n ∧ n ≤ 9223372036854775807 := by
  simpa [Lit.wf, IntKind.min, IntKind.max, IntKind.signed, IntKind.bits] using h

theorem open_byte {fuel : Nat} {cs : List Value} {x : DataW H × List MemPlace} (h : DataW.trod enc Try.prog w base sp held fuel 5 cs = some x) : ∃ v : UInt8, cs = encB v ∧ True := by
  obtain ⟨k, e0, _, w0⟩ := DataW.trod_int Try.underlying5 h
  have hk : 0 ≤ k ∧ k ≤ 255 := by simpa [Lit.wf, IntKind.min, IntKind.max, IntKind.signed, IntKind.bits] using w0
  refine ⟨UInt8.ofNat k.toNat, ?_, trivial⟩
  rw [e0]
  have h2 : (UInt8.ofNat k.toNat).toNat = k.toNat := small_toNat (by omega)
  have h3 : (((UInt8.ofNat k.toNat).toNat : Nat) : Int) = k := by rw [h2]; omega
  unfold encB byteV
  rw [h3]

theorem open_list {α : Type} {encA : α → List Value} {sz : Nat} {Wf : α → Prop} {t e : TypeId} (ht : Try.prog.underlying t = some (.slice e)) (hce : Try.prog.cellsOf e = sz) (hs : 0 < sz)
    (hopen : ∀ {fuel : Nat} {cs : List Value} {x : DataW H × List MemPlace}, DataW.trod enc Try.prog w base sp held fuel e cs = some x → ∃ a : α, cs = encA a ∧ Wf a)
    {fuel : Nat} {v : Value} {x : DataW H × List MemPlace} (h : DataW.trod enc Try.prog w base sp held fuel t [v] = some x) :
    ∃ l : List α, Sl encA sz w v l ∧ (∀ a ∈ l, Wf a) ∧ (∃ ao cap, v = .slice ao l.length cap ∧ l.length ≤ cap) ∧ ((x.1 = .nil ∧ l = []) ∨ ∃ els spare, x.1 = .slice els spare ∧ els.length = l.length) := by
  rcases Deep.open_slice ht h with ⟨hcs, rfl⟩ | ⟨a, len, cap, m, n, D, Pl, hcs, hb, hlc, hcm, hm, rfl, hel⟩
  · obtain rfl : v = .slice none 0 0 := by simpa using hcs
    exact ⟨[], ⟨none, 0, rfl, by unfold maxLen; simp, fun i x hx => by simp at hx⟩, by simp, ⟨none, 0, rfl, Nat.le_refl _⟩, .inl ⟨rfl, rfl⟩⟩
  · obtain rfl : v = .slice (some a) len cap := by simpa using hcs
    have hlm : len ≤ m := by rw [hm]; split <;> omega
    rw [hce] at hel
    obtain ⟨l, hl, hp⟩ := list_of (p := fun i (y : α) => Wf y ∧ w.cells? base (a.add (i * sz)) sz = some (encA y)) len (fun i hi => by
      obtain ⟨cs', hc', hd'⟩ := hel i (by omega)
      obtain ⟨y, rfl, hw⟩ := hopen hd'
      exact ⟨y, hw, hc'⟩)
    refine ⟨l, ⟨some a, cap, by rw [hl], by omega, fun i y hy => ?_⟩, fun y hy => ?_, ⟨some a, cap, by rw [hl], by omega⟩, .inr ⟨_, _, rfl, by simp [hl]⟩⟩
    · obtain ⟨_, hc⟩ := hp i y hy
      obtain ⟨_, hlen, hcell⟩ := World.cells?_some hc
      have hbl := World.cells?_block hc hs
      have hil : i < len := by rw [← hl]; exact (List.getElem?_eq_some_iff.1 hy).1
      have hsp : a.spot = none := by
        obtain ⟨cs0, hc0, _⟩ := hel 0 (by omega)
        obtain ⟨_, hl0, hcell0⟩ := World.cells?_some hc0
        have h0 := hcell0 0 hs
        rw [Nat.zero_mul] at h0
        have e0 : (a.add 0).add 0 = a := by simp [Addr.add]
        rw [e0, List.getElem?_eq_getElem (by omega)] at h0
        cases ha : a.spot with
        | none => rfl
        | some s =>
          exfalso
          unfold World.cell? at h0
          split at h0
          · simp [ha] at h0
          · cases h0
      obtain ⟨ab, ao, asp⟩ := a
      simp only at hsp
      subst hsp
      have hadd : ∀ k, (⟨ab, ao, none⟩ : Addr).add k = ⟨ab, ao + k, none⟩ := fun k => by unfold Addr.add; split <;> simp_all
      refine ⟨ab, ao, rfl, ?_, fun j u hu => ?_⟩
      · rw [hadd] at hbl; exact hbl
      · have hj : j < sz := by rw [← hlen]; exact (List.getElem?_eq_some_iff.1 hu).1
        have := hcell j hj
        rw [Deep.add_add, hadd, hu, ← Nat.add_assoc] at this
        exact this
    · obtain ⟨i, hi, rfl⟩ := List.getElem_of_mem hy
      exact (hp i _ (List.getElem?_eq_getElem hi)).1
end
end Go.Proofs.Ytcfjieebcgpapaa
