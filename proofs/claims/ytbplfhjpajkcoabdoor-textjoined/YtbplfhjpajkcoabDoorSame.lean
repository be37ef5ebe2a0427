/- What is the same is told so. -/
import Derived.Test.YtbplfhjpajkcoabDoorRep
namespace Go.Proofs.YtbplfhjpajkcoabDoor
open Go.RowKit

theorem sl_elem4 {w : World} {s : Slc} {rs : List RawE} (h : Sl encE 4 w s.v rs) {i : Nat} {r : RawE} (hi : rs[i]? = some r) : ∃ b off, s.a = some ⟨b, off, none⟩ ∧ s.n = rs.length ∧ b < w.heap.size ∧ w.cell? ⟨b, off + i * 4, none⟩ = some (.int .i64 r.k) ∧ w.cell? ⟨b, off + i * 4 + 1, none⟩ = some (.int .i64 r.n) ∧ w.cell? ⟨b, off + i * 4 + 2, none⟩ = some (.string (bs r.t)) ∧ w.cell? ⟨b, off + i * 4 + 3, none⟩ = some (.slice r.s.a r.s.n r.s.c) := by
  obtain ⟨ao, cap, he, _, hc⟩ := h
  obtain ⟨b, off, rfl, hb, hcell⟩ := hc i r hi
  simp only [Value.slice.injEq] at he
  obtain ⟨h1, h2, _⟩ := he
  exact ⟨b, off, h1, h2, hb, hcell 0 _ rfl, hcell 1 _ rfl, hcell 2 _ rfl, hcell 3 _ rfl⟩
theorem sl_len {α : Type} {enc : α → List Value} {sz : Nat} {w : World} {s : Slc} {rs : List α} (h : Sl enc sz w s.v rs) : s.n = rs.length ∧ rs.length ≤ 9223372036854775807 := by
  obtain ⟨ao, cap, he, hm, _⟩ := h
  simp only [Value.slice.injEq] at he
  exact ⟨he.2.1, by unfold maxLen at hm; omega⟩
abbrev eo (a : RawE) : Obj := .cells #[.int .i64 a.k, .int .i64 a.n, .string (bs a.t), .slice a.s.a a.s.n a.s.c] 90
set_option maxHeartbeats 1000000 in
set_option maxRecDepth 20000 in
theorem sameExpr_step (k n : Int) (t : Bs) (l : List Ex) (ih : ∀ x ∈ l, ∀ (a b : RawE) (w : World), ExOk w (fun _ => True) a x → ExOk w (fun _ => True) b x → Calls Tryd.prog 35 #[ev a, ev b] w fun e w' => e = .returned (.bool true) ∧ Fr nothing w w')
    (aa ba : Option Addr) (ac bc : Nat) (ra rb : List RawE) (w : World) (hsa : Sl encE 4 w (.slice aa l.length ac) ra) (hsb : Sl encE 4 w (.slice ba l.length bc) rb) (hla : ra.length = l.length) (hlb : rb.length = l.length)
    (hea : ∀ (i : Nat) (r : RawE) (x : Ex), ra[i]? = some r → l[i]? = some x → ExOk w (fun _ => True) r x) (heb : ∀ (i : Nat) (r : RawE) (x : Ex), rb[i]? = some r → l[i]? = some x → ExOk w (fun _ => True) r x) :
    Calls Tryd.prog 35 #[ev ⟨k, n, t, ⟨aa, l.length, ac⟩⟩, ev ⟨k, n, t, ⟨ba, l.length, bc⟩⟩] w fun e w' => e = .returned (.bool true) ∧ Fr nothing w w' := by
  have hll : l.length ≤ 9223372036854775807 := by have := (sl_len (s := ⟨aa, l.length, ac⟩) hsa).2; omega
  have hF0 : Fr nothing w ((w.alloc (eo ⟨k, n, t, ⟨aa, l.length, ac⟩⟩)).alloc (eo ⟨k, n, t, ⟨ba, l.length, bc⟩⟩)) := ((Fr.refl _ w).alloc _).alloc _
  have b1 : ((w.alloc (eo ⟨k, n, t, ⟨aa, l.length, ac⟩⟩)).alloc (eo ⟨k, n, t, ⟨ba, l.length, bc⟩⟩)).cell? ⟨w.heap.size, 3, none⟩ = some (.slice aa l.length ac) := (World.cell?_alloc_past _ _ _ (by simp)).trans (World.cell?_alloc_new _ _ _ _)
  have b2 : ((w.alloc (eo ⟨k, n, t, ⟨aa, l.length, ac⟩⟩)).alloc (eo ⟨k, n, t, ⟨ba, l.length, bc⟩⟩)).cell? ⟨w.heap.size + 1, 3, none⟩ = some (.slice ba l.length bc) := by
    have := World.cell?_alloc_new (w.alloc (eo ⟨k, n, t, ⟨aa, l.length, ac⟩⟩)) #[.int .i64 k, .int .i64 n, .string (bs t), .slice ba l.length bc] 90 3
    simp only [World.size_alloc] at this
    exact this
  have HF0 := hide hF0
  have B1 := hide b1
  have B2 := hide b2
  have HSA := hide hsa
  have HSB := hide hsb
  have HEA := hide hea
  have HEB := hide heb
  have HIH := hide ih
  clear hF0 b1 b2 hsa hsb hea heb ih
  go_enter Tryd.func35, Tryd.ntmps35
  go_wp2
  go_loopw [37, 5] (fun i _ wr => ∃ m : Nat, m ≤ l.length ∧ i = .int .i64 m ∧ Hid (Fr nothing ((w.alloc (eo ⟨k, n, t, ⟨aa, l.length, ac⟩⟩)).alloc (eo ⟨k, n, t, ⟨ba, l.length, bc⟩⟩)) wr)) (fun i _ _ => l.length - (intOf i).toNat)
  case atStart => exact ⟨0, Nat.zero_le _, rfl, Fr.refl _ _⟩
  case round =>
    obtain ⟨m, hm, rfl, hR⟩ := hrel
    by_cases hlt : m < l.length
    · have hFw := HF0.out.trans hR.out
      have ha : ra[m]? = some (ra[m]'(by omega)) := List.getElem?_eq_getElem _
      have hb : rb[m]? = some (rb[m]'(by omega)) := List.getElem?_eq_getElem _
      have hx : l[m]? = some l[m] := List.getElem?_eq_getElem _
      generalize ra[m]'(by omega) = a at ha
      generalize rb[m]'(by omega) = b at hb
      have hxm : l[m] ∈ l := List.getElem_mem hlt
      generalize l[m] = x at hx hxm
      obtain ⟨g1, o1, rfl, -, d1, p0, p1, p2, p3⟩ := sl_elem4 (s := ⟨aa, l.length, ac⟩) HSA.out ha
      obtain ⟨g2, o2, rfl, -, d2, q0, q1, q2, q3⟩ := sl_elem4 (s := ⟨ba, l.length, bc⟩) HSB.out hb
      rw [← hFw.cell (p := ⟨g1, _, none⟩) d1 id] at p0 p1 p2 p3
      rw [← hFw.cell (p := ⟨g2, _, none⟩) d2 id] at q0 q1 q2 q3
      have s1 := (hR.out.cell (p := ⟨w.heap.size, 3, none⟩) (by simp; omega) id).trans B1.out
      have s2 := (hR.out.cell (p := ⟨w.heap.size + 1, 3, none⟩) (by simp) id).trans B2.out
      have e1 : g1 < wr.heap.size := Nat.lt_of_lt_of_le d1 hFw.size
      have e2 : g2 < wr.heap.size := Nat.lt_of_lt_of_le d2 hFw.size
      have hz := hR.out.size
      simp only [World.size_alloc] at hz
      have e3 : w.heap.size < wr.heap.size := by omega
      have e4 : w.heap.size + 1 < wr.heap.size := by omega
      have j0 : (0 : Int) ≤ (m : Int) := by omega
      have j1 : (m : Int) < (l.length : Int) := by omega
      have HC : Hid (∀ w', Fr nothing wr w' → Calls Tryd.prog 35 #[ev a, ev b] w' fun e w'' => e = .returned (.bool true) ∧ Fr nothing w' w'') := fun w' hf => HIH.out x hxm a b w'
        (ex_stays _ _ nothing _ _ _ _ (HEA.out m a x ha hx) (hFw.trans hf) (fun _ _ => id) (fun _ _ => trivial)) (ex_stays _ _ nothing _ _ _ _ (HEB.out m b x hb hx) (hFw.trans hf) (fun _ _ => id) (fun _ _ => trivial))
      clear ha hb hx hxm hFw d1 d2 hla hlb hz
      go_wp2_with fail
      go_region_held3 (fun w' => w'.cell? ⟨w.heap.size, 3, none⟩ = some (.slice (some ⟨g1, o1, none⟩) l.length ac) ∧ w'.cell? ⟨w.heap.size + 1, 3, none⟩ = some (.slice (some ⟨g2, o2, none⟩) l.length bc) ∧ w'.cell? ⟨g1, o1 + m * 4, none⟩ = some (.int .i64 a.k) ∧ w'.cell? ⟨g1, o1 + m * 4 + 1, none⟩ = some (.int .i64 a.n) ∧ w'.cell? ⟨g1, o1 + m * 4 + 2, none⟩ = some (.string (bs a.t)) ∧ w'.cell? ⟨g1, o1 + m * 4 + 3, none⟩ = some (.slice a.s.a a.s.n a.s.c) ∧ w'.cell? ⟨g2, o2 + m * 4, none⟩ = some (.int .i64 b.k) ∧ w'.cell? ⟨g2, o2 + m * 4 + 1, none⟩ = some (.int .i64 b.n) ∧ w'.cell? ⟨g2, o2 + m * 4 + 2, none⟩ = some (.string (bs b.t)) ∧ w'.cell? ⟨g2, o2 + m * 4 + 3, none⟩ = some (.slice b.s.a b.s.n b.s.c)) (go_keep)
        (first | (go_at_call 35; refine (HC.out _ (Fr.refl _ _).drew).mono ?_; rintro e w5 ⟨rfl, hf5⟩; have hF5 : Hid (Fr nothing wr w5) := ((Fr.refl nothing wr).drew.trans hf5); have t1 := (hF5.out.cell (p := ⟨w.heap.size, 3, none⟩) e3 id).trans s1; have t2 := (hF5.out.cell (p := ⟨w.heap.size + 1, 3, none⟩) e4 id).trans s2; have t3 := (hF5.out.cell (p := ⟨g1, _, none⟩) e1 id).trans p0; have t4 := (hF5.out.cell (p := ⟨g1, _, none⟩) e1 id).trans p1; have t5 := (hF5.out.cell (p := ⟨g1, _, none⟩) e1 id).trans p2; have t6 := (hF5.out.cell (p := ⟨g1, _, none⟩) e1 id).trans p3; have t7 := (hF5.out.cell (p := ⟨g2, _, none⟩) e2 id).trans q0; have t8 := (hF5.out.cell (p := ⟨g2, _, none⟩) e2 id).trans q1; have t9 := (hF5.out.cell (p := ⟨g2, _, none⟩) e2 id).trans q2; have t10 := (hF5.out.cell (p := ⟨g2, _, none⟩) e2 id).trans q3; clear hf5))
      go_wp2
      go_roundw
      case rel => exact ⟨m + 1, by omega, by go_num, hR.out.trans hF5.out⟩
      case measure => simp [intOf]; omega
    · go_wp2
      go_ret
      exact ⟨rfl, HF0.out.trans hR.out⟩
theorem ex_any {w : World} {P : Nat → Prop} {r : RawE} {x : Ex} (h : ExOk w P r x) : ExOk w (fun _ => True) r x := ex_stays _ _ nothing _ _ _ _ h (Fr.refl _ _) (fun _ _ => id) (fun _ _ => trivial)
theorem sameExpr_yes : ∀ (x : Ex) (a b : RawE) (w : World), ExOk w (fun _ => True) a x → ExOk w (fun _ => True) b x →
    Calls Tryd.prog 35 #[ev a, ev b] w fun e w' => e = .returned (.bool true) ∧ Fr nothing w w'
  | .mk k n t l, a, b, w, ha, hb => by
    cases ha with
    | mk _ _ _ sa ra _ hsa _ hla hea =>
    cases hb with
    | mk _ _ _ sb rb _ hsb _ hlb heb =>
    obtain ⟨aa, an, ac⟩ := sa
    obtain ⟨ba, bn, bc⟩ := sb
    have n1 : an = l.length := (sl_len hsa).1.trans hla
    have n2 : bn = l.length := (sl_len hsb).1.trans hlb
    subst n1 n2
    exact sameExpr_step k n t l (fun x hx a b w ha hb => sameExpr_yes x a b w ha hb) aa ba ac bc ra rb w hsa hsb hla hlb hea heb
termination_by x => SizeOf.sizeOf x
decreasing_by
  have := List.sizeOf_lt_of_mem hx
  simp
  omega
end Go.Proofs.YtbplfhjpajkcoabDoor
