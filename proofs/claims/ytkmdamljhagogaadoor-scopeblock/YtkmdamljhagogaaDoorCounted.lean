/- How often each name stands in a list. -/
import Derived.Test.YtkmdamljhagogaaDoorElem
set_option maxHeartbeats 0
namespace Go.Proofs.YtkmdamljhagogaaDoor
open Go Go.RowKit
theorem snoc_ind {P : List Bs → Prop} (h0 : P []) (h1 : ∀ l x, P l → P (l ++ [x])) (l : List Bs) : P l := by
  have h : ∀ k, P (l.take k) := by
    intro k
    induction k with
    | zero => rw [List.take_zero]; exact h0
    | succ k ih =>
      by_cases hk : k < l.length
      · rw [← List.take_append_getElem hk]; exact h1 _ _ ih
      · rw [List.take_of_length_le (by omega)]
        rwa [List.take_of_length_le (by omega)] at ih
  have := h l.length
  rwa [List.take_length] at this
theorem dup_snoc (x : Bs) : ∀ l : List Bs, dup (l ++ [x]) = (dup l || l.contains x)
  | [] => by simp [dup]
  | y :: l => by
    have h : (l ++ [x]).contains y = (l.contains y || decide (y = x)) := by
      rw [Bool.eq_iff_iff]; simp
    rw [List.cons_append, dup, dup, dup_snoc x l, h]
    rw [Bool.eq_iff_iff]
    simp only [Bool.or_eq_true, decide_eq_true_eq, List.contains_cons, beq_iff_eq]
    constructor
    · rintro ((h | h) | (h | h))
      · exact .inl (.inl h)
      · exact .inr (.inl h.symm)
      · exact .inl (.inr h)
      · exact .inr (.inr h)
    · rintro ((h | h) | (h | h))
      · exact .inl (.inl h)
      · exact .inr (.inl h)
      · exact .inl (.inr h.symm)
      · exact .inr (.inr h)
def cnt1 (A : AMap) (x : Bs) : AMap := A.put x ((A.f x).getD 0 + 1)
def cnt (l : List Bs) : AMap := l.foldl cnt1 AMap.empty
theorem cnt_snoc (l : List Bs) (x : Bs) : cnt (l ++ [x]) = cnt1 (cnt l) x := by unfold cnt; rw [List.foldl_append]; rfl
theorem cnt_some (l : List Bs) : ∀ y, ((cnt l).f y).isSome = l.contains y := by
  refine snoc_ind (P := fun l => ∀ y, ((cnt l).f y).isSome = l.contains y) (fun y => by simp [cnt, AMap.empty]) (fun l x ih y => ?_) l
  rw [cnt_snoc]
  unfold cnt1 AMap.put
  dsimp only
  by_cases hy : y = x
  · simp [hy]
  · rw [if_neg hy, ih y]
    rw [Bool.eq_iff_iff]; simp [hy]
theorem cnt_n (l : List Bs) : (cnt l).n ≤ l.length ∧ (dup l = true ↔ (cnt l).n < l.length) := by
  refine snoc_ind (P := fun l => (cnt l).n ≤ l.length ∧ (dup l = true ↔ (cnt l).n < l.length)) (by simp [cnt, AMap.empty, dup]) (fun l x ih => ?_) l
  have hs := cnt_some l x
  have hn : (cnt (l ++ [x])).n = if l.contains x then (cnt l).n else (cnt l).n + 1 := by
    rw [cnt_snoc]
    unfold cnt1 AMap.put
    dsimp only
    rw [hs]
  rw [hn, dup_snoc, List.length_append, List.length_singleton, Bool.or_eq_true, ih.2]
  have h1 := ih.1
  split
  · rename_i h
    refine ⟨by omega, fun _ => by omega, fun _ => .inr h⟩
  · rename_i h
    refine ⟨by omega, fun hh => ?_, fun hh => .inl (by omega)⟩
    rcases hh with hh | hh
    · omega
    · exact absurd hh h
theorem cnt_v (l : List Bs) : ∀ y, 0 ≤ ((cnt l).f y).getD 0 ∧ ((cnt l).f y).getD 0 ≤ l.length := by
  refine snoc_ind (P := fun l => ∀ y, 0 ≤ ((cnt l).f y).getD 0 ∧ ((cnt l).f y).getD 0 ≤ l.length) (fun y => by simp [cnt, AMap.empty]) (fun l x ih y => ?_) l
  rw [cnt_snoc]
  unfold cnt1 AMap.put
  dsimp only
  rw [List.length_append, List.length_singleton]
  by_cases hy : y = x
  · rw [if_pos hy]; have := ih x; simp only [Option.getD_some]; omega
  · rw [if_neg hy]; have := ih y; omega
theorem counted_any (s : Slc) (p : List Bs) (w : World) (h : Sl encN 1 w s.v p) (hl : ∀ x ∈ p, x.length ≤ 1500) (hn : p.length ≤ 50000) :
    Calls Tryd.prog 25 #[.slice s.a s.n s.c] w fun e w' => e = .returned (.map (some w.heap.size)) ∧ SI w.heap.size (cnt p) w' ∧ Fr nothing w w' := by
  obtain ⟨hpn, hpm⟩ := sl_len h
  obtain ⟨pa, pn, pc⟩ := s
  simp only at hpn
  subst hpn
  have HS := hide h
  have HM := hide (SI.made w)
  have HF0 : Hid (Fr nothing w (w.alloc (.map #[] 0))) := (Fr.refl _ _).alloc _
  have hmm := @run_makeMap Tryd.prog
  clear h
  go_enter Tryd.func25, Tryd.ntmps25
  go_wp2
  clear hmm
  generalize w.alloc (.map #[] 0) = w3 at HM HF0 ⊢
  obtain ⟨mb, hmb⟩ : ∃ x, x = w.heap.size := ⟨_, rfl⟩
  rw [← hmb] at HM
  rw [← hmb]
  have HGE : Hid (w.heap.size ≤ mb) := by show _ ≤ _; omega
  have HMB := hide hmb
  clear hmb
  go_loopw [9, 5] (fun i _ wr => ∃ (q : Nat), q ≤ p.length ∧ i = .int .i64 q ∧ Hid (SI mb (cnt (p.take q)) wr ∧ Fr nothing w wr)) (fun i _ _ => p.length - (intOf i).toNat)
  case atStart => exact ⟨0, Nat.zero_le _, rfl, HM.out, HF0.out⟩
  case round =>
    obtain ⟨q, hq, rfl, hR⟩ := hrel
    by_cases hql : q < p.length
    · have hx : p[q]? = some p[q] := List.getElem?_eq_getElem hql
      have hxm : p[q] ∈ p := List.getElem_mem hql
      have htq : p.take (q + 1) = p.take q ++ [p[q]] := (List.take_append_getElem hql).symm
      generalize p[q] = x at hx hxm htq
      obtain ⟨g, o, hg, dg, u0⟩ := sl_elem1 (s := ⟨pa, p.length, pc⟩) HS.out hx
      simp only at hg
      subst hg
      obtain ⟨hM, hF⟩ := hR.out
      rw [← hF.cell (p := ⟨g, _, none⟩) dg id] at u0
      have eg : g < wr.heap.size := Nat.lt_of_lt_of_le dg hF.size
      have hxl := hl x hxm
      have hv := cnt_v (p.take q) x
      have hc := (cnt_n (p.take q)).1
      rw [List.length_take, Nat.min_eq_left hq] at hv hc
      have hlk := hM.look x (by omega)
      obtain ⟨wu, ru, hs, hf⟩ := hM.store x (by omega) (((cnt (p.take q)).f x).getD 0 + 1) (by omega) (by omega) (by omega)
      have HS2 : Hid (SI mb (cnt (p.take (q + 1))) wu) := by rw [htq, cnt_snoc]; exact hs
      have HF2 := hide (hF.then hf (fun k hk e => by have := HGE.out; omega))
      have hv1 := hv.1
      have hv2 := hv.2
      clear hR hM hF hs hf hv hc hx
      generalize ((cnt (p.take q)).f x).getD 0 = c at *
      have hv3 : c + 1 ≤ 9223372036854775807 := by omega
      go_wp2
      go_roundw
      case rel => exact ⟨q + 1, by omega, by go_num, HS2.out, HF2.out⟩
      case measure => simp [intOf]; omega
    · have hqe : q = p.length := by omega
      have HM2 : Hid (SI mb (cnt p) wr) := by have := hR.out.1; rw [hqe, List.take_length] at this; exact this
      have HF2 := hide hR.out.2
      clear hR
      go_wp2
      go_ret
      rw [← HMB.out]
      exact ⟨rfl, HM2.out, HF2.out⟩
end Go.Proofs.YtkmdamljhagogaaDoor
