/- Numbers, texts and what is made of two values: what the program's and the document's functions answer. -/
import Derived.Test.YtcemfgknnpjlhaaDoorAgain
namespace Go.Proofs.YtcemfgknnpjlhaaDoor
open Go.RowKit Go.Ws

theorem tmod_small {n m : Int} (h0 : -m < n) (h1 : n < m) : n.tmod m = n := by
  rcases Int.le_total 0 n with h | h
  · exact Int.tmod_eq_of_lt h h1
  · have : (-n).tmod m = -n := Int.tmod_eq_of_lt (by omega) (by omega)
    rw [Int.neg_tmod] at this
    omega
theorem tmod_step (x : Int) : x - x.tdiv 1073741825 * 1073741825 = x.tmod 1073741825 := by
  have := Int.tmod_add_mul_tdiv x 1073741825
  omega
theorem tmod_bound (x : Int) : -1073741825 < x.tmod 1073741825 ∧ x.tmod 1073741825 < 1073741825 := by
  constructor
  · have := Int.tmod_lt_of_pos (-x) (show (0 : Int) < 1073741825 by decide)
    rw [Int.neg_tmod] at this
    omega
  · exact Int.tmod_lt_of_pos x (by decide)

set_option maxHeartbeats 400000 in
theorem round_any (n : Int) (w : World) (h0 : -9223372036854775808 ≤ n) (h1 : n ≤ 9223372036854775807) :
    Calls Tryd.prog 23 #[.int .i64 n] w fun e w' => e = .returned (.int .i64 (n.tmod 1073741825)) ∧ w' = w := by
  have hb := tmod_bound n
  have e3 := tmod_step n
  have hs0 : 0 ≤ n → 0 ≤ n.tmod 1073741825 := fun h => Int.tmod_nonneg _ h
  have hs1 : n ≤ 0 → n.tmod 1073741825 ≤ 0 := fun h => by
    have := Int.tmod_nonneg 1073741825 (show 0 ≤ -n by omega)
    rw [Int.neg_tmod] at this
    omega
  generalize hq : n.tdiv 1073741825 = q at e3
  have e1 : IntKind.i64.wrap q = q := wrapE (by omega) (by omega)
  have e2 : IntKind.i64.wrap (q * 1073741825) = q * 1073741825 := wrapE (by omega) (by omega)
  have e : -1073741825 < n ∧ n < 1073741825 → n.tmod 1073741825 = n := fun h => tmod_small h.1 h.2
  generalize n.tmod 1073741825 = r at *
  obtain ⟨hb1, hb2⟩ := hb
  go_enter Tryd.func23, Tryd.ntmps23
  go_wp2
  go_loopw [0] (fun v wr => wr = w ∧ ((v = .int .i64 n) ∨ (v = .int .i64 r))) (fun i _ => (intOf i).natAbs)
  case atStart => exact ⟨rfl, .inl rfl⟩
  case round =>
    obtain ⟨rfl, rfl | rfl⟩ := hrel
    · by_cases hs1 : 1073741825 ≤ n
      · go_wp2
        go_roundw
        case rel => exact ⟨trivial, .inr rfl⟩
        case measure => simp [intOf]; omega
      · by_cases hs2 : n ≤ -1073741825
        · go_wp2
          go_roundw
          case rel => exact ⟨trivial, .inr rfl⟩
          case measure => simp [intOf]; omega
        · have := e ⟨by omega, by omega⟩
          subst this
          go_wp2
          go_ret
          exact ⟨rfl, rfl⟩
    · go_wp2
      go_ret
      exact ⟨rfl, rfl⟩

theorem refint_any (n : Int) (w : World) (h0 : -9223372036854775808 ≤ n) (h1 : n ≤ 9223372036854775807) :
    Calls Tryd.prog 7 #[.int .i64 n] w fun e w' => e = .returned (vv ⟨0, n.tmod 1073741825, ⟨#[]⟩⟩) ∧ Below w.heap.size w w' := by
  go_enter Tryd.func7, Tryd.ntmps7
  go_wp2_with (go_at_call 23; refine (round_any n _ h0 h1).mono ?_; rintro e w1 ⟨rfl, rfl⟩)
  refine bodyPost_ret (v := vv ⟨0, n.tmod 1073741825, ⟨#[]⟩⟩) (by simp [results, Tryd.results7, go_sem]) rfl ⟨rfl, ?_⟩
  exact (Below.refl _ _).alloc (Nat.le_refl _) _

def cutT (s : ByteArray) : ByteArray := if 60 < s.size then s.extract 0 60 else s
set_option maxHeartbeats 400000 in
theorem text_any (s : ByteArray) (w : World) (hm : s.size ≤ maxLen) :
    Calls Tryd.prog 8 #[.string s] w fun e w' => e = .returned (vv ⟨1, 0, cutT s⟩) ∧ Below w.heap.size w w' := by
  unfold maxLen at hm
  by_cases h : 60 < s.size
  · rw [show cutT s = s.extract 0 60 by simp [cutT, h]]
    go_enter Tryd.func8, Tryd.ntmps8
    go_wp2
    refine bodyPost_ret (v := vv ⟨1, 0, s.extract 0 60⟩) (by simp [results, Tryd.results8, go_sem]) rfl ⟨rfl, ?_⟩
    exact (Below.refl _ _).alloc (Nat.le_refl _) _
  · rw [show cutT s = s by simp [cutT, h]]
    exact text_short s w (by omega)
set_option maxHeartbeats 400000 in
theorem reftext_any (s : ByteArray) (w : World) (hm : s.size ≤ maxLen) :
    Calls Tryd.prog 9 #[.string s] w fun e w' => e = .returned (vv ⟨1, 0, cutT s⟩) ∧ Below w.heap.size w w' := by
  unfold maxLen at hm
  by_cases h : 60 < s.size
  · rw [show cutT s = s.extract 0 60 by simp [cutT, h]]
    go_enter Tryd.func9, Tryd.ntmps9
    go_wp2
    refine bodyPost_ret (v := vv ⟨1, 0, s.extract 0 60⟩) (by simp [results, Tryd.results9, go_sem]) rfl ⟨rfl, ?_⟩
    exact (Below.refl _ _).alloc (Nat.le_refl _) _
  · rw [show cutT s = s by simp [cutT, h]]
    go_enter Tryd.func9, Tryd.ntmps9
    go_wp2
    refine bodyPost_ret (v := vv ⟨1, 0, s⟩) (by simp [results, Tryd.results9, go_sem]) rfl ⟨rfl, ?_⟩
    exact (Below.refl _ _).alloc (Nat.le_refl _) _

def bitI : Bool → Int
  | true => 1
  | false => 0
set_option maxHeartbeats 400000 in
theorem truth_any (b : Bool) (w : World) :
    Calls Tryd.prog 26 #[.bool b] w fun e w' => e = .returned (vv ⟨0, bitI b, ⟨#[]⟩⟩) ∧ Below w.heap.size w w' := by
  cases b
  · go_enter Tryd.func26, Tryd.ntmps26
    go_wp2_with (go_at_call 6; refine (int_any _ _ (by decide) (by decide)).mono ?_; rintro e w1 ⟨rfl, hb1⟩; obtain ⟨hc, hf⟩ := bcell hb1; have hz : w.heap.size < w1.heap.size := (by have := hb1.size; simp at this; omega); have HB := hide hb1; clear hb1)
    refine bodyPost_ret (v := vv ⟨0, 0, ⟨#[]⟩⟩) (by simp [results, Tryd.results26, go_sem, hc]) rfl ⟨rfl, ?_⟩
    exact ((((Below.refl _ _).alloc (Nat.le_refl _) _).trans (HB.out.mono (by simp))).setCell (Nat.le_refl _) _ |>.setCell (Nat.le_refl _) _).setCell (Nat.le_refl _) _
  · go_enter Tryd.func26, Tryd.ntmps26
    go_wp2_with (go_at_call 6; refine (int_any _ _ (by decide) (by decide)).mono ?_; rintro e w1 ⟨rfl, hb1⟩; obtain ⟨hc, hf⟩ := bcell hb1; have hz : w.heap.size < w1.heap.size := (by have := hb1.size; simp at this; omega); have HB := hide hb1; clear hb1)
    refine bodyPost_ret (v := vv ⟨0, 1, ⟨#[]⟩⟩) (by simp [results, Tryd.results26, go_sem, hc]) rfl ⟨rfl, ?_⟩
    exact ((((Below.refl _ _).alloc (Nat.le_refl _) _).trans (HB.out.mono (by simp))).setCell (Nat.le_refl _) _ |>.setCell (Nat.le_refl _) _).setCell (Nat.le_refl _) _

theorem law4 : Maps.Keyed Tryd.prog 4 := Maps.bool_keyed Tryd.underlying4
set_option maxHeartbeats 400000 in
theorem bit_any (b : Bool) (w : World) :
    Calls Tryd.prog 29 #[.bool b] w fun e w' => e = .returned (.tuple #[vv ⟨0, bitI b, ⟨#[]⟩⟩, .int .i64 0]) ∧ Below w.heap.size w w' := by
  have hmm := @run_makeMap Tryd.prog
  have hM := World.ownsMap_made (w.alloc (.cells #[.int .i64 0, .int .i64 0, .string ⟨#[]⟩] 25)) Tryd.prog 4 (plainElem (H := Unit) Tryd.prog 3)
  have hO : (w.alloc (.cells #[.int .i64 0, .int .i64 0, .string ⟨#[]⟩] 25)).heap.size = w.heap.size + 1 := by simp
  rw [hO] at hM
  obtain ⟨w1, hr1, hm1, hg1⟩ := hM.update law4 Tryd.underlying50 (by unfold maxLen; omega) (Maps.keyOf_bool_mk Tryd.underlying4 true) (plainElem_int Tryd.underlying3 (q := .i64) (a := 1) (by decide))
  obtain ⟨w2, hr2, hm2, hg2⟩ := hm1.update law4 Tryd.underlying50 (by unfold maxLen; omega) (Maps.keyOf_bool_mk Tryd.underlying4 false) (plainElem_int Tryd.underlying3 (q := .i64) (a := 0) (by decide))
  obtain ⟨c, hr3, hat, hwc⟩ := hm2.lookup_int law4 Tryd.underlying50 Tryd.underlying3 (zero3 _) (Maps.keyOf_bool_mk Tryd.underlying4 b)
  have hcb : c = bitI b := by
    have h1 : DataW.atKey ((((DataW.map [] : DataW Unit).put (.bool true) (.lit (.int .i64 1))).put (.bool false) (.lit (.int .i64 0)))) (.bool b) (.lit (.int .i64 0)) = .lit (.int .i64 (bitI b)) := by
      cases b <;> rfl
    rw [h1] at hat
    simpa using hat.symm
  subst hcb
  have F1 : Fr (fun j => j = w.heap.size + 1) _ w1 := (Fr.refl (fun j => j = w.heap.size + 1) _).grown hg1 (fun k hk => .inl (by simpa using hk.symm))
  have F2 : Fr (fun j => j = w.heap.size + 1) _ w2 := F1.grown hg2 (fun k hk => .inl (by simpa using hk.symm))
  have hz : w.heap.size + 2 ≤ w2.heap.size := by have := F2.size; simpa using this
  have k0 := fun j => (F2.cell (p := ⟨w.heap.size, j, none⟩) (by simp; omega) (by show ¬ w.heap.size = _; omega)).trans ((World.cell?_alloc_past _ _ _ (by simp)).trans (World.cell?_alloc_new _ _ _ _))
  have f0 := fun j => (F2.frozen (p := ⟨w.heap.size, j, none⟩) (by simp; omega) (by show ¬ w.heap.size = _; omega)).trans ((World.frozen?_alloc_past _ _ _ (by simp)).trans (World.frozen?_alloc_new _ _ _ _))
  have c0 := k0 0
  have c1 := k0 1
  have c2 := k0 2
  have hz2 : w.heap.size < w2.heap.size := by omega
  have z0 := f0 0
  have z1 := f0 1
  have z2 := f0 2
  simp only [List.getElem?_toArray, List.getElem?_cons_zero, List.getElem?_cons_succ] at c0 c1 c2
  have B : Hid (Below w.heap.size w w2) := (((Below.refl _ w).alloc (Nat.le_refl _) _).alloc (by simp) _).trans (F2.below (by simp; omega) (fun j hj e => by omega))
  clear F1 F2 hg1 hg2 hm1 hm2 hM hwc k0 f0
  go_enter Tryd.func29, Tryd.ntmps29
  go_wp2
  refine bodyPost_ret (v := .tuple #[vv ⟨0, bitI b, ⟨#[]⟩⟩, .int .i64 0]) (by simp [results, Tryd.results29, go_sem, c0, c1, c2]) rfl ⟨rfl, ?_⟩
  exact ((B.out.setCell (Nat.le_refl _) _).setCell (Nat.le_refl _) _).setCell (Nat.le_refl _) _
end Go.Proofs.YtcemfgknnpjlhaaDoor
