/- What is made of two values: the program's Two and the document's, alike. -/
import Derived.Test.YtcemfgknnpjlhaaDoorTexts
namespace Go.Proofs.YtcemfgknnpjlhaaDoor
open Go.RowKit Go.Ws
set_option maxHeartbeats 400000 in
theorem cell_two_low (op : Int) (a b : Val) (w : World) (h : op < 1) :
    Calls Tryd.prog 12 #[.int .i64 op, vv a, vv b] w fun e w' => e = .returned (.tuple #[vv zeroV, .int .i64 1]) ∧ Below w.heap.size w w' := by
  go_enter Tryd.func12, Tryd.ntmps12
  go_wp2
  all_goals refine bodyPost_ret (v := .tuple #[vv zeroV, .int .i64 1]) (by simp [results, Tryd.results12, go_sem, zeroV]) rfl ⟨rfl, ?_⟩
  all_goals exact ((((Below.refl _ _).alloc (Nat.le_refl _) _).alloc (by simp) _).alloc (by simp; omega) _)
set_option maxHeartbeats 400000 in
theorem cell_two_high (op : Int) (a b : Val) (w : World) (h : 5 < op) :
    Calls Tryd.prog 12 #[.int .i64 op, vv a, vv b] w fun e w' => e = .returned (.tuple #[vv zeroV, .int .i64 1]) ∧ Below w.heap.size w w' := by
  go_enter Tryd.func12, Tryd.ntmps12
  go_wp2
  all_goals refine bodyPost_ret (v := .tuple #[vv zeroV, .int .i64 1]) (by simp [results, Tryd.results12, go_sem, zeroV]) rfl ⟨rfl, ?_⟩
  all_goals exact ((((Below.refl _ _).alloc (Nat.le_refl _) _).alloc (by simp) _).alloc (by simp; omega) _)
set_option maxHeartbeats 400000 in
theorem cell_two_same (a b : Val) (w : World)  :
    Calls Tryd.prog 12 #[.int .i64 5, vv a, vv b] w fun e w' => e = .returned (.tuple #[vv ⟨0, bitI (sameV a b), ⟨#[]⟩⟩, .int .i64 0]) ∧ Below w.heap.size w w' := by
  have heq := eq25 a b
  go_enter Tryd.func12, Tryd.ntmps12
  go_wp2_with fail
  refine (truth_any _ _).mono ?_
  rintro e w1 ⟨rfl, hb1⟩; obtain ⟨hc, hf⟩ := bcell hb1; have hz : w.heap.size + 2 < w1.heap.size := (by have := hb1.size; simp at this; omega); have HB := hide hb1; clear hb1
  go_wp2
  refine bodyPost_ret (v := .tuple #[vv ⟨0, bitI (sameV a b), ⟨#[]⟩⟩, .int .i64 0]) (by simp [results, Tryd.results12, go_sem, hc]) rfl ⟨rfl, ?_⟩
  exact (((((((Below.refl _ _).alloc (Nat.le_refl _) _).alloc (by simp) _).alloc (by simp; omega) _).trans (HB.out.mono (by simp; omega))).setCell (by simp; omega) _).setCell (by simp; omega) _).setCell (by simp; omega) _
set_option maxHeartbeats 400000 in
theorem cell_two_cat (m n : Int) (s t : ByteArray) (w : World) (hs : s.size ≤ 60) (ht : t.size ≤ 60) :
    Calls Tryd.prog 12 #[.int .i64 1, vv ⟨1, m, s⟩, vv ⟨1, n, t⟩] w fun e w' => e = .returned (.tuple #[vv ⟨1, 0, cutT (s ++ t)⟩, .int .i64 0]) ∧ Below w.heap.size w w' := by
  go_enter Tryd.func12, Tryd.ntmps12
  go_wp2_with fail
  refine (texts_add s t _ hs ht).mono ?_
  rintro e w1 ⟨rfl, hb1⟩; obtain ⟨hc, hf⟩ := bcell hb1; have hz : w.heap.size + 2 < w1.heap.size := (by have := hb1.size; simp at this; omega); have HB := hide hb1; clear hb1
  go_wp2
  refine bodyPost_ret (v := .tuple #[vv ⟨1, 0, cutT (s ++ t)⟩, .int .i64 0]) (by simp [results, Tryd.results12, go_sem, hc]) rfl ⟨rfl, ?_⟩
  exact (((((((Below.refl _ _).alloc (Nat.le_refl _) _).alloc (by simp) _).alloc (by simp; omega) _).trans (HB.out.mono (by simp; omega))).setCell (by simp; omega) _).setCell (by simp; omega) _).setCell (by simp; omega) _
set_option maxHeartbeats 400000 in
theorem cell_two_lesst (m n : Int) (s t : ByteArray) (w : World)  :
    Calls Tryd.prog 12 #[.int .i64 4, vv ⟨1, m, s⟩, vv ⟨1, n, t⟩] w fun e w' => e = .returned (.tuple #[vv ⟨0, bitI (lessT s t), ⟨#[]⟩⟩, .int .i64 0]) ∧ Below w.heap.size w w' := by
  go_enter Tryd.func12, Tryd.ntmps12
  go_wp2_with fail
  refine (texts_less s t _).mono ?_
  rintro e w1 ⟨rfl, hb1⟩; obtain ⟨hc, hf⟩ := bcell hb1; have hz : w.heap.size + 2 < w1.heap.size := (by have := hb1.size; simp at this; omega); have HB := hide hb1; clear hb1
  go_wp2
  refine bodyPost_ret (v := .tuple #[vv ⟨0, bitI (lessT s t), ⟨#[]⟩⟩, .int .i64 0]) (by simp [results, Tryd.results12, go_sem, hc]) rfl ⟨rfl, ?_⟩
  exact (((((((Below.refl _ _).alloc (Nat.le_refl _) _).alloc (by simp) _).alloc (by simp; omega) _).trans (HB.out.mono (by simp; omega))).setCell (by simp; omega) _).setCell (by simp; omega) _).setCell (by simp; omega) _
set_option maxHeartbeats 400000 in
theorem cell_two_not2 (m n : Int) (s t : ByteArray) (w : World)  :
    Calls Tryd.prog 12 #[.int .i64 2, vv ⟨1, m, s⟩, vv ⟨1, n, t⟩] w fun e w' => e = .returned (.tuple #[vv zeroV, .int .i64 11]) ∧ Below w.heap.size w w' := by
  go_enter Tryd.func12, Tryd.ntmps12
  go_wp2_with fail
  refine (texts_no 2 s t _ (by decide) (by decide)).mono ?_
  rintro e w1 ⟨rfl, hb1⟩; obtain ⟨hc, hf⟩ := bcell hb1; have hz : w.heap.size + 2 < w1.heap.size := (by have := hb1.size; simp at this; omega); have HB := hide hb1; clear hb1
  go_wp2
  refine bodyPost_ret (v := .tuple #[vv zeroV, .int .i64 11]) (by simp [results, Tryd.results12, go_sem, hc]) rfl ⟨rfl, ?_⟩
  exact (((((((Below.refl _ _).alloc (Nat.le_refl _) _).alloc (by simp) _).alloc (by simp; omega) _).trans (HB.out.mono (by simp; omega))).setCell (by simp; omega) _).setCell (by simp; omega) _).setCell (by simp; omega) _
set_option maxHeartbeats 400000 in
theorem cell_two_not3 (m n : Int) (s t : ByteArray) (w : World)  :
    Calls Tryd.prog 12 #[.int .i64 3, vv ⟨1, m, s⟩, vv ⟨1, n, t⟩] w fun e w' => e = .returned (.tuple #[vv zeroV, .int .i64 11]) ∧ Below w.heap.size w w' := by
  go_enter Tryd.func12, Tryd.ntmps12
  go_wp2_with fail
  refine (texts_no 3 s t _ (by decide) (by decide)).mono ?_
  rintro e w1 ⟨rfl, hb1⟩; obtain ⟨hc, hf⟩ := bcell hb1; have hz : w.heap.size + 2 < w1.heap.size := (by have := hb1.size; simp at this; omega); have HB := hide hb1; clear hb1
  go_wp2
  refine bodyPost_ret (v := .tuple #[vv zeroV, .int .i64 11]) (by simp [results, Tryd.results12, go_sem, hc]) rfl ⟨rfl, ?_⟩
  exact (((((((Below.refl _ _).alloc (Nat.le_refl _) _).alloc (by simp) _).alloc (by simp; omega) _).trans (HB.out.mono (by simp; omega))).setCell (by simp; omega) _).setCell (by simp; omega) _).setCell (by simp; omega) _
set_option maxHeartbeats 400000 in
theorem cell_two_mix1 (op : Int) (n : Int) (t : ByteArray) (b : Val) (w : World) (h1 : 1 ≤ op) (h5 : op < 5) (hb0 : b.k ≠ 0) (_hb1 : 0 ≤ b.k) (_hb2 : b.k ≤ 2) :
    Calls Tryd.prog 12 #[.int .i64 op, vv ⟨0, n, t⟩, vv b] w fun e w' => e = .returned (.tuple #[vv zeroV, .int .i64 11]) ∧ Below w.heap.size w w' := by
  go_enter Tryd.func12, Tryd.ntmps12
  go_wp2
  all_goals refine bodyPost_ret (v := .tuple #[vv zeroV, .int .i64 11]) (by simp [results, Tryd.results12, go_sem, zeroV]) rfl ⟨rfl, ?_⟩
  all_goals exact ((((Below.refl _ _).alloc (Nat.le_refl _) _).alloc (by simp) _).alloc (by simp; omega) _)
set_option maxHeartbeats 400000 in
theorem cell_two_mix2 (op : Int) (n : Int) (t : ByteArray) (b : Val) (w : World) (h1 : 1 ≤ op) (h5 : op < 5) (hb0 : b.k ≠ 1) (_hb1 : 0 ≤ b.k) (_hb2 : b.k ≤ 2) :
    Calls Tryd.prog 12 #[.int .i64 op, vv ⟨1, n, t⟩, vv b] w fun e w' => e = .returned (.tuple #[vv zeroV, .int .i64 11]) ∧ Below w.heap.size w w' := by
  go_enter Tryd.func12, Tryd.ntmps12
  go_wp2
  all_goals refine bodyPost_ret (v := .tuple #[vv zeroV, .int .i64 11]) (by simp [results, Tryd.results12, go_sem, zeroV]) rfl ⟨rfl, ?_⟩
  all_goals exact ((((Below.refl _ _).alloc (Nat.le_refl _) _).alloc (by simp) _).alloc (by simp; omega) _)
set_option maxHeartbeats 400000 in
theorem cell_two_mix3 (op : Int) (n : Int) (t : ByteArray) (b : Val) (w : World) (h1 : 1 ≤ op) (h5 : op < 5) (_hb1 : 0 ≤ b.k) (_hb2 : b.k ≤ 2) :
    Calls Tryd.prog 12 #[.int .i64 op, vv ⟨2, n, t⟩, vv b] w fun e w' => e = .returned (.tuple #[vv zeroV, .int .i64 11]) ∧ Below w.heap.size w w' := by
  go_enter Tryd.func12, Tryd.ntmps12
  go_wp2
  all_goals refine bodyPost_ret (v := .tuple #[vv zeroV, .int .i64 11]) (by simp [results, Tryd.results12, go_sem, zeroV]) rfl ⟨rfl, ?_⟩
  all_goals exact ((((Below.refl _ _).alloc (Nat.le_refl _) _).alloc (by simp) _).alloc (by simp; omega) _)
set_option maxHeartbeats 400000 in
theorem cell_two_add (x y : Int) (s t : ByteArray) (w : World) (h1 : -9223372036854775808 ≤ x + y) (h2 : x + y ≤ 9223372036854775807) :
    Calls Tryd.prog 12 #[.int .i64 1, vv ⟨0, x, s⟩, vv ⟨0, y, t⟩] w fun e w' => e = .returned (.tuple #[vv ⟨0, (x + y).tmod 1073741825, ⟨#[]⟩⟩, .int .i64 0]) ∧ Below w.heap.size w w' := by
  have hw : IntKind.i64.wrap (x + y) = x + y := wrapE h1 h2
  go_enter Tryd.func12, Tryd.ntmps12
  go_wp2_with fail
  refine (nums_add x y _ h1 h2).mono ?_
  rintro e w1 ⟨rfl, hb1⟩; obtain ⟨hc, hf⟩ := bcell hb1; have hz : w.heap.size + 2 < w1.heap.size := (by have := hb1.size; simp at this; omega); have HB := hide hb1; clear hb1
  go_wp2
  refine bodyPost_ret (v := .tuple #[vv ⟨0, (x + y).tmod 1073741825, ⟨#[]⟩⟩, .int .i64 0]) (by simp [results, Tryd.results12, go_sem, hc]) rfl ⟨rfl, ?_⟩
  exact (((((((Below.refl _ _).alloc (Nat.le_refl _) _).alloc (by simp) _).alloc (by simp; omega) _).trans (HB.out.mono (by simp; omega))).setCell (by simp; omega) _).setCell (by simp; omega) _).setCell (by simp; omega) _
set_option maxHeartbeats 400000 in
theorem cell_two_sub (x y : Int) (s t : ByteArray) (w : World) (h1 : -9223372036854775808 ≤ x - y) (h2 : x - y ≤ 9223372036854775807) :
    Calls Tryd.prog 12 #[.int .i64 2, vv ⟨0, x, s⟩, vv ⟨0, y, t⟩] w fun e w' => e = .returned (.tuple #[vv ⟨0, (x - y).tmod 1073741825, ⟨#[]⟩⟩, .int .i64 0]) ∧ Below w.heap.size w w' := by
  have hw : IntKind.i64.wrap (x - y) = x - y := wrapE h1 h2
  go_enter Tryd.func12, Tryd.ntmps12
  go_wp2_with fail
  refine (nums_sub x y _ h1 h2).mono ?_
  rintro e w1 ⟨rfl, hb1⟩; obtain ⟨hc, hf⟩ := bcell hb1; have hz : w.heap.size + 2 < w1.heap.size := (by have := hb1.size; simp at this; omega); have HB := hide hb1; clear hb1
  go_wp2
  refine bodyPost_ret (v := .tuple #[vv ⟨0, (x - y).tmod 1073741825, ⟨#[]⟩⟩, .int .i64 0]) (by simp [results, Tryd.results12, go_sem, hc]) rfl ⟨rfl, ?_⟩
  exact (((((((Below.refl _ _).alloc (Nat.le_refl _) _).alloc (by simp) _).alloc (by simp; omega) _).trans (HB.out.mono (by simp; omega))).setCell (by simp; omega) _).setCell (by simp; omega) _).setCell (by simp; omega) _
set_option maxHeartbeats 400000 in
theorem cell_two_mul (x y : Int) (s t : ByteArray) (w : World) (h1 : -9223372036854775808 ≤ x * y) (h2 : x * y ≤ 9223372036854775807) :
    Calls Tryd.prog 12 #[.int .i64 3, vv ⟨0, x, s⟩, vv ⟨0, y, t⟩] w fun e w' => e = .returned (.tuple #[vv ⟨0, (x * y).tmod 1073741825, ⟨#[]⟩⟩, .int .i64 0]) ∧ Below w.heap.size w w' := by
  have hw : IntKind.i64.wrap (x * y) = x * y := wrapE h1 h2
  go_enter Tryd.func12, Tryd.ntmps12
  go_wp2_with fail
  refine (nums_mul x y _ h1 h2).mono ?_
  rintro e w1 ⟨rfl, hb1⟩; obtain ⟨hc, hf⟩ := bcell hb1; have hz : w.heap.size + 2 < w1.heap.size := (by have := hb1.size; simp at this; omega); have HB := hide hb1; clear hb1
  go_wp2
  refine bodyPost_ret (v := .tuple #[vv ⟨0, (x * y).tmod 1073741825, ⟨#[]⟩⟩, .int .i64 0]) (by simp [results, Tryd.results12, go_sem, hc]) rfl ⟨rfl, ?_⟩
  exact (((((((Below.refl _ _).alloc (Nat.le_refl _) _).alloc (by simp) _).alloc (by simp; omega) _).trans (HB.out.mono (by simp; omega))).setCell (by simp; omega) _).setCell (by simp; omega) _).setCell (by simp; omega) _
set_option maxHeartbeats 400000 in
theorem cell_two_lessn (x y : Int) (s t : ByteArray) (w : World)  :
    Calls Tryd.prog 12 #[.int .i64 4, vv ⟨0, x, s⟩, vv ⟨0, y, t⟩] w fun e w' => e = .returned (.tuple #[vv ⟨0, bitI (decide (x < y)), ⟨#[]⟩⟩, .int .i64 0]) ∧ Below w.heap.size w w' := by
  go_enter Tryd.func12, Tryd.ntmps12
  go_wp2_with fail
  refine (nums_less x y _).mono ?_
  rintro e w1 ⟨rfl, hb1⟩; obtain ⟨hc, hf⟩ := bcell hb1; have hz : w.heap.size + 2 < w1.heap.size := (by have := hb1.size; simp at this; omega); have HB := hide hb1; clear hb1
  go_wp2
  refine bodyPost_ret (v := .tuple #[vv ⟨0, bitI (decide (x < y)), ⟨#[]⟩⟩, .int .i64 0]) (by simp [results, Tryd.results12, go_sem, hc]) rfl ⟨rfl, ?_⟩
  exact (((((((Below.refl _ _).alloc (Nat.le_refl _) _).alloc (by simp) _).alloc (by simp; omega) _).trans (HB.out.mono (by simp; omega))).setCell (by simp; omega) _).setCell (by simp; omega) _).setCell (by simp; omega) _
set_option maxHeartbeats 400000 in
theorem ref_two_low (op : Int) (a b : Val) (w : World) (h : op < 1) :
    Calls Tryd.prog 13 #[.int .i64 op, vv a, vv b] w fun e w' => e = .returned (.tuple #[vv zeroV, .int .i64 1]) ∧ Below w.heap.size w w' := by
  go_enter Tryd.func13, Tryd.ntmps13
  go_wp2
  all_goals refine bodyPost_ret (v := .tuple #[vv zeroV, .int .i64 1]) (by simp [results, Tryd.results13, go_sem, zeroV]) rfl ⟨rfl, ?_⟩
  all_goals exact ((((Below.refl _ _).alloc (Nat.le_refl _) _).alloc (by simp) _).alloc (by simp; omega) _)
set_option maxHeartbeats 400000 in
theorem ref_two_high (op : Int) (a b : Val) (w : World) (h : 5 < op) :
    Calls Tryd.prog 13 #[.int .i64 op, vv a, vv b] w fun e w' => e = .returned (.tuple #[vv zeroV, .int .i64 1]) ∧ Below w.heap.size w w' := by
  go_enter Tryd.func13, Tryd.ntmps13
  go_wp2
  all_goals refine bodyPost_ret (v := .tuple #[vv zeroV, .int .i64 1]) (by simp [results, Tryd.results13, go_sem, zeroV]) rfl ⟨rfl, ?_⟩
  all_goals exact ((((Below.refl _ _).alloc (Nat.le_refl _) _).alloc (by simp) _).alloc (by simp; omega) _)
set_option maxHeartbeats 1000000 in
theorem ref_two_same (a b : Val) (w : World) :
    Calls Tryd.prog 13 #[.int .i64 5, vv a, vv b] w fun e w' => e = .returned (.tuple #[vv ⟨0, bitI (sameV a b), ⟨#[]⟩⟩, .int .i64 0]) ∧ Below w.heap.size w w' := by
  cases hk : (a.k == b.k) with
  | false =>
    rw [show sameV a b = false by simp [sameV, hk]]
    go_enter Tryd.func13, Tryd.ntmps13
    go_wp2_with fail
    refine (bit_any false _).mono ?_
    rintro e w1 ⟨rfl, hb1⟩; obtain ⟨hc, hf⟩ := bcell hb1; have hz : w.heap.size + 2 < w1.heap.size := (by have := hb1.size; simp at this; omega); have HB := hide hb1; clear hb1
    go_wp2
    refine bodyPost_ret (v := .tuple #[vv ⟨0, bitI false, ⟨#[]⟩⟩, .int .i64 0]) (by simp [results, Tryd.results13, go_sem, hc]) rfl ⟨rfl, ?_⟩
    exact (((((((Below.refl _ _).alloc (Nat.le_refl _) _).alloc (by simp) _).alloc (by simp; omega) _).trans (HB.out.mono (by simp; omega))).setCell (by simp; omega) _).setCell (by simp; omega) _).setCell (by simp; omega) _
  | true =>
    cases hn : (a.n == b.n) with
    | false =>
      rw [show sameV a b = false by simp [sameV, hn]]
      go_enter Tryd.func13, Tryd.ntmps13
      go_wp2_with fail
      refine (bit_any false _).mono ?_
      rintro e w1 ⟨rfl, hb1⟩; obtain ⟨hc, hf⟩ := bcell hb1; have hz : w.heap.size + 2 < w1.heap.size := (by have := hb1.size; simp at this; omega); have HB := hide hb1; clear hb1
      go_wp2
      refine bodyPost_ret (v := .tuple #[vv ⟨0, bitI false, ⟨#[]⟩⟩, .int .i64 0]) (by simp [results, Tryd.results13, go_sem, hc]) rfl ⟨rfl, ?_⟩
      exact (((((((Below.refl _ _).alloc (Nat.le_refl _) _).alloc (by simp) _).alloc (by simp; omega) _).trans (HB.out.mono (by simp; omega))).setCell (by simp; omega) _).setCell (by simp; omega) _).setCell (by simp; omega) _
    | true =>
      rw [show sameV a b = (a.t.toList == b.t.toList) by simp [sameV, hk, hn]]
      generalize hx : (a.t.toList == b.t.toList) = x
      go_enter Tryd.func13, Tryd.ntmps13
      go_wp2_with fail
      refine (bit_any x _).mono ?_
      rintro e w1 ⟨rfl, hb1⟩; obtain ⟨hc, hf⟩ := bcell hb1; have hz : w.heap.size + 2 < w1.heap.size := (by have := hb1.size; simp at this; omega); have HB := hide hb1; clear hb1
      go_wp2
      refine bodyPost_ret (v := .tuple #[vv ⟨0, bitI x, ⟨#[]⟩⟩, .int .i64 0]) (by simp [results, Tryd.results13, go_sem, hc]) rfl ⟨rfl, ?_⟩
      exact (((((((Below.refl _ _).alloc (Nat.le_refl _) _).alloc (by simp) _).alloc (by simp; omega) _).trans (HB.out.mono (by simp; omega))).setCell (by simp; omega) _).setCell (by simp; omega) _).setCell (by simp; omega) _
set_option maxHeartbeats 400000 in
theorem ref_two_cat (m n : Int) (s t : ByteArray) (w : World) (hs : s.size ≤ 60) (ht : t.size ≤ 60) :
    Calls Tryd.prog 13 #[.int .i64 1, vv ⟨1, m, s⟩, vv ⟨1, n, t⟩] w fun e w' => e = .returned (.tuple #[vv ⟨1, 0, cutT (s ++ t)⟩, .int .i64 0]) ∧ Below w.heap.size w w' := by
  have hs1 : (s ++ t).size ≤ maxLen := by unfold maxLen; simp [ByteArray.size_append]; omega
  have hs2 : ¬ 9223372036854775807 < s.size + t.size := by omega
  go_enter Tryd.func13, Tryd.ntmps13
  go_wp2_with fail
  refine (reftext_any (s ++ t) _ hs1).mono ?_
  rintro e w1 ⟨rfl, hb1⟩; obtain ⟨hc, hf⟩ := bcell hb1; have hz : w.heap.size + 2 < w1.heap.size := (by have := hb1.size; simp at this; omega); have HB := hide hb1; clear hb1
  go_wp2
  refine bodyPost_ret (v := .tuple #[vv ⟨1, 0, cutT (s ++ t)⟩, .int .i64 0]) (by simp [results, Tryd.results13, go_sem, hc]) rfl ⟨rfl, ?_⟩
  exact (((((((Below.refl _ _).alloc (Nat.le_refl _) _).alloc (by simp) _).alloc (by simp; omega) _).trans (HB.out.mono (by simp; omega))).setCell (by simp; omega) _).setCell (by simp; omega) _).setCell (by simp; omega) _
set_option maxHeartbeats 400000 in
theorem ref_two_lesst (m n : Int) (s t : ByteArray) (w : World)  :
    Calls Tryd.prog 13 #[.int .i64 4, vv ⟨1, m, s⟩, vv ⟨1, n, t⟩] w fun e w' => e = .returned (.tuple #[vv ⟨0, bitI (lessT s t), ⟨#[]⟩⟩, .int .i64 0]) ∧ Below w.heap.size w w' := by
  go_enter Tryd.func13, Tryd.ntmps13
  go_wp2_with fail
  refine (bit_any (lessT s t) _).mono ?_
  rintro e w1 ⟨rfl, hb1⟩; obtain ⟨hc, hf⟩ := bcell hb1; have hz : w.heap.size + 2 < w1.heap.size := (by have := hb1.size; simp at this; omega); have HB := hide hb1; clear hb1
  go_wp2
  refine bodyPost_ret (v := .tuple #[vv ⟨0, bitI (lessT s t), ⟨#[]⟩⟩, .int .i64 0]) (by simp [results, Tryd.results13, go_sem, hc]) rfl ⟨rfl, ?_⟩
  exact (((((((Below.refl _ _).alloc (Nat.le_refl _) _).alloc (by simp) _).alloc (by simp; omega) _).trans (HB.out.mono (by simp; omega))).setCell (by simp; omega) _).setCell (by simp; omega) _).setCell (by simp; omega) _
set_option maxHeartbeats 400000 in
theorem ref_two_not2 (m n : Int) (s t : ByteArray) (w : World)  :
    Calls Tryd.prog 13 #[.int .i64 2, vv ⟨1, m, s⟩, vv ⟨1, n, t⟩] w fun e w' => e = .returned (.tuple #[vv zeroV, .int .i64 11]) ∧ Below w.heap.size w w' := by
  go_enter Tryd.func13, Tryd.ntmps13
  go_wp2
  all_goals refine bodyPost_ret (v := .tuple #[vv zeroV, .int .i64 11]) (by simp [results, Tryd.results13, go_sem, zeroV]) rfl ⟨rfl, ?_⟩
  all_goals exact ((((Below.refl _ _).alloc (Nat.le_refl _) _).alloc (by simp) _).alloc (by simp; omega) _)
set_option maxHeartbeats 400000 in
theorem ref_two_not3 (m n : Int) (s t : ByteArray) (w : World)  :
    Calls Tryd.prog 13 #[.int .i64 3, vv ⟨1, m, s⟩, vv ⟨1, n, t⟩] w fun e w' => e = .returned (.tuple #[vv zeroV, .int .i64 11]) ∧ Below w.heap.size w w' := by
  go_enter Tryd.func13, Tryd.ntmps13
  go_wp2
  all_goals refine bodyPost_ret (v := .tuple #[vv zeroV, .int .i64 11]) (by simp [results, Tryd.results13, go_sem, zeroV]) rfl ⟨rfl, ?_⟩
  all_goals exact ((((Below.refl _ _).alloc (Nat.le_refl _) _).alloc (by simp) _).alloc (by simp; omega) _)
set_option maxHeartbeats 400000 in
theorem ref_two_mix1 (op : Int) (n : Int) (t : ByteArray) (b : Val) (w : World) (h1 : 1 ≤ op) (h5 : op < 5) (hb0 : b.k ≠ 0) (hb1 : 0 ≤ b.k) (hb2 : b.k ≤ 2) :
    Calls Tryd.prog 13 #[.int .i64 op, vv ⟨0, n, t⟩, vv b] w fun e w' => e = .returned (.tuple #[vv zeroV, .int .i64 11]) ∧ Below w.heap.size w w' := by
  go_enter Tryd.func13, Tryd.ntmps13
  go_wp2
  all_goals refine bodyPost_ret (v := .tuple #[vv zeroV, .int .i64 11]) (by simp [results, Tryd.results13, go_sem, zeroV]) rfl ⟨rfl, ?_⟩
  all_goals exact ((((Below.refl _ _).alloc (Nat.le_refl _) _).alloc (by simp) _).alloc (by simp; omega) _)
set_option maxHeartbeats 400000 in
theorem ref_two_mix2 (op : Int) (n : Int) (t : ByteArray) (b : Val) (w : World) (h1 : 1 ≤ op) (h5 : op < 5) (hb0 : b.k ≠ 1) (hb1 : 0 ≤ b.k) (hb2 : b.k ≤ 2) :
    Calls Tryd.prog 13 #[.int .i64 op, vv ⟨1, n, t⟩, vv b] w fun e w' => e = .returned (.tuple #[vv zeroV, .int .i64 11]) ∧ Below w.heap.size w w' := by
  go_enter Tryd.func13, Tryd.ntmps13
  go_wp2
  all_goals refine bodyPost_ret (v := .tuple #[vv zeroV, .int .i64 11]) (by simp [results, Tryd.results13, go_sem, zeroV]) rfl ⟨rfl, ?_⟩
  all_goals exact ((((Below.refl _ _).alloc (Nat.le_refl _) _).alloc (by simp) _).alloc (by simp; omega) _)
set_option maxHeartbeats 400000 in
theorem ref_two_mix3 (op : Int) (n : Int) (t : ByteArray) (b : Val) (w : World) (h1 : 1 ≤ op) (h5 : op < 5) (hb1 : 0 ≤ b.k) (hb2 : b.k ≤ 2) :
    Calls Tryd.prog 13 #[.int .i64 op, vv ⟨2, n, t⟩, vv b] w fun e w' => e = .returned (.tuple #[vv zeroV, .int .i64 11]) ∧ Below w.heap.size w w' := by
  go_enter Tryd.func13, Tryd.ntmps13
  go_wp2
  all_goals refine bodyPost_ret (v := .tuple #[vv zeroV, .int .i64 11]) (by simp [results, Tryd.results13, go_sem, zeroV]) rfl ⟨rfl, ?_⟩
  all_goals exact ((((Below.refl _ _).alloc (Nat.le_refl _) _).alloc (by simp) _).alloc (by simp; omega) _)
set_option maxHeartbeats 400000 in
theorem ref_two_add (x y : Int) (s t : ByteArray) (w : World) (h1 : -9223372036854775808 ≤ x + y) (h2 : x + y ≤ 9223372036854775807) :
    Calls Tryd.prog 13 #[.int .i64 1, vv ⟨0, x, s⟩, vv ⟨0, y, t⟩] w fun e w' => e = .returned (.tuple #[vv ⟨0, (x + y).tmod 1073741825, ⟨#[]⟩⟩, .int .i64 0]) ∧ Below w.heap.size w w' := by
  have hw : IntKind.i64.wrap (x + y) = x + y := wrapE h1 h2
  go_enter Tryd.func13, Tryd.ntmps13
  go_wp2_with fail
  refine (refint_any (x + y) _ h1 h2).mono ?_
  rintro e w1 ⟨rfl, hb1⟩; obtain ⟨hc, hf⟩ := bcell hb1; have hz : w.heap.size + 2 < w1.heap.size := (by have := hb1.size; simp at this; omega); have HB := hide hb1; clear hb1
  go_wp2
  refine bodyPost_ret (v := .tuple #[vv ⟨0, (x + y).tmod 1073741825, ⟨#[]⟩⟩, .int .i64 0]) (by simp [results, Tryd.results13, go_sem, hc]) rfl ⟨rfl, ?_⟩
  exact (((((((Below.refl _ _).alloc (Nat.le_refl _) _).alloc (by simp) _).alloc (by simp; omega) _).trans (HB.out.mono (by simp; omega))).setCell (by simp; omega) _).setCell (by simp; omega) _).setCell (by simp; omega) _
set_option maxHeartbeats 400000 in
theorem ref_two_sub (x y : Int) (s t : ByteArray) (w : World) (h1 : -9223372036854775808 ≤ x - y) (h2 : x - y ≤ 9223372036854775807) :
    Calls Tryd.prog 13 #[.int .i64 2, vv ⟨0, x, s⟩, vv ⟨0, y, t⟩] w fun e w' => e = .returned (.tuple #[vv ⟨0, (x - y).tmod 1073741825, ⟨#[]⟩⟩, .int .i64 0]) ∧ Below w.heap.size w w' := by
  have hw : IntKind.i64.wrap (x - y) = x - y := wrapE h1 h2
  go_enter Tryd.func13, Tryd.ntmps13
  go_wp2_with fail
  refine (refint_any (x - y) _ h1 h2).mono ?_
  rintro e w1 ⟨rfl, hb1⟩; obtain ⟨hc, hf⟩ := bcell hb1; have hz : w.heap.size + 2 < w1.heap.size := (by have := hb1.size; simp at this; omega); have HB := hide hb1; clear hb1
  go_wp2
  refine bodyPost_ret (v := .tuple #[vv ⟨0, (x - y).tmod 1073741825, ⟨#[]⟩⟩, .int .i64 0]) (by simp [results, Tryd.results13, go_sem, hc]) rfl ⟨rfl, ?_⟩
  exact (((((((Below.refl _ _).alloc (Nat.le_refl _) _).alloc (by simp) _).alloc (by simp; omega) _).trans (HB.out.mono (by simp; omega))).setCell (by simp; omega) _).setCell (by simp; omega) _).setCell (by simp; omega) _
set_option maxHeartbeats 400000 in
theorem ref_two_mul (x y : Int) (s t : ByteArray) (w : World) (h1 : -9223372036854775808 ≤ x * y) (h2 : x * y ≤ 9223372036854775807) :
    Calls Tryd.prog 13 #[.int .i64 3, vv ⟨0, x, s⟩, vv ⟨0, y, t⟩] w fun e w' => e = .returned (.tuple #[vv ⟨0, (x * y).tmod 1073741825, ⟨#[]⟩⟩, .int .i64 0]) ∧ Below w.heap.size w w' := by
  have hw : IntKind.i64.wrap (x * y) = x * y := wrapE h1 h2
  go_enter Tryd.func13, Tryd.ntmps13
  go_wp2_with fail
  refine (refint_any (x * y) _ h1 h2).mono ?_
  rintro e w1 ⟨rfl, hb1⟩; obtain ⟨hc, hf⟩ := bcell hb1; have hz : w.heap.size + 2 < w1.heap.size := (by have := hb1.size; simp at this; omega); have HB := hide hb1; clear hb1
  go_wp2
  refine bodyPost_ret (v := .tuple #[vv ⟨0, (x * y).tmod 1073741825, ⟨#[]⟩⟩, .int .i64 0]) (by simp [results, Tryd.results13, go_sem, hc]) rfl ⟨rfl, ?_⟩
  exact (((((((Below.refl _ _).alloc (Nat.le_refl _) _).alloc (by simp) _).alloc (by simp; omega) _).trans (HB.out.mono (by simp; omega))).setCell (by simp; omega) _).setCell (by simp; omega) _).setCell (by simp; omega) _
set_option maxHeartbeats 400000 in
theorem ref_two_lessn (x y : Int) (s t : ByteArray) (w : World)  :
    Calls Tryd.prog 13 #[.int .i64 4, vv ⟨0, x, s⟩, vv ⟨0, y, t⟩] w fun e w' => e = .returned (.tuple #[vv ⟨0, bitI (decide (x < y)), ⟨#[]⟩⟩, .int .i64 0]) ∧ Below w.heap.size w w' := by
  go_enter Tryd.func13, Tryd.ntmps13
  go_wp2_with fail
  refine (bit_any (decide (x < y)) _).mono ?_
  rintro e w1 ⟨rfl, hb1⟩; obtain ⟨hc, hf⟩ := bcell hb1; have hz : w.heap.size + 2 < w1.heap.size := (by have := hb1.size; simp at this; omega); have HB := hide hb1; clear hb1
  go_wp2
  refine bodyPost_ret (v := .tuple #[vv ⟨0, bitI (decide (x < y)), ⟨#[]⟩⟩, .int .i64 0]) (by simp [results, Tryd.results13, go_sem, hc]) rfl ⟨rfl, ?_⟩
  exact (((((((Below.refl _ _).alloc (Nat.le_refl _) _).alloc (by simp) _).alloc (by simp; omega) _).trans (HB.out.mono (by simp; omega))).setCell (by simp; omega) _).setCell (by simp; omega) _).setCell (by simp; omega) _

/-- Both answer the same. -/
def TwoSame (op : Int) (a b : Val) : Prop := ∃ (v : Val) (c : Int), (∀ w, Calls Tryd.prog 12 #[.int .i64 op, vv a, vv b] w fun e w' => e = .returned (.tuple #[vv v, .int .i64 c]) ∧ Below w.heap.size w w') ∧ ∀ w, Calls Tryd.prog 13 #[.int .i64 op, vv a, vv b] w fun e w' => e = .returned (.tuple #[vv v, .int .i64 c]) ∧ Below w.heap.size w w'
theorem mul_bound {x y : Int} (hx0 : -1073741824 ≤ x) (hx1 : x ≤ 1073741824) (hy0 : -1073741824 ≤ y) (hy1 : y ≤ 1073741824) : -9223372036854775808 ≤ x * y ∧ x * y ≤ 9223372036854775807 := by
  have h : (x * y).natAbs ≤ 1073741824 * 1073741824 := by
    rw [Int.natAbs_mul]
    exact Nat.mul_le_mul (by omega) (by omega)
  omega
theorem two_both (op : Int) (a b : Val) (ha : okV 1073741824 a = true) (hb : okV 1073741824 b = true) : TwoSame op a b := by
  by_cases h1 : op < 1
  · exact ⟨_, _, fun w => cell_two_low op a b w h1, fun w => ref_two_low op a b w h1⟩
  by_cases h5 : 5 < op
  · exact ⟨_, _, fun w => cell_two_high op a b w h5, fun w => ref_two_high op a b w h5⟩
  by_cases h6 : op = 5
  · subst h6
    exact ⟨_, _, fun w => cell_two_same a b w, fun w => ref_two_same a b w⟩
  have hbk : 0 ≤ b.k ∧ b.k ≤ 2 := by rcases ok_cases hb with ⟨h, _⟩ | ⟨h, _⟩ | ⟨h, _⟩ <;> omega
  rcases ok_cases ha with ⟨ka, a1, a2, _⟩ | ⟨ka, a1, _⟩ | ⟨ka, _⟩
  · obtain ⟨k, x, s⟩ := a
    simp only at ka a1 a2
    subst ka
    by_cases kb : b.k = 0
    · rcases ok_cases hb with ⟨_, b1, b2, _⟩ | ⟨h, _⟩ | ⟨h, _⟩
      · obtain ⟨k, y, t⟩ := b
        simp only at kb b1 b2
        subst kb
        have hm := mul_bound a1 a2 b1 b2
        rcases (by omega : op = 1 ∨ op = 2 ∨ op = 3 ∨ op = 4) with rfl | rfl | rfl | rfl
        · exact ⟨_, _, fun w => cell_two_add x y s t w (by omega) (by omega), fun w => ref_two_add x y s t w (by omega) (by omega)⟩
        · exact ⟨_, _, fun w => cell_two_sub x y s t w (by omega) (by omega), fun w => ref_two_sub x y s t w (by omega) (by omega)⟩
        · exact ⟨_, _, fun w => cell_two_mul x y s t w hm.1 hm.2, fun w => ref_two_mul x y s t w hm.1 hm.2⟩
        · exact ⟨_, _, fun w => cell_two_lessn x y s t w, fun w => ref_two_lessn x y s t w⟩
      · omega
      · omega
    · exact ⟨_, _, fun w => cell_two_mix1 op x s b w (by omega) (by omega) kb hbk.1 hbk.2, fun w => ref_two_mix1 op x s b w (by omega) (by omega) kb hbk.1 hbk.2⟩
  · obtain ⟨k, x, s⟩ := a
    simp only at ka a1
    subst ka
    by_cases kb : b.k = 1
    · rcases ok_cases hb with ⟨h, _⟩ | ⟨_, b1, _⟩ | ⟨h, _⟩
      · omega
      · obtain ⟨k, y, t⟩ := b
        simp only at kb b1
        subst kb
        rcases (by omega : op = 1 ∨ op = 2 ∨ op = 3 ∨ op = 4) with rfl | rfl | rfl | rfl
        · exact ⟨_, _, fun w => cell_two_cat x y s t w a1 b1, fun w => ref_two_cat x y s t w a1 b1⟩
        · exact ⟨_, _, fun w => cell_two_not2 x y s t w, fun w => ref_two_not2 x y s t w⟩
        · exact ⟨_, _, fun w => cell_two_not3 x y s t w, fun w => ref_two_not3 x y s t w⟩
        · exact ⟨_, _, fun w => cell_two_lesst x y s t w, fun w => ref_two_lesst x y s t w⟩
      · omega
    · exact ⟨_, _, fun w => cell_two_mix2 op x s b w (by omega) (by omega) kb hbk.1 hbk.2, fun w => ref_two_mix2 op x s b w (by omega) (by omega) kb hbk.1 hbk.2⟩
  · obtain ⟨k, x, s⟩ := a
    simp only at ka
    subst ka
    exact ⟨_, _, fun w => cell_two_mix3 op x s b w (by omega) (by omega) hbk.1 hbk.2, fun w => ref_two_mix3 op x s b w (by omega) (by omega) hbk.1 hbk.2⟩
end Go.Proofs.YtcemfgknnpjlhaaDoor
