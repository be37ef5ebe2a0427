/- What is made of two values. -/
import Derived.Test.YtcemfgknnpjlhaaDoorSmall
namespace Go.Proofs.YtcemfgknnpjlhaaDoor
open Go.RowKit Go.Ws

def lessT (a b : ByteArray) : Bool := Op.bytesLess a.toList b.toList

set_option maxHeartbeats 400000 in
theorem texts_add (a b : ByteArray) (w : World) (ha : a.size ≤ 60) (hb : b.size ≤ 60) :
    Calls Tryd.prog 27 #[.int .i64 1, .string a, .string b] w fun e w' => e = .returned (.tuple #[vv ⟨1, 0, cutT (a ++ b)⟩, .int .i64 0]) ∧ Below w.heap.size w w' := by
  have hs : (a ++ b).size ≤ maxLen := by unfold maxLen; simp [ByteArray.size_append]; omega
  have hs2 : ¬ 9223372036854775807 < a.size + b.size := by omega
  go_enter Tryd.func27, Tryd.ntmps27
  go_wp2_with (go_at_call 8; refine (text_any _ _ hs).mono ?_; rintro e w1 ⟨rfl, hb1⟩; obtain ⟨hc, hf⟩ := bcell hb1; have hz : w.heap.size < w1.heap.size := (by have := hb1.size; simp at this; omega); have HB := hide hb1; clear hb1)
  refine bodyPost_ret (v := .tuple #[vv ⟨1, 0, cutT (a ++ b)⟩, .int .i64 0]) (by simp [results, Tryd.results27, go_sem, hc]) rfl ⟨rfl, ?_⟩
  exact ((((Below.refl _ _).alloc (Nat.le_refl _) _).trans (HB.out.mono (by simp))).setCell (Nat.le_refl _) _ |>.setCell (Nat.le_refl _) _).setCell (Nat.le_refl _) _
set_option maxHeartbeats 400000 in
theorem texts_less (a b : ByteArray) (w : World) :
    Calls Tryd.prog 27 #[.int .i64 4, .string a, .string b] w fun e w' => e = .returned (.tuple #[vv ⟨0, bitI (lessT a b), ⟨#[]⟩⟩, .int .i64 0]) ∧ Below w.heap.size w w' := by
  go_enter Tryd.func27, Tryd.ntmps27
  go_wp2_with (go_at_call 26; refine (truth_any _ _).mono ?_; rintro e w1 ⟨rfl, hb1⟩; obtain ⟨hc, hf⟩ := bcell hb1; have hz : w.heap.size < w1.heap.size := (by have := hb1.size; simp at this; omega); have HB := hide hb1; clear hb1)
  refine bodyPost_ret (v := .tuple #[vv ⟨0, bitI (lessT a b), ⟨#[]⟩⟩, .int .i64 0]) (by simp [results, Tryd.results27, go_sem, hc, lessT]) rfl ⟨rfl, ?_⟩
  exact ((((Below.refl _ _).alloc (Nat.le_refl _) _).trans (HB.out.mono (by simp))).setCell (Nat.le_refl _) _ |>.setCell (Nat.le_refl _) _).setCell (Nat.le_refl _) _
set_option maxHeartbeats 400000 in
theorem texts_no (op : Int) (a b : ByteArray) (w : World) (h1 : op ≠ 1) (h4 : op ≠ 4) :
    Calls Tryd.prog 27 #[.int .i64 op, .string a, .string b] w fun e w' => e = .returned (.tuple #[vv zeroV, .int .i64 11]) ∧ Below w.heap.size w w' := by
  go_enter Tryd.func27, Tryd.ntmps27
  go_wp2
  refine bodyPost_ret (v := .tuple #[vv zeroV, .int .i64 11]) (by simp [results, Tryd.results27, go_sem, zeroV]) rfl ⟨rfl, ?_⟩
  exact (Below.refl _ _).alloc (Nat.le_refl _) _
set_option maxHeartbeats 400000 in
theorem nums_add (a b : Int) (w : World) (h1 : -9223372036854775808 ≤ a + b) (h2 : a + b ≤ 9223372036854775807) :
    Calls Tryd.prog 28 #[.int .i64 1, .int .i64 a, .int .i64 b] w fun e w' => e = .returned (vv ⟨0, (a + b).tmod 1073741825, ⟨#[]⟩⟩) ∧ Below w.heap.size w w' := by
  have hw : IntKind.i64.wrap (a + b) = a + b := wrapE h1 h2
  go_enter Tryd.func28, Tryd.ntmps28
  go_wp2_with (go_at_call 6; refine (int_any _ _ h1 h2).mono ?_; rintro e w1 ⟨rfl, hb1⟩; obtain ⟨hc, hf⟩ := bcell hb1; have hz : w.heap.size < w1.heap.size := (by have := hb1.size; simp at this; omega); have HB := hide hb1; clear hb1)
  refine bodyPost_ret (v := vv ⟨0, (a + b).tmod 1073741825, ⟨#[]⟩⟩) (by simp [results, Tryd.results28, go_sem, hc]) rfl ⟨rfl, ?_⟩
  exact ((((Below.refl _ _).alloc (Nat.le_refl _) _).trans (HB.out.mono (by simp))).setCell (Nat.le_refl _) _ |>.setCell (Nat.le_refl _) _).setCell (Nat.le_refl _) _
set_option maxHeartbeats 400000 in
theorem nums_sub (a b : Int) (w : World) (h1 : -9223372036854775808 ≤ a - b) (h2 : a - b ≤ 9223372036854775807) :
    Calls Tryd.prog 28 #[.int .i64 2, .int .i64 a, .int .i64 b] w fun e w' => e = .returned (vv ⟨0, (a - b).tmod 1073741825, ⟨#[]⟩⟩) ∧ Below w.heap.size w w' := by
  have hw : IntKind.i64.wrap (a - b) = a - b := wrapE h1 h2
  go_enter Tryd.func28, Tryd.ntmps28
  go_wp2_with (go_at_call 6; refine (int_any _ _ h1 h2).mono ?_; rintro e w1 ⟨rfl, hb1⟩; obtain ⟨hc, hf⟩ := bcell hb1; have hz : w.heap.size < w1.heap.size := (by have := hb1.size; simp at this; omega); have HB := hide hb1; clear hb1)
  refine bodyPost_ret (v := vv ⟨0, (a - b).tmod 1073741825, ⟨#[]⟩⟩) (by simp [results, Tryd.results28, go_sem, hc]) rfl ⟨rfl, ?_⟩
  exact ((((Below.refl _ _).alloc (Nat.le_refl _) _).trans (HB.out.mono (by simp))).setCell (Nat.le_refl _) _ |>.setCell (Nat.le_refl _) _).setCell (Nat.le_refl _) _
set_option maxHeartbeats 400000 in
theorem nums_mul (a b : Int) (w : World) (h1 : -9223372036854775808 ≤ a * b) (h2 : a * b ≤ 9223372036854775807) :
    Calls Tryd.prog 28 #[.int .i64 3, .int .i64 a, .int .i64 b] w fun e w' => e = .returned (vv ⟨0, (a * b).tmod 1073741825, ⟨#[]⟩⟩) ∧ Below w.heap.size w w' := by
  have hw : IntKind.i64.wrap (a * b) = a * b := wrapE h1 h2
  go_enter Tryd.func28, Tryd.ntmps28
  go_wp2_with (go_at_call 6; refine (int_any _ _ h1 h2).mono ?_; rintro e w1 ⟨rfl, hb1⟩; obtain ⟨hc, hf⟩ := bcell hb1; have hz : w.heap.size < w1.heap.size := (by have := hb1.size; simp at this; omega); have HB := hide hb1; clear hb1)
  refine bodyPost_ret (v := vv ⟨0, (a * b).tmod 1073741825, ⟨#[]⟩⟩) (by simp [results, Tryd.results28, go_sem, hc]) rfl ⟨rfl, ?_⟩
  exact ((((Below.refl _ _).alloc (Nat.le_refl _) _).trans (HB.out.mono (by simp))).setCell (Nat.le_refl _) _ |>.setCell (Nat.le_refl _) _).setCell (Nat.le_refl _) _
set_option maxHeartbeats 400000 in
theorem nums_less (a b : Int) (w : World) :
    Calls Tryd.prog 28 #[.int .i64 4, .int .i64 a, .int .i64 b] w fun e w' => e = .returned (vv ⟨0, bitI (decide (a < b)), ⟨#[]⟩⟩) ∧ Below w.heap.size w w' := by
  go_enter Tryd.func28, Tryd.ntmps28
  go_wp2_with (go_at_call 26; refine (truth_any _ _).mono ?_; rintro e w1 ⟨rfl, hb1⟩; obtain ⟨hc, hf⟩ := bcell hb1; have hz : w.heap.size < w1.heap.size := (by have := hb1.size; simp at this; omega); have HB := hide hb1; clear hb1)
  refine bodyPost_ret (v := vv ⟨0, bitI (decide (a < b)), ⟨#[]⟩⟩) (by simp [results, Tryd.results28, go_sem, hc]) rfl ⟨rfl, ?_⟩
  exact ((((Below.refl _ _).alloc (Nat.le_refl _) _).trans (HB.out.mono (by simp))).setCell (Nat.le_refl _) _ |>.setCell (Nat.le_refl _) _).setCell (Nat.le_refl _) _

end Go.Proofs.YtcemfgknnpjlhaaDoor
