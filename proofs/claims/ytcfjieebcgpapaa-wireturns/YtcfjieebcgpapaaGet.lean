/- GetNum: what it answers of any bytes. -/
import Derived.Test.YtcfjieebcgpapaaFold
import Derived.Laws.BitsAllLaws
namespace Go.Proofs.Ytcfjieebcgpapaa
open Go.RowKit Go.Lib
abbrev byteV (b : UInt8) : Value := .int .u8 b.toNat
def encB (b : UInt8) : List Value := [byteV b]
theorem byte_at {w : World} {ao : Option Addr} {c : Nat} {l : List UInt8} (h : Sl encB 1 w (.slice ao l.length c) l) {i : Nat} (hi : i < l.length) :
    ∃ b off, ao = some ⟨b, off, none⟩ ∧ b < w.heap.size ∧ w.cell? ⟨b, off + i, none⟩ = some (.int .u8 (l[i]).toNat) := by
  obtain ⟨a, cap, he, hm, hc⟩ := h
  injection he with h1 h2 h3
  subst h1
  obtain ⟨b, off, hb, hlt, hcell⟩ := hc i l[i] (List.getElem?_eq_getElem hi)
  exact ⟨b, off, hb, hlt, by simpa [encB] using hcell 0 (byteV l[i]) rfl⟩

theorem getB_over {i acc : Nat} {x : UInt8} {r : List UInt8} (h : i = 9 ∧ 1 < x.toNat) : getB i acc (x :: r) = (0, 0, 3) := by
  simp only [getB]; rw [if_pos h]
theorem getB_more {i acc : Nat} {x : UInt8} {r : List UInt8} (h : ¬ (i = 9 ∧ 1 < x.toNat)) (h2 : 128 ≤ x.toNat) : getB i acc (x :: r) = getB (i + 1) (acc + x.toNat % 128 * 2 ^ (7 * i)) r := by
  simp only [getB]; rw [if_neg h, if_pos h2]
theorem getB_form {i acc : Nat} {x : UInt8} {r : List UInt8} (h : x.toNat = 0) (h2 : 0 < i) : getB i acc (x :: r) = (0, 0, 2) := by
  simp only [getB]; rw [if_neg (by omega), if_neg (by omega), if_pos ⟨h, h2⟩]
theorem getB_ends {i acc : Nat} {x : UInt8} {r : List UInt8} (h : ¬ (i = 9 ∧ 1 < x.toNat)) (h2 : ¬ 128 ≤ x.toNat) (h3 : ¬ (x.toNat = 0 ∧ 0 < i)) : getB i acc (x :: r) = (unzig (acc + x.toNat * 2 ^ (7 * i)), (i : Int) + 1, 0) := by
  simp only [getB]; rw [if_neg h, if_neg h2, if_neg h3]

theorem andNot128 (X : Nat) (hX : X < 256) : bits .andNot .u8 (X : Int) 128 = ((X % 128 : Nat) : Int) := by
  have h := u8_andNot_nat X 128 hX (by decide)
  rw [show ((128 : Nat) : Int) = 128 from rfl] at h
  rw [h, show 255 - 128 = 2 ^ 7 - 1 by decide, Nat.and_two_pow_sub_one_eq_mod]
theorem unfold_int (z : Int) (u : Nat) (hz : z = (u : Int)) (h : u < 18446744073709551616) (w : World) :
    Calls Try.prog 11 #[.int .u64 z] w fun e w' => e = .returned (.int .i64 (unzig u)) ∧ w' = w := by
  subst hz
  exact unfold_any u h w
/-- What is gathered, and seven bits more. -/
theorem or_step (s : Nat) (hs : s ≤ 64) (acc X : Nat) (hX : X < 256) (hacc : acc < 2 ^ s) (hP : X % 128 * 2 ^ s < 18446744073709551616) :
    bits .or .u64 (acc : Int) (IntKind.u64.wrap (IntKind.u64.wrap (bits .andNot .u8 (X : Int) 128) * ((2 ^ s : Nat) : Int))) = ((acc + X % 128 * 2 ^ s : Nat) : Int) := by
  rw [andNot128 X hX]
  have h2 : IntKind.u64.wrap ((X % 128 : Nat) : Int) = ((X % 128 : Nat) : Int) := by rw [IntKind.wrap_u64]; omega
  rw [h2, ← Int.natCast_mul]
  have h3 : IntKind.u64.wrap ((X % 128 * 2 ^ s : Nat) : Int) = ((X % 128 * 2 ^ s : Nat) : Int) := by rw [IntKind.wrap_u64]; omega
  have hp : (2 : Nat) ^ s ≤ 2 ^ 64 := Nat.pow_le_pow_right (by decide) hs
  have hmod : ((X % 128 * 2 ^ s : Nat) : Int) % 2 ^ s = 0 := by
    have : ((X % 128 * 2 ^ s % 2 ^ s : Nat) : Int) = 0 := by rw [Nat.mul_mod_left]; rfl
    exact_mod_cast this
  rw [h3, bits_join_low .u64 64 (by decide) wraps_u64 s _ _ (by omega) (by exact_mod_cast hacc) (by omega) (by omega) hmod (by omega)]
  push_cast
  rfl

set_option maxHeartbeats 4000000 in
set_option maxRecDepth 20000 in
theorem get_any (w : World) (v : Value) (l : List UInt8) (hs : Sl encB 1 w v l) :
    Calls Try.prog 6 #[v] w fun e w' => e = .returned (.tuple #[.int .i64 (getB 0 0 l).1, .int .i64 (getB 0 0 l).2.1, .int .i64 (getB 0 0 l).2.2]) ∧ w' = w := by
  obtain ⟨ao, cap, rfl, hm, q⟩ := id hs
  clear q
  have hm' : l.length ≤ 9223372036854775807 := by unfold maxLen at hm; omega
  have HS := hide hs
  clear hs hm
  go_enter Try.func6, Try.ntmps6
  go_wp2
  go_loop [5, 10] (fun vu vi => ∃ k acc : Nat, vi = .int .i64 k ∧ vu = .int .u64 acc ∧ k ≤ 9 ∧ k ≤ l.length ∧ acc < 2 ^ (7 * k) ∧ Hid (getB 0 0 l = getB k acc (l.drop k)))
    (fun _ vi => l.length - (intOf vi).toNat)
  case atStart => exact ⟨0, 0, rfl, rfl, by omega, by omega, by decide, rfl⟩
  case round =>
    obtain ⟨k, acc, rfl, rfl, hk9, hkn, hacc, hdec⟩ := hrel
    by_cases hk : k < l.length
    · obtain ⟨b, off, rfl, hb, hc⟩ := byte_at HS.out hk
      have hdrop : l.drop k = l[k] :: l.drop (k + 1) := List.drop_eq_getElem_cons hk
      rw [hdrop] at hdec
      generalize l[k] = x at hc hdec
      have hx := x.toNat_lt
      generalize hX : x.toNat = X at hc hx
      have HX := hide hX
      clear hX hdrop HS
      have hks : k = 0 ∨ k = 1 ∨ k = 2 ∨ k = 3 ∨ k = 4 ∨ k = 5 ∨ k = 6 ∨ k = 7 ∨ k = 8 ∨ k = 9 := by omega
      rcases hks with rfl | rfl | rfl | rfl | rfl | rfl | rfl | rfl | rfl | rfl
      · have hacc' : acc < 1 := by simpa using hacc
        clear hacc
        rw [Nat.add_zero] at hc
        have hv : bits .or .u64 (acc : Int) (IntKind.u64.wrap (IntKind.u64.wrap (bits .andNot .u8 (X : Int) 128))) = ((acc + X % 128 * 1 : Nat) : Int) := by simpa using or_step 0 (by decide) acc X (by omega) (by simpa using hacc') (by omega)
        by_cases h128 : 128 ≤ X
        · have HR := hide (getB_more (i := 0) (acc := acc) (x := x) (r := l.drop (0 + 1)) (by omega) (by rw [HX.out]; exact h128))
          go_wp2_with fail
          refine ⟨⟨1, acc + X % 128 * 1, rfl, by go_num, by omega, by omega, ?_, ?_⟩, by simp [intOf]; omega⟩
          · show _ < 128
            omega
          · refine hide (hdec.out.trans (HR.out.trans ?_))
            rw [HX.out]
        · have HR := hide (getB_ends (i := 0) (acc := acc) (x := x) (r := l.drop (0 + 1)) (by omega) (by rw [HX.out]; omega) (by omega))
          by_cases h0 : X = 0
          · subst h0
            go_wp2_with (go_at_call 11; refine (unfold_int _ acc (by omega) (by omega) _).mono ?_; rintro e w2 ⟨rfl, rfl⟩)
            go_ret3
            rw [hdec.out, HR.out, HX.out]
            exact ⟨rfl, rfl⟩
          · go_wp2_with (go_at_call 11; refine (unfold_int _ (acc + X) (by omega) (by omega) _).mono ?_; rintro e w2 ⟨rfl, rfl⟩)
            go_ret3
            rw [hdec.out, HR.out, HX.out, show X * 2 ^ (7 * 0) = X by simp]
            exact ⟨rfl, rfl⟩
      · have hacc' : acc < 128 := by simpa using hacc
        clear hacc
        have hv : bits .or .u64 (acc : Int) (IntKind.u64.wrap (IntKind.u64.wrap (bits .andNot .u8 (X : Int) 128) * 128)) = ((acc + X % 128 * 128 : Nat) : Int) := by simpa using or_step 7 (by decide) acc X (by omega) (by simpa using hacc') (by omega)
        by_cases h128 : 128 ≤ X
        · have HR := hide (getB_more (i := 1) (acc := acc) (x := x) (r := l.drop (1 + 1)) (by omega) (by rw [HX.out]; exact h128))
          go_wp2_with fail
          refine ⟨⟨2, acc + X % 128 * 128, rfl, by go_num, by omega, by omega, ?_, ?_⟩, by simp [intOf]; omega⟩
          · show _ < 16384
            omega
          · refine hide (hdec.out.trans (HR.out.trans ?_))
            rw [HX.out]
        · by_cases h0 : X = 0
          · subst h0
            go_wp2_with fail
            go_ret3
            rw [hdec.out, getB_form HX.out (by decide)]
            exact ⟨rfl, rfl⟩
          · have HR := hide (getB_ends (i := 1) (acc := acc) (x := x) (r := l.drop (1 + 1)) (by omega) (by rw [HX.out]; omega) (by rw [HX.out]; omega))
            have hlt : acc + X * 128 < 18446744073709551616 := by omega
            go_wp2_with (go_at_call 11; refine (unfold_int _ (acc + X * 128) (by omega) hlt _).mono ?_; rintro e w2 ⟨rfl, rfl⟩)
            go_ret3
            rw [hdec.out, HR.out, HX.out]
            exact ⟨rfl, rfl⟩
      · have hacc' : acc < 16384 := by simpa using hacc
        clear hacc
        have hv : bits .or .u64 (acc : Int) (IntKind.u64.wrap (IntKind.u64.wrap (bits .andNot .u8 (X : Int) 128) * 16384)) = ((acc + X % 128 * 16384 : Nat) : Int) := by simpa using or_step 14 (by decide) acc X (by omega) (by simpa using hacc') (by omega)
        by_cases h128 : 128 ≤ X
        · have HR := hide (getB_more (i := 2) (acc := acc) (x := x) (r := l.drop (2 + 1)) (by omega) (by rw [HX.out]; exact h128))
          go_wp2_with fail
          refine ⟨⟨3, acc + X % 128 * 16384, rfl, by go_num, by omega, by omega, ?_, ?_⟩, by simp [intOf]; omega⟩
          · show _ < 2097152
            omega
          · refine hide (hdec.out.trans (HR.out.trans ?_))
            rw [HX.out]
        · by_cases h0 : X = 0
          · subst h0
            go_wp2_with fail
            go_ret3
            rw [hdec.out, getB_form HX.out (by decide)]
            exact ⟨rfl, rfl⟩
          · have HR := hide (getB_ends (i := 2) (acc := acc) (x := x) (r := l.drop (2 + 1)) (by omega) (by rw [HX.out]; omega) (by rw [HX.out]; omega))
            have hlt : acc + X * 16384 < 18446744073709551616 := by omega
            go_wp2_with (go_at_call 11; refine (unfold_int _ (acc + X * 16384) (by omega) hlt _).mono ?_; rintro e w2 ⟨rfl, rfl⟩)
            go_ret3
            rw [hdec.out, HR.out, HX.out]
            exact ⟨rfl, rfl⟩
      · have hacc' : acc < 2097152 := by simpa using hacc
        clear hacc
        have hv : bits .or .u64 (acc : Int) (IntKind.u64.wrap (IntKind.u64.wrap (bits .andNot .u8 (X : Int) 128) * 2097152)) = ((acc + X % 128 * 2097152 : Nat) : Int) := by simpa using or_step 21 (by decide) acc X (by omega) (by simpa using hacc') (by omega)
        by_cases h128 : 128 ≤ X
        · have HR := hide (getB_more (i := 3) (acc := acc) (x := x) (r := l.drop (3 + 1)) (by omega) (by rw [HX.out]; exact h128))
          go_wp2_with fail
          refine ⟨⟨4, acc + X % 128 * 2097152, rfl, by go_num, by omega, by omega, ?_, ?_⟩, by simp [intOf]; omega⟩
          · show _ < 268435456
            omega
          · refine hide (hdec.out.trans (HR.out.trans ?_))
            rw [HX.out]
        · by_cases h0 : X = 0
          · subst h0
            go_wp2_with fail
            go_ret3
            rw [hdec.out, getB_form HX.out (by decide)]
            exact ⟨rfl, rfl⟩
          · have HR := hide (getB_ends (i := 3) (acc := acc) (x := x) (r := l.drop (3 + 1)) (by omega) (by rw [HX.out]; omega) (by rw [HX.out]; omega))
            have hlt : acc + X * 2097152 < 18446744073709551616 := by omega
            go_wp2_with (go_at_call 11; refine (unfold_int _ (acc + X * 2097152) (by omega) hlt _).mono ?_; rintro e w2 ⟨rfl, rfl⟩)
            go_ret3
            rw [hdec.out, HR.out, HX.out]
            exact ⟨rfl, rfl⟩
      · have hacc' : acc < 268435456 := by simpa using hacc
        clear hacc
        have hv : bits .or .u64 (acc : Int) (IntKind.u64.wrap (IntKind.u64.wrap (bits .andNot .u8 (X : Int) 128) * 268435456)) = ((acc + X % 128 * 268435456 : Nat) : Int) := by simpa using or_step 28 (by decide) acc X (by omega) (by simpa using hacc') (by omega)
        by_cases h128 : 128 ≤ X
        · have HR := hide (getB_more (i := 4) (acc := acc) (x := x) (r := l.drop (4 + 1)) (by omega) (by rw [HX.out]; exact h128))
          go_wp2_with fail
          refine ⟨⟨5, acc + X % 128 * 268435456, rfl, by go_num, by omega, by omega, ?_, ?_⟩, by simp [intOf]; omega⟩
          · show _ < 34359738368
            omega
          · refine hide (hdec.out.trans (HR.out.trans ?_))
            rw [HX.out]
        · by_cases h0 : X = 0
          · subst h0
            go_wp2_with fail
            go_ret3
            rw [hdec.out, getB_form HX.out (by decide)]
            exact ⟨rfl, rfl⟩
          · have HR := hide (getB_ends (i := 4) (acc := acc) (x := x) (r := l.drop (4 + 1)) (by omega) (by rw [HX.out]; omega) (by rw [HX.out]; omega))
            have hlt : acc + X * 268435456 < 18446744073709551616 := by omega
            go_wp2_with (go_at_call 11; refine (unfold_int _ (acc + X * 268435456) (by omega) hlt _).mono ?_; rintro e w2 ⟨rfl, rfl⟩)
            go_ret3
            rw [hdec.out, HR.out, HX.out]
            exact ⟨rfl, rfl⟩
      · have hacc' : acc < 34359738368 := by simpa using hacc
        clear hacc
        have hv : bits .or .u64 (acc : Int) (IntKind.u64.wrap (IntKind.u64.wrap (bits .andNot .u8 (X : Int) 128) * 34359738368)) = ((acc + X % 128 * 34359738368 : Nat) : Int) := by simpa using or_step 35 (by decide) acc X (by omega) (by simpa using hacc') (by omega)
        by_cases h128 : 128 ≤ X
        · have HR := hide (getB_more (i := 5) (acc := acc) (x := x) (r := l.drop (5 + 1)) (by omega) (by rw [HX.out]; exact h128))
          go_wp2_with fail
          refine ⟨⟨6, acc + X % 128 * 34359738368, rfl, by go_num, by omega, by omega, ?_, ?_⟩, by simp [intOf]; omega⟩
          · show _ < 4398046511104
            omega
          · refine hide (hdec.out.trans (HR.out.trans ?_))
            rw [HX.out]
        · by_cases h0 : X = 0
          · subst h0
            go_wp2_with fail
            go_ret3
            rw [hdec.out, getB_form HX.out (by decide)]
            exact ⟨rfl, rfl⟩
          · have HR := hide (getB_ends (i := 5) (acc := acc) (x := x) (r := l.drop (5 + 1)) (by omega) (by rw [HX.out]; omega) (by rw [HX.out]; omega))
            have hlt : acc + X * 34359738368 < 18446744073709551616 := by omega
            go_wp2_with (go_at_call 11; refine (unfold_int _ (acc + X * 34359738368) (by omega) hlt _).mono ?_; rintro e w2 ⟨rfl, rfl⟩)
            go_ret3
            rw [hdec.out, HR.out, HX.out]
            exact ⟨rfl, rfl⟩
      · have hacc' : acc < 4398046511104 := by simpa using hacc
        clear hacc
        have hv : bits .or .u64 (acc : Int) (IntKind.u64.wrap (IntKind.u64.wrap (bits .andNot .u8 (X : Int) 128) * 4398046511104)) = ((acc + X % 128 * 4398046511104 : Nat) : Int) := by simpa using or_step 42 (by decide) acc X (by omega) (by simpa using hacc') (by omega)
        by_cases h128 : 128 ≤ X
        · have HR := hide (getB_more (i := 6) (acc := acc) (x := x) (r := l.drop (6 + 1)) (by omega) (by rw [HX.out]; exact h128))
          go_wp2_with fail
          refine ⟨⟨7, acc + X % 128 * 4398046511104, rfl, by go_num, by omega, by omega, ?_, ?_⟩, by simp [intOf]; omega⟩
          · show _ < 562949953421312
            omega
          · refine hide (hdec.out.trans (HR.out.trans ?_))
            rw [HX.out]
        · by_cases h0 : X = 0
          · subst h0
            go_wp2_with fail
            go_ret3
            rw [hdec.out, getB_form HX.out (by decide)]
            exact ⟨rfl, rfl⟩
          · have HR := hide (getB_ends (i := 6) (acc := acc) (x := x) (r := l.drop (6 + 1)) (by omega) (by rw [HX.out]; omega) (by rw [HX.out]; omega))
            have hlt : acc + X * 4398046511104 < 18446744073709551616 := by omega
            go_wp2_with (go_at_call 11; refine (unfold_int _ (acc + X * 4398046511104) (by omega) hlt _).mono ?_; rintro e w2 ⟨rfl, rfl⟩)
            go_ret3
            rw [hdec.out, HR.out, HX.out]
            exact ⟨rfl, rfl⟩
      · have hacc' : acc < 562949953421312 := by simpa using hacc
        clear hacc
        have hv : bits .or .u64 (acc : Int) (IntKind.u64.wrap (IntKind.u64.wrap (bits .andNot .u8 (X : Int) 128) * 562949953421312)) = ((acc + X % 128 * 562949953421312 : Nat) : Int) := by simpa using or_step 49 (by decide) acc X (by omega) (by simpa using hacc') (by omega)
        by_cases h128 : 128 ≤ X
        · have HR := hide (getB_more (i := 7) (acc := acc) (x := x) (r := l.drop (7 + 1)) (by omega) (by rw [HX.out]; exact h128))
          go_wp2_with fail
          refine ⟨⟨8, acc + X % 128 * 562949953421312, rfl, by go_num, by omega, by omega, ?_, ?_⟩, by simp [intOf]; omega⟩
          · show _ < 72057594037927936
            omega
          · refine hide (hdec.out.trans (HR.out.trans ?_))
            rw [HX.out]
        · by_cases h0 : X = 0
          · subst h0
            go_wp2_with fail
            go_ret3
            rw [hdec.out, getB_form HX.out (by decide)]
            exact ⟨rfl, rfl⟩
          · have HR := hide (getB_ends (i := 7) (acc := acc) (x := x) (r := l.drop (7 + 1)) (by omega) (by rw [HX.out]; omega) (by rw [HX.out]; omega))
            have hlt : acc + X * 562949953421312 < 18446744073709551616 := by omega
            go_wp2_with (go_at_call 11; refine (unfold_int _ (acc + X * 562949953421312) (by omega) hlt _).mono ?_; rintro e w2 ⟨rfl, rfl⟩)
            go_ret3
            rw [hdec.out, HR.out, HX.out]
            exact ⟨rfl, rfl⟩
      · have hacc' : acc < 72057594037927936 := by simpa using hacc
        clear hacc
        have hv : bits .or .u64 (acc : Int) (IntKind.u64.wrap (IntKind.u64.wrap (bits .andNot .u8 (X : Int) 128) * 72057594037927936)) = ((acc + X % 128 * 72057594037927936 : Nat) : Int) := by simpa using or_step 56 (by decide) acc X (by omega) (by simpa using hacc') (by omega)
        by_cases h128 : 128 ≤ X
        · have HR := hide (getB_more (i := 8) (acc := acc) (x := x) (r := l.drop (8 + 1)) (by omega) (by rw [HX.out]; exact h128))
          go_wp2_with fail
          refine ⟨⟨9, acc + X % 128 * 72057594037927936, rfl, by go_num, by omega, by omega, ?_, ?_⟩, by simp [intOf]; omega⟩
          · show _ < 9223372036854775808
            omega
          · refine hide (hdec.out.trans (HR.out.trans ?_))
            rw [HX.out]
        · by_cases h0 : X = 0
          · subst h0
            go_wp2_with fail
            go_ret3
            rw [hdec.out, getB_form HX.out (by decide)]
            exact ⟨rfl, rfl⟩
          · have HR := hide (getB_ends (i := 8) (acc := acc) (x := x) (r := l.drop (8 + 1)) (by omega) (by rw [HX.out]; omega) (by rw [HX.out]; omega))
            have hlt : acc + X * 72057594037927936 < 18446744073709551616 := by omega
            go_wp2_with (go_at_call 11; refine (unfold_int _ (acc + X * 72057594037927936) (by omega) hlt _).mono ?_; rintro e w2 ⟨rfl, rfl⟩)
            go_ret3
            rw [hdec.out, HR.out, HX.out]
            exact ⟨rfl, rfl⟩
      · have hacc' : acc < 9223372036854775808 := by simpa using hacc
        clear hacc
        by_cases hover : 1 < X
        · go_wp2_with fail
          go_ret3
          rw [hdec.out, getB_over ⟨rfl, by rw [HX.out]; exact hover⟩]
          exact ⟨rfl, rfl⟩
        · by_cases h0 : X = 0
          · subst h0
            go_wp2_with fail
            go_ret3
            rw [hdec.out, getB_form HX.out (by decide)]
            exact ⟨rfl, rfl⟩
          · have hv : bits .or .u64 (acc : Int) (IntKind.u64.wrap (IntKind.u64.wrap (bits .andNot .u8 (X : Int) 128) * 9223372036854775808)) = ((acc + X % 128 * 9223372036854775808 : Nat) : Int) := by simpa using or_step 63 (by decide) acc X (by omega) (by simpa using hacc') (by omega)
            have HR := hide (getB_ends (i := 9) (acc := acc) (x := x) (r := l.drop (9 + 1)) (by rw [HX.out]; omega) (by rw [HX.out]; omega) (by rw [HX.out]; omega))
            have hlt : acc + X * 9223372036854775808 < 18446744073709551616 := by omega
            go_wp2_with (go_at_call 11; refine (unfold_int _ (acc + X * 9223372036854775808) (by omega) hlt _).mono ?_; rintro e w2 ⟨rfl, rfl⟩)
            go_ret3
            rw [hdec.out, HR.out, HX.out]
            exact ⟨rfl, rfl⟩
    · obtain rfl : k = l.length := by omega
      go_wp2_with fail
      go_ret3
      rw [hdec.out, List.drop_length]
      exact ⟨rfl, rfl⟩
end Go.Proofs.Ytcfjieebcgpapaa
