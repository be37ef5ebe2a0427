/- Package verify: the small ones: between, within, effect, bounds; what is wrong with a value; words. -/
import Derived.Test.YtgocmpooppejdaaFSpec
import Derived.Deep.Light
set_option maxHeartbeats 0
set_option maxRecDepth 100000
namespace Go.Proofs.Ytgocmpooppejdaa
open Go Go.RowKit
def betw (n lo hi : Int) : Bool := decide (lo ≤ n ∧ n ≤ hi)
theorem between_any (n lo hi : Int) (w : World) :
    Calls Try.prog 24 #[.int .i64 n, .int .i64 lo, .int .i64 hi] w fun e w' => e = .returned (.bool (betw n lo hi)) ∧ w' = w := by
  by_cases h1 : lo ≤ n
  · by_cases h2 : n ≤ hi
    · have h : betw n lo hi = true := decide_eq_true ⟨h1, h2⟩
      rw [h]; clear h
      go_enter Try.func24, Try.ntmps24
      go_wp2
      go_ret
      exact ⟨rfl, rfl⟩
    · have h : betw n lo hi = false := decide_eq_false (fun e => h2 e.2)
      rw [h]; clear h
      go_enter Try.func24, Try.ntmps24
      go_wp2
      go_ret
      exact ⟨rfl, rfl⟩
  · have h : betw n lo hi = false := decide_eq_false (fun e => h1 e.1)
    rw [h]; clear h
    go_enter Try.func24, Try.ntmps24
    go_wp2
    go_ret
    exact ⟨rfl, rfl⟩
theorem within_any (n : Int) (c : Nat) (w : World) (hc : c ≤ 9223372036854775807) :
    Calls Try.prog 19 #[.int .i64 n, .int .i64 (c : Nat)] w fun e w' => e = .returned (.bool (betw n 0 ((c : Int) - 1))) ∧ w' = w := by
  have hN : IntKind.i64.wrap (((c : Nat) : Int) - 1) = ((c : Nat) : Int) - 1 := wrap_in _ (by omega) (by omega)
  go_enter Try.func19, Try.ntmps19
  go_wp2_with (go_at_call 24; refine (between_any n 0 ((c : Int) - 1) w).mono ?_; rintro e w2 ⟨rfl, hw2⟩; rw [hw2]; clear hw2)
  go_ret
  exact ⟨rfl, rfl⟩
theorem cwithin_any (n : Int) (c : Int) (w : World) :
    Calls Try.prog 25 #[.int .i64 n, .int .i64 c] w fun e w' => e = .returned (.bool (decide (0 ≤ n ∧ n < c))) ∧ w' = w := by
  by_cases h1 : 0 ≤ n
  · by_cases h2 : n < c
    · have h : decide (0 ≤ n ∧ n < c) = true := decide_eq_true ⟨h1, h2⟩
      rw [h]; clear h
      go_enter Try.func25, Try.ntmps25
      go_wp2
      go_ret
      exact ⟨rfl, rfl⟩
    · have h : decide (0 ≤ n ∧ n < c) = false := decide_eq_false (fun e => h2 e.2)
      rw [h]; clear h
      go_enter Try.func25, Try.ntmps25
      go_wp2
      go_ret
      exact ⟨rfl, rfl⟩
  · have h : decide (0 ≤ n ∧ n < c) = false := decide_eq_false (fun e => h1 e.1)
    rw [h]; clear h
    go_enter Try.func25, Try.ntmps25
    go_wp2
    go_ret
    exact ⟨rfl, rfl⟩
theorem stray_any (v : Val) (w : World) :
    Calls Try.prog 26 #[vv v] w fun e w' => e = .returned (.bool (if v.k = 1 then decide (v.n ≠ 0) else !v.t.isEmpty)) ∧ Fr nothing w w' := by
  obtain ⟨k, n, t⟩ := v
  have HF : Hid (Fr nothing w (w.alloc (.cells #[.int .i64 k, .int .i64 n, .string (bs t)] 51))) := (Fr.refl _ _).alloc _
  by_cases hk : k = 1
  · subst hk
    simp only [if_true]
    by_cases hn : n = 0
    · subst hn
      go_enter Try.func26, Try.ntmps26
      go_wp2
      go_ret
      exact ⟨rfl, HF.out⟩
    · have hb : (n != 0) = true := by simpa using hn
      rw [decide_eq_true hn]
      go_enter Try.func26, Try.ntmps26
      go_wp2
      go_ret
      exact ⟨rfl, HF.out⟩
  · have hkb : (k == 1) = false := by simpa using hk
    rw [if_neg hk]
    go_enter Try.func26, Try.ntmps26
    go_wp2
    go_ret
    refine ⟨?_, HF.out⟩
    show Ending.returned (.bool (!(bs t).toList.isEmpty)) = _
    rw [bs_toList]
def strayB (v : Val) : Bool := if v.k = 1 then decide (v.n ≠ 0) else !v.t.isEmpty
theorem wrong_stray (c : Int) (v : Val) (h : v.k = 0 ∧ ¬ (v.n < -1073741824 ∨ 1073741824 < v.n) ∨ v.k = 1 ∧ ¬ 60 < v.t.length ∨ v.k = 2 ∧ ¬ (v.n < 0 ∨ c ≤ v.n)) : wrongV c v = if strayB v then 2 else 0 := by
  unfold wrongV strayB
  rcases h with ⟨h1, h2⟩ | ⟨h1, h2⟩ | ⟨h1, h2⟩
  · rw [if_pos h1, if_neg h2, if_neg (show ¬ v.k = 1 by omega)]
    cases v.t.isEmpty <;> rfl
  · rw [if_neg (show ¬ v.k = 0 by omega), if_pos h1, if_neg h2, if_pos h1]
    by_cases hn : v.n = 0 <;> simp [hn]
  · rw [if_neg (show ¬ v.k = 0 by omega), if_neg (show ¬ v.k = 1 by omega), if_pos h1, if_neg h2, if_neg (show ¬ v.k = 1 by omega)]
    cases v.t.isEmpty <;> rfl
/-- What is wrong with a value (package cell). -/
theorem cwrong_any (v : Val) (c : Int) (w : World) (hs : v.t.length ≤ 9223372036854775807) :
    Calls Try.prog 14 #[vv v, .int .i64 c] w fun e w' => e = .returned (.int .i64 (wrongV c v)) ∧ Fr nothing w w' := by
  have hA : Fr nothing w (w.alloc (.cells #[.int .i64 v.k, .int .i64 v.n, .string (bs v.t)] 51)) := (Fr.refl _ _).alloc _
  have hm := made_cells (Fr.refl nothing (w.alloc (.cells #[.int .i64 v.k, .int .i64 v.n, .string (bs v.t)] 51))) id
  have HST := hide (fun w1 => stray_any v w1)
  have HWS := hide (wrong_stray c v)
  have HW : Hid (wrongV c v = wrongV c v) := rfl
  have hsz := bs_size v.t
  have HSB : Hid ((if v.k = 1 then decide (v.n ≠ 0) else !v.t.isEmpty) = strayB v) := rfl
  have HU : Hid (v.k = 0 → (v.n < -1073741824 ∨ 1073741824 < v.n) → wrongV c v = 3) := fun h1 h2 => by unfold wrongV; rw [if_pos h1, if_pos h2]
  have HU4 : Hid (v.k = 1 → 60 < v.t.length → wrongV c v = 4) := fun h1 h2 => by unfold wrongV; rw [if_neg (by omega), if_pos h1, if_pos h2]
  have HU6 : Hid (v.k = 2 → (v.n < 0 ∨ c ≤ v.n) → wrongV c v = 6) := fun h1 h2 => by unfold wrongV; rw [if_neg (by omega), if_neg (by omega), if_pos h1, if_pos h2]
  have HU1 : Hid (v.k ≠ 0 → v.k ≠ 1 → v.k ≠ 2 → wrongV c v = 1) := fun h1 h2 h3 => by unfold wrongV; rw [if_neg h1, if_neg h2, if_neg h3]
  obtain ⟨k, n, t⟩ := v
  simp only at *
  have HF := hide hA
  have c0 := hm.1 0
  have c1 := hm.1 1
  have c2 := hm.1 2
  have cl := hm.2.2
  obtain ⟨w1, hw1⟩ : ∃ x, x = w.alloc (.cells #[.int .i64 k, .int .i64 n, .string (bs t)] 51) := ⟨_, rfl⟩
  rw [← hw1] at HF c0 c1 c2 cl
  have hw1' := hw1.symm
  clear hA hm hw1
  by_cases k0 : k = 0
  · by_cases hr : n < -1073741824 ∨ 1073741824 < n
    · rw [HU.out k0 hr]
      subst k0
      by_cases hr1 : n < -1073741824
      · skip
        go_enter Try.func14, Try.ntmps14
        go_wp2
        go_ret
        exact ⟨rfl, HF.out⟩
      · have hr2 : 1073741824 < n := by omega
        go_enter Try.func14, Try.ntmps14
        go_wp2
        go_ret
        exact ⟨rfl, HF.out⟩
    · rw [HWS.out (.inl ⟨k0, hr⟩)]
      subst k0
      have hr1 : ¬ n < -1073741824 := by omega
      have hr2 : ¬ 1073741824 < n := by omega
      generalize strayB ⟨0, n, t⟩ = sb at *
      cases sb
      · go_enter Try.func14, Try.ntmps14
        go_wp2_with (go_at_call 26; refine (HST.out w1).mono ?_; rintro e w2 ⟨rfl, hf2⟩; rw [HSB.out]; have HF2 := hide (HF.out.trans hf2); clear hf2)
        go_ret
        exact ⟨rfl, HF2.out⟩
      · go_enter Try.func14, Try.ntmps14
        go_wp2_with (go_at_call 26; refine (HST.out w1).mono ?_; rintro e w2 ⟨rfl, hf2⟩; rw [HSB.out]; have HF2 := hide (HF.out.trans hf2); clear hf2)
        go_ret
        exact ⟨rfl, HF2.out⟩
  have k0b : (k == 0) = false := by simpa using k0
  by_cases k1 : k = 1
  · by_cases hr : 60 < t.length
    · rw [HU4.out k1 hr]
      subst k1
      go_enter Try.func14, Try.ntmps14
      go_wp2
      go_ret
      exact ⟨rfl, HF.out⟩
    · rw [HWS.out (.inr (.inl ⟨k1, hr⟩))]
      subst k1
      generalize strayB ⟨1, n, t⟩ = sb at *
      cases sb
      · go_enter Try.func14, Try.ntmps14
        go_wp2_with (go_at_call 26; refine (HST.out w1).mono ?_; rintro e w2 ⟨rfl, hf2⟩; rw [HSB.out]; have HF2 := hide (HF.out.trans hf2); clear hf2)
        go_ret
        exact ⟨rfl, HF2.out⟩
      · go_enter Try.func14, Try.ntmps14
        go_wp2_with (go_at_call 26; refine (HST.out w1).mono ?_; rintro e w2 ⟨rfl, hf2⟩; rw [HSB.out]; have HF2 := hide (HF.out.trans hf2); clear hf2)
        go_ret
        exact ⟨rfl, HF2.out⟩
  have k1b : (k == 1) = false := by simpa using k1
  by_cases k2 : k = 2
  · by_cases hr : n < 0 ∨ c ≤ n
    · rw [HU6.out k2 hr]
      subst k2
      have hcw : decide (0 ≤ n ∧ n < c) = false := decide_eq_false (by omega)
      go_enter Try.func14, Try.ntmps14
      go_wp2_with (go_at_call 25; refine (cwithin_any n c w1).mono ?_; rintro e w2 ⟨rfl, hw2⟩; rw [hw2, hcw]; clear hw2)
      go_ret
      exact ⟨rfl, HF.out⟩
    · rw [HWS.out (.inr (.inr ⟨k2, hr⟩))]
      subst k2
      have hcw : decide (0 ≤ n ∧ n < c) = true := decide_eq_true (by omega)
      generalize strayB ⟨2, n, t⟩ = sb at *
      cases sb
      · go_enter Try.func14, Try.ntmps14
        go_wp2_with (first | (go_at_call 25; refine (cwithin_any n c w1).mono ?_; rintro e w2 ⟨rfl, hw2⟩; rw [hw2, hcw]; clear hw2) | (go_at_call 26; refine (HST.out w1).mono ?_; rintro e w2 ⟨rfl, hf2⟩; rw [HSB.out]; have HF2 := hide (HF.out.trans hf2); clear hf2))
        go_ret
        exact ⟨rfl, HF2.out⟩
      · go_enter Try.func14, Try.ntmps14
        go_wp2_with (first | (go_at_call 25; refine (cwithin_any n c w1).mono ?_; rintro e w2 ⟨rfl, hw2⟩; rw [hw2, hcw]; clear hw2) | (go_at_call 26; refine (HST.out w1).mono ?_; rintro e w2 ⟨rfl, hf2⟩; rw [HSB.out]; have HF2 := hide (HF.out.trans hf2); clear hf2))
        go_ret
        exact ⟨rfl, HF2.out⟩
  have k2b : (k == 2) = false := by simpa using k2
  rw [HU1.out k0 k1 k2]
  go_enter Try.func14, Try.ntmps14
  go_wp2
  go_ret
  exact ⟨rfl, HF.out⟩
/-- What is wrong with a value, the document's own answer. -/
theorem rwrong_any (v : Val) (c : Int) (w : World) (hs : v.t.length ≤ 9223372036854775807) :
    Calls Try.prog 17 #[vv v, .int .i64 c] w fun e w' => e = .returned (.int .i64 (wrongV c v)) ∧ Fr nothing w w' := by
  have HF : Hid (Fr nothing w (w.alloc (.cells #[.int .i64 v.k, .int .i64 v.n, .string (bs v.t)] 51))) := (Fr.refl _ _).alloc _
  have hsz := bs_size v.t
  have htl := bs_toList v.t
  have HD : Hid (wrongV c v = if v.k = 0 then (if v.n < -1073741824 ∨ 1073741824 < v.n then 3 else if v.t.isEmpty then 0 else 2) else if v.k = 1 then (if 60 < v.t.length then 4 else if v.n ≠ 0 then 2 else 0) else if v.k = 2 then (if v.n < 0 ∨ c ≤ v.n then 6 else if v.t.isEmpty then 0 else 2) else 1) := rfl
  generalize wrongV c v = R at *
  obtain ⟨k, n, t⟩ := v
  simp only at *
  have hd := HD.out
  by_cases k0 : k = 0
  · rw [if_pos k0] at hd
    subst k0
    by_cases hr1 : n < -1073741824
    · rw [if_pos (.inl hr1)] at hd
      subst hd
      go_enter Try.func17, Try.ntmps17
      go_wp2
      go_ret
      exact ⟨rfl, HF.out⟩
    by_cases hr2 : 1073741824 < n
    · rw [if_pos (.inr hr2)] at hd
      subst hd
      go_enter Try.func17, Try.ntmps17
      go_wp2
      go_ret
      exact ⟨rfl, HF.out⟩
    rw [if_neg (by omega)] at hd
    cases t with
    | nil =>
      simp only [List.isEmpty_nil, if_true] at hd
      subst hd
      go_enter Try.func17, Try.ntmps17
      go_wp2
      go_ret
      exact ⟨rfl, HF.out⟩
    | cons x t =>
      simp only [List.isEmpty_cons] at hd
      replace hd : R = 2 := hd
      subst hd
      go_enter Try.func17, Try.ntmps17
      go_wp2
      go_ret
      exact ⟨rfl, HF.out⟩
  rw [if_neg k0] at hd
  have k0b : (k == 0) = false := by simpa using k0
  by_cases k1 : k = 1
  · rw [if_pos k1] at hd
    subst k1
    by_cases hr1 : 60 < t.length
    · rw [if_pos hr1] at hd
      subst hd
      go_enter Try.func17, Try.ntmps17
      go_wp2
      go_ret
      exact ⟨rfl, HF.out⟩
    rw [if_neg hr1] at hd
    by_cases hn : n = 0
    · rw [if_neg (by omega)] at hd
      subst hd hn
      go_enter Try.func17, Try.ntmps17
      go_wp2
      go_ret
      exact ⟨rfl, HF.out⟩
    · rw [if_pos hn] at hd
      have hnb : (n != 0) = true := by simpa using hn
      subst hd
      go_enter Try.func17, Try.ntmps17
      go_wp2
      go_ret
      exact ⟨rfl, HF.out⟩
  rw [if_neg k1] at hd
  have k1b : (k == 1) = false := by simpa using k1
  by_cases k2 : k = 2
  · rw [if_pos k2] at hd
    subst k2
    by_cases hr1 : n < 0
    · rw [if_pos (.inl hr1)] at hd
      subst hd
      go_enter Try.func17, Try.ntmps17
      go_wp2
      go_ret
      exact ⟨rfl, HF.out⟩
    by_cases hr2 : c ≤ n
    · rw [if_pos (.inr hr2)] at hd
      subst hd
      go_enter Try.func17, Try.ntmps17
      go_wp2
      go_ret
      exact ⟨rfl, HF.out⟩
    rw [if_neg (by omega)] at hd
    cases t with
    | nil =>
      simp only [List.isEmpty_nil, if_true] at hd
      subst hd
      go_enter Try.func17, Try.ntmps17
      go_wp2
      go_ret
      exact ⟨rfl, HF.out⟩
    | cons x t =>
      simp only [List.isEmpty_cons] at hd
      replace hd : R = 2 := hd
      subst hd
      go_enter Try.func17, Try.ntmps17
      go_wp2
      go_ret
      exact ⟨rfl, HF.out⟩
  rw [if_neg k2] at hd
  have k2b : (k == 2) = false := by simpa using k2
  subst hd
  go_enter Try.func17, Try.ntmps17
  go_wp2
  go_ret
  exact ⟨rfl, HF.out⟩
end Go.Proofs.Ytgocmpooppejdaa
