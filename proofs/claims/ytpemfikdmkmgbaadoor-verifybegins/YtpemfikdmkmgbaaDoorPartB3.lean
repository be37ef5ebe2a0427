/- FLow; FWord; FProg; FInstr. -/
import Derived.Deep.Light
import Derived.Test.YtpemfikdmkmgbaaDoorPartB2
section
/- Package verify: the small ones: between, within, effect, bounds; what is wrong with a value; words. -/
set_option maxHeartbeats 0
set_option maxRecDepth 100000
namespace Go.Proofs.YtpemfikdmkmgbaaDoor
open Go Go.RowKit
def betw (n lo hi : Int) : Bool := decide (lo ≤ n ∧ n ≤ hi)
theorem between_any (n lo hi : Int) (w : World) :
    Calls Tryd.prog 35 #[.int .i64 n, .int .i64 lo, .int .i64 hi] w fun e w' => e = .returned (.bool (betw n lo hi)) ∧ w' = w := by
  by_cases h1 : lo ≤ n
  · by_cases h2 : n ≤ hi
    · have h : betw n lo hi = true := decide_eq_true ⟨h1, h2⟩
      rw [h]; clear h
      go_enter Tryd.func35, Tryd.ntmps35
      go_wp2
      go_ret
      exact ⟨rfl, rfl⟩
    · have h : betw n lo hi = false := decide_eq_false (fun e => h2 e.2)
      rw [h]; clear h
      go_enter Tryd.func35, Tryd.ntmps35
      go_wp2
      go_ret
      exact ⟨rfl, rfl⟩
  · have h : betw n lo hi = false := decide_eq_false (fun e => h1 e.1)
    rw [h]; clear h
    go_enter Tryd.func35, Tryd.ntmps35
    go_wp2
    go_ret
    exact ⟨rfl, rfl⟩
theorem within_any (n : Int) (c : Nat) (w : World) (hc : c ≤ 9223372036854775807) :
    Calls Tryd.prog 31 #[.int .i64 n, .int .i64 (c : Nat)] w fun e w' => e = .returned (.bool (betw n 0 ((c : Int) - 1))) ∧ w' = w := by
  have hN : IntKind.i64.wrap (((c : Nat) : Int) - 1) = ((c : Nat) : Int) - 1 := wrap_in _ (by omega) (by omega)
  go_enter Tryd.func31, Tryd.ntmps31
  go_wp2_with (go_at_call 35; refine (between_any n 0 ((c : Int) - 1) w).mono ?_; rintro e w2 ⟨rfl, hw2⟩; rw [hw2]; clear hw2)
  go_ret
  exact ⟨rfl, rfl⟩
theorem cwithin_any (n : Int) (c : Int) (w : World) :
    Calls Tryd.prog 36 #[.int .i64 n, .int .i64 c] w fun e w' => e = .returned (.bool (decide (0 ≤ n ∧ n < c))) ∧ w' = w := by
  by_cases h1 : 0 ≤ n
  · by_cases h2 : n < c
    · have h : decide (0 ≤ n ∧ n < c) = true := decide_eq_true ⟨h1, h2⟩
      rw [h]; clear h
      go_enter Tryd.func36, Tryd.ntmps36
      go_wp2
      go_ret
      exact ⟨rfl, rfl⟩
    · have h : decide (0 ≤ n ∧ n < c) = false := decide_eq_false (fun e => h2 e.2)
      rw [h]; clear h
      go_enter Tryd.func36, Tryd.ntmps36
      go_wp2
      go_ret
      exact ⟨rfl, rfl⟩
  · have h : decide (0 ≤ n ∧ n < c) = false := decide_eq_false (fun e => h1 e.1)
    rw [h]; clear h
    go_enter Tryd.func36, Tryd.ntmps36
    go_wp2
    go_ret
    exact ⟨rfl, rfl⟩
theorem stray_any (v : Val) (w : World) :
    Calls Tryd.prog 37 #[vv v] w fun e w' => e = .returned (.bool (if v.k = 1 then decide (v.n ≠ 0) else !v.t.isEmpty)) ∧ Fr nothing w w' := by
  obtain ⟨k, n, t⟩ := v
  have HF : Hid (Fr nothing w (w.alloc (.cells #[.int .i64 k, .int .i64 n, .string (bs t)] 65))) := (Fr.refl _ _).alloc _
  by_cases hk : k = 1
  · subst hk
    simp only [if_true]
    by_cases hn : n = 0
    · subst hn
      go_enter Tryd.func37, Tryd.ntmps37
      go_wp2
      go_ret
      exact ⟨rfl, HF.out⟩
    · have hb : (n != 0) = true := by simpa using hn
      rw [decide_eq_true hn]
      go_enter Tryd.func37, Tryd.ntmps37
      go_wp2
      go_ret
      exact ⟨rfl, HF.out⟩
  · have hkb : (k == 1) = false := by simpa using hk
    rw [if_neg hk]
    go_enter Tryd.func37, Tryd.ntmps37
    go_wp2
    go_ret
    refine ⟨?_, HF.out⟩
    show Ending.returned (.bool (!(bs t).toList.isEmpty)) = _
    rw [bs_toList]
def strayB (v : Val) : Bool := if v.k = 1 then decide (v.n ≠ 0) else !v.t.isEmpty
theorem wrong_stray (c : Int) (v : Val) (h : v.k = 0 ∧ ¬ (v.n < -1073741824 ∨ 1073741824 < v.n) ∨ v.k = 1 ∧ ¬ 60 < v.t.length ∨ v.k = 2 ∧ ¬ (v.n < 0 ∨ c ≤ v.n)) : wrongV c v = if strayB v then 2 else 0 := by
  unfold wrongV strayB
  rcases h with ⟨h1, h2⟩ | ⟨h1, h2⟩ | ⟨h1, h2⟩
  · rw [if_pos h1, if_neg h2, if_neg (show ¬ v.k = 1 by omega)]
    cases v.t.isEmpty <;> rfl
  · rw [if_neg (show ¬ v.k = 0 by omega), if_pos h1, if_neg h2, if_pos h1]
    by_cases hn : v.n = 0 <;> simp [hn]
  · rw [if_neg (show ¬ v.k = 0 by omega), if_neg (show ¬ v.k = 1 by omega), if_pos h1, if_neg h2, if_neg (show ¬ v.k = 1 by omega)]
    cases v.t.isEmpty <;> rfl
/-- What is wrong with a value (package cell). -/
theorem cwrong_any (v : Val) (c : Int) (w : World) (hs : v.t.length ≤ 9223372036854775807) :
    Calls Tryd.prog 17 #[vv v, .int .i64 c] w fun e w' => e = .returned (.int .i64 (wrongV c v)) ∧ Fr nothing w w' := by
  have hA : Fr nothing w (w.alloc (.cells #[.int .i64 v.k, .int .i64 v.n, .string (bs v.t)] 65)) := (Fr.refl _ _).alloc _
  have hm := made_cells (Fr.refl nothing (w.alloc (.cells #[.int .i64 v.k, .int .i64 v.n, .string (bs v.t)] 65))) id
  have HST := hide (fun w1 => stray_any v w1)
  have HWS := hide (wrong_stray c v)
  have HW : Hid (wrongV c v = wrongV c v) := rfl
  have hsz := bs_size v.t
  have HSB : Hid ((if v.k = 1 then decide (v.n ≠ 0) else !v.t.isEmpty) = strayB v) := rfl
  have HU : Hid (v.k = 0 → (v.n < -1073741824 ∨ 1073741824 < v.n) → wrongV c v = 3) := fun h1 h2 => by unfold wrongV; rw [if_pos h1, if_pos h2]
  have HU4 : Hid (v.k = 1 → 60 < v.t.length → wrongV c v = 4) := fun h1 h2 => by unfold wrongV; rw [if_neg (by omega), if_pos h1, if_pos h2]
  have HU6 : Hid (v.k = 2 → (v.n < 0 ∨ c ≤ v.n) → wrongV c v = 6) := fun h1 h2 => by unfold wrongV; rw [if_neg (by omega), if_neg (by omega), if_pos h1, if_pos h2]
  have HU1 : Hid (v.k ≠ 0 → v.k ≠ 1 → v.k ≠ 2 → wrongV c v = 1) := fun h1 h2 h3 => by unfold wrongV; rw [if_neg h1, if_neg h2, if_neg h3]
  obtain ⟨k, n, t⟩ := v
  simp only at *
  have HF := hide hA
  have c0 := hm.1 0
  have c1 := hm.1 1
  have c2 := hm.1 2
  have cl := hm.2.2
  obtain ⟨w1, hw1⟩ : ∃ x, x = w.alloc (.cells #[.int .i64 k, .int .i64 n, .string (bs t)] 65) := ⟨_, rfl⟩
  rw [← hw1] at HF c0 c1 c2 cl
  have hw1' := hw1.symm
  clear hA hm hw1
  by_cases k0 : k = 0
  · by_cases hr : n < -1073741824 ∨ 1073741824 < n
    · rw [HU.out k0 hr]
      subst k0
      by_cases hr1 : n < -1073741824
      · skip
        go_enter Tryd.func17, Tryd.ntmps17
        go_wp2
        go_ret
        exact ⟨rfl, HF.out⟩
      · have hr2 : 1073741824 < n := by omega
        go_enter Tryd.func17, Tryd.ntmps17
        go_wp2
        go_ret
        exact ⟨rfl, HF.out⟩
    · rw [HWS.out (.inl ⟨k0, hr⟩)]
      subst k0
      have hr1 : ¬ n < -1073741824 := by omega
      have hr2 : ¬ 1073741824 < n := by omega
      generalize strayB ⟨0, n, t⟩ = sb at *
      cases sb
      · go_enter Tryd.func17, Tryd.ntmps17
        go_wp2_with (go_at_call 37; refine (HST.out w1).mono ?_; rintro e w2 ⟨rfl, hf2⟩; rw [HSB.out]; have HF2 := hide (HF.out.trans hf2); clear hf2)
        go_ret
        exact ⟨rfl, HF2.out⟩
      · go_enter Tryd.func17, Tryd.ntmps17
        go_wp2_with (go_at_call 37; refine (HST.out w1).mono ?_; rintro e w2 ⟨rfl, hf2⟩; rw [HSB.out]; have HF2 := hide (HF.out.trans hf2); clear hf2)
        go_ret
        exact ⟨rfl, HF2.out⟩
  have k0b : (k == 0) = false := by simpa using k0
  by_cases k1 : k = 1
  · by_cases hr : 60 < t.length
    · rw [HU4.out k1 hr]
      subst k1
      go_enter Tryd.func17, Tryd.ntmps17
      go_wp2
      go_ret
      exact ⟨rfl, HF.out⟩
    · rw [HWS.out (.inr (.inl ⟨k1, hr⟩))]
      subst k1
      generalize strayB ⟨1, n, t⟩ = sb at *
      cases sb
      · go_enter Tryd.func17, Tryd.ntmps17
        go_wp2_with (go_at_call 37; refine (HST.out w1).mono ?_; rintro e w2 ⟨rfl, hf2⟩; rw [HSB.out]; have HF2 := hide (HF.out.trans hf2); clear hf2)
        go_ret
        exact ⟨rfl, HF2.out⟩
      · go_enter Tryd.func17, Tryd.ntmps17
        go_wp2_with (go_at_call 37; refine (HST.out w1).mono ?_; rintro e w2 ⟨rfl, hf2⟩; rw [HSB.out]; have HF2 := hide (HF.out.trans hf2); clear hf2)
        go_ret
        exact ⟨rfl, HF2.out⟩
  have k1b : (k == 1) = false := by simpa using k1
  by_cases k2 : k = 2
  · by_cases hr : n < 0 ∨ c ≤ n
    · rw [HU6.out k2 hr]
      subst k2
      have hcw : decide (0 ≤ n ∧ n < c) = false := decide_eq_false (by omega)
      go_enter Tryd.func17, Tryd.ntmps17
      go_wp2_with (go_at_call 36; refine (cwithin_any n c w1).mono ?_; rintro e w2 ⟨rfl, hw2⟩; rw [hw2, hcw]; clear hw2)
      go_ret
      exact ⟨rfl, HF.out⟩
    · rw [HWS.out (.inr (.inr ⟨k2, hr⟩))]
      subst k2
      have hcw : decide (0 ≤ n ∧ n < c) = true := decide_eq_true (by omega)
      generalize strayB ⟨2, n, t⟩ = sb at *
      cases sb
      · go_enter Tryd.func17, Tryd.ntmps17
        go_wp2_with (first | (go_at_call 36; refine (cwithin_any n c w1).mono ?_; rintro e w2 ⟨rfl, hw2⟩; rw [hw2, hcw]; clear hw2) | (go_at_call 37; refine (HST.out w1).mono ?_; rintro e w2 ⟨rfl, hf2⟩; rw [HSB.out]; have HF2 := hide (HF.out.trans hf2); clear hf2))
        go_ret
        exact ⟨rfl, HF2.out⟩
      · go_enter Tryd.func17, Tryd.ntmps17
        go_wp2_with (first | (go_at_call 36; refine (cwithin_any n c w1).mono ?_; rintro e w2 ⟨rfl, hw2⟩; rw [hw2, hcw]; clear hw2) | (go_at_call 37; refine (HST.out w1).mono ?_; rintro e w2 ⟨rfl, hf2⟩; rw [HSB.out]; have HF2 := hide (HF.out.trans hf2); clear hf2))
        go_ret
        exact ⟨rfl, HF2.out⟩
  have k2b : (k == 2) = false := by simpa using k2
  rw [HU1.out k0 k1 k2]
  go_enter Tryd.func17, Tryd.ntmps17
  go_wp2
  go_ret
  exact ⟨rfl, HF.out⟩
/-- What is wrong with a value, the document's own answer. -/
theorem rwrong_any (v : Val) (c : Int) (w : World) (hs : v.t.length ≤ 9223372036854775807) :
    Calls Tryd.prog 20 #[vv v, .int .i64 c] w fun e w' => e = .returned (.int .i64 (wrongV c v)) ∧ Fr nothing w w' := by
  have HF : Hid (Fr nothing w (w.alloc (.cells #[.int .i64 v.k, .int .i64 v.n, .string (bs v.t)] 65))) := (Fr.refl _ _).alloc _
  have hsz := bs_size v.t
  have htl := bs_toList v.t
  have HD : Hid (wrongV c v = if v.k = 0 then (if v.n < -1073741824 ∨ 1073741824 < v.n then 3 else if v.t.isEmpty then 0 else 2) else if v.k = 1 then (if 60 < v.t.length then 4 else if v.n ≠ 0 then 2 else 0) else if v.k = 2 then (if v.n < 0 ∨ c ≤ v.n then 6 else if v.t.isEmpty then 0 else 2) else 1) := rfl
  generalize wrongV c v = R at *
  obtain ⟨k, n, t⟩ := v
  simp only at *
  have hd := HD.out
  by_cases k0 : k = 0
  · rw [if_pos k0] at hd
    subst k0
    by_cases hr1 : n < -1073741824
    · rw [if_pos (.inl hr1)] at hd
      subst hd
      go_enter Tryd.func20, Tryd.ntmps20
      go_wp2
      go_ret
      exact ⟨rfl, HF.out⟩
    by_cases hr2 : 1073741824 < n
    · rw [if_pos (.inr hr2)] at hd
      subst hd
      go_enter Tryd.func20, Tryd.ntmps20
      go_wp2
      go_ret
      exact ⟨rfl, HF.out⟩
    rw [if_neg (by omega)] at hd
    cases t with
    | nil =>
      simp only [List.isEmpty_nil, if_true] at hd
      subst hd
      go_enter Tryd.func20, Tryd.ntmps20
      go_wp2
      go_ret
      exact ⟨rfl, HF.out⟩
    | cons x t =>
      simp only [List.isEmpty_cons] at hd
      replace hd : R = 2 := hd
      subst hd
      go_enter Tryd.func20, Tryd.ntmps20
      go_wp2
      go_ret
      exact ⟨rfl, HF.out⟩
  rw [if_neg k0] at hd
  have k0b : (k == 0) = false := by simpa using k0
  by_cases k1 : k = 1
  · rw [if_pos k1] at hd
    subst k1
    by_cases hr1 : 60 < t.length
    · rw [if_pos hr1] at hd
      subst hd
      go_enter Tryd.func20, Tryd.ntmps20
      go_wp2
      go_ret
      exact ⟨rfl, HF.out⟩
    rw [if_neg hr1] at hd
    by_cases hn : n = 0
    · rw [if_neg (by omega)] at hd
      subst hd hn
      go_enter Tryd.func20, Tryd.ntmps20
      go_wp2
      go_ret
      exact ⟨rfl, HF.out⟩
    · rw [if_pos hn] at hd
      have hnb : (n != 0) = true := by simpa using hn
      subst hd
      go_enter Tryd.func20, Tryd.ntmps20
      go_wp2
      go_ret
      exact ⟨rfl, HF.out⟩
  rw [if_neg k1] at hd
  have k1b : (k == 1) = false := by simpa using k1
  by_cases k2 : k = 2
  · rw [if_pos k2] at hd
    subst k2
    by_cases hr1 : n < 0
    · rw [if_pos (.inl hr1)] at hd
      subst hd
      go_enter Tryd.func20, Tryd.ntmps20
      go_wp2
      go_ret
      exact ⟨rfl, HF.out⟩
    by_cases hr2 : c ≤ n
    · rw [if_pos (.inr hr2)] at hd
      subst hd
      go_enter Tryd.func20, Tryd.ntmps20
      go_wp2
      go_ret
      exact ⟨rfl, HF.out⟩
    rw [if_neg (by omega)] at hd
    cases t with
    | nil =>
      simp only [List.isEmpty_nil, if_true] at hd
      subst hd
      go_enter Tryd.func20, Tryd.ntmps20
      go_wp2
      go_ret
      exact ⟨rfl, HF.out⟩
    | cons x t =>
      simp only [List.isEmpty_cons] at hd
      replace hd : R = 2 := hd
      subst hd
      go_enter Tryd.func20, Tryd.ntmps20
      go_wp2
      go_ret
      exact ⟨rfl, HF.out⟩
  rw [if_neg k2] at hd
  have k2b : (k == 2) = false := by simpa using k2
  subst hd
  go_enter Tryd.func20, Tryd.ntmps20
  go_wp2
  go_ret
  exact ⟨rfl, HF.out⟩
end Go.Proofs.YtpemfikdmkmgbaaDoor
end
section
/- What is a word: package text, and the document. -/
set_option maxHeartbeats 0
set_option maxRecDepth 100000
namespace Go.Proofs.YtpemfikdmkmgbaaDoor
open Go Go.RowKit
theorem rword_any (v : Bs) (w : World) (hv : v.length ≤ 9223372036854775807) :
    Calls Tryd.prog 70 #[.string (bs v)] w fun e w' => e = .returned (.bool (isWord v)) ∧ w' = w := by
  have hsz := bs_size v
  have HN : Hid (isWord v = (v.all wordC && decide (v.length < 13))) := rfl
  generalize isWord v = r at HN ⊢
  go_enter Tryd.func70, Tryd.ntmps70
  go_wp2
  go_loop [6, 3] (fun i _ => ∃ k : Nat, k ≤ v.length ∧ i = .int .i64 k ∧ Hid ((v.take k).all wordC = true)) (fun i _ => v.length - (intOf i).toNat)
  case atStart => exact ⟨0, Nat.zero_le _, rfl, rfl⟩
  case round =>
    obtain ⟨k, hk, rfl, hall⟩ := hrel
    by_cases hlt : k < v.length
    · have hz : (k : Int) < ((bs v).size : Int) := by rw [hsz]; omega
      have hz' : k < (bs v).size := by rw [hsz]; omega
      generalize hc : (bs v)[k]'hz' = c
      have HCK : Hid (v[k] = c) := hc
      by_cases h1 : c.toNat < 32
      · have hr : r = false := by rw [HN.out, all_not hlt HCK.out (by simp [wordC]; omega)]; simp
        subst hr
        have h2 : (c.toNat : Int) < 32 := by omega
        go_wp2
        all_goals go_ret
        all_goals exact ⟨rfl, rfl⟩
      · have h2 : ¬ (c.toNat : Int) < 32 := by omega
        by_cases h3 : 126 < c.toNat
        · have hr : r = false := by rw [HN.out, all_not hlt HCK.out (by simp [wordC]; omega)]; simp
          subst hr
          have h4 : (126 : Int) < (c.toNat : Int) := by omega
          go_wp2
          all_goals go_ret
          all_goals exact ⟨rfl, rfl⟩
        · have h4 : ¬ (126 : Int) < (c.toNat : Int) := by omega
          by_cases h5 : c.toNat = 39
          · have hr : r = false := by rw [HN.out, all_not hlt HCK.out (by simp [wordC, h5])]; simp
            subst hr
            have h6 : ((c.toNat : Int) == 39) = true := by simp; omega
            go_wp2
            all_goals go_ret
            all_goals exact ⟨rfl, rfl⟩
          · have h6 : ((c.toNat : Int) == 39) = false := by simp; omega
            have HL := hide (all_take hall.out hlt HCK.out (by simp [wordC, h5]; omega))
            go_wp2
            go_round
            case rel => exact ⟨k + 1, by omega, by go_num, HL⟩
            case measure => simp [intOf]; omega
    · obtain rfl : k = v.length := by omega
      have hr : r = decide (v.length < 13) := by
        have := hall.out
        rw [List.take_length] at this
        rw [HN.out, this]
        simp
      subst hr
      clear hall
      by_cases h9 : v.length < 13
      · have g9 : (v.length : Int) < 13 := by omega
        go_wp2
        all_goals go_ret
        all_goals exact ⟨by simp [*], rfl⟩
      · have g9 : ¬ (v.length : Int) < 13 := by omega
        go_wp2
        all_goals go_ret
        all_goals exact ⟨by simp [*], rfl⟩
theorem tword_any (v : Bs) (w : World) (hv : v.length ≤ 9223372036854775807) :
    Calls Tryd.prog 50 #[.string (bs v)] w fun e w' => e = .returned (.bool (isWord v)) ∧ w' = w := by
  have hsz := bs_size v
  have HN : Hid (isWord v = (v.all wordC && decide (v.length < 13))) := rfl
  generalize isWord v = r at HN ⊢
  by_cases h9 : 12 < v.length
  · have hr : r = false := by rw [HN.out, decide_eq_false (by omega)]; simp
    subst hr
    have g9 : (12 : Int) < (v.length : Int) := by omega
    go_enter Tryd.func50, Tryd.ntmps50
    go_wp2
    go_ret
    exact ⟨rfl, rfl⟩
  have g9 : ¬ (12 : Int) < (v.length : Int) := by omega
  go_enter Tryd.func50, Tryd.ntmps50
  go_wp2
  go_loop [9, 3] (fun i _ => ∃ k : Nat, k ≤ v.length ∧ i = .int .i64 k ∧ Hid ((v.take k).all wordC = true)) (fun i _ => v.length - (intOf i).toNat)
  case atStart => exact ⟨0, Nat.zero_le _, rfl, rfl⟩
  case round =>
    obtain ⟨k, hk, rfl, hall⟩ := hrel
    by_cases hlt : k < v.length
    · have hz : (k : Int) < ((bs v).size : Int) := by rw [hsz]; omega
      have hz' : k < (bs v).size := by rw [hsz]; omega
      generalize hc : (bs v)[k]'hz' = c
      have HCK : Hid (v[k] = c) := hc
      by_cases h1 : c.toNat < 32
      · have hr : r = false := by rw [HN.out, all_not hlt HCK.out (by simp [wordC]; omega)]; simp
        subst hr
        have h2 : (c.toNat : Int) < 32 := by omega
        go_wp2
        all_goals go_ret
        all_goals exact ⟨rfl, rfl⟩
      · have h2 : ¬ (c.toNat : Int) < 32 := by omega
        by_cases h3 : 126 < c.toNat
        · have hr : r = false := by rw [HN.out, all_not hlt HCK.out (by simp [wordC]; omega)]; simp
          subst hr
          have h4 : (126 : Int) < (c.toNat : Int) := by omega
          go_wp2
          all_goals go_ret
          all_goals exact ⟨rfl, rfl⟩
        · have h4 : ¬ (126 : Int) < (c.toNat : Int) := by omega
          by_cases h5 : c.toNat = 39
          · have hr : r = false := by rw [HN.out, all_not hlt HCK.out (by simp [wordC, h5])]; simp
            subst hr
            have h6 : ((c.toNat : Int) == 39) = true := by simp; omega
            go_wp2
            all_goals go_ret
            all_goals exact ⟨rfl, rfl⟩
          · have h6 : ((c.toNat : Int) == 39) = false := by simp; omega
            have HL := hide (all_take hall.out hlt HCK.out (by simp [wordC, h5]; omega))
            go_wp2
            go_round
            case rel => exact ⟨k + 1, by omega, by go_num, HL⟩
            case measure => simp [intOf]; omega
    · obtain rfl : k = v.length := by omega
      have hr : r = true := by
        have := hall.out
        rw [List.take_length] at this
        rw [HN.out, this, decide_eq_true (by omega)]
        simp
      subst hr
      clear hall
      go_wp2
      go_ret
      exact ⟨rfl, rfl⟩
end Go.Proofs.YtpemfikdmkmgbaaDoor
end
section
/- Package verify: bounds, effect, one instruction. -/
set_option maxHeartbeats 0
set_option maxRecDepth 100000
namespace Go.Proofs.YtpemfikdmkmgbaaDoor
open Go Go.RowKit
theorem bounds_any (p : Pz) (c : Cz) (sc sw xs : Slc) (op : Int) (w : World) (h1 : sc.n = p.cs.length) (h2 : sw.n = p.ws.length) (h3 : xs.n = c.ins.length) (hv : 0 ≤ c.nv ∧ c.nv ≤ 9223372036854775807) (hb : p.cs.length ≤ 9223372036854775807 ∧ p.ws.length ≤ 9223372036854775807 ∧ c.ins.length ≤ 9223372036854775807) :
    Calls Tryd.prog 51 #[.agg #[.slice sc.a sc.n sc.c, .slice sw.a sw.n sw.c], .agg #[.int .i64 c.np, .int .i64 c.nv, .slice xs.a xs.n xs.c], .int .i64 op] w fun e w' => e = .returned (.tuple #[.int .i64 (loC op), .int .i64 (hiC p c op)]) ∧ Fr nothing w w' := by
  obtain ⟨sca, scn, scc⟩ := sc
  obtain ⟨swa, swn, swc⟩ := sw
  obtain ⟨xsa, xsn, xsc⟩ := xs
  simp only at h1 h2 h3
  subst h1 h2 h3
  have hN1 : IntKind.i64.wrap ((p.ws.length : Int) - 1) = (p.ws.length : Int) - 1 := wrap_in _ (by omega) (by omega)
  have hN2 : IntKind.i64.wrap (c.nv - 1) = c.nv - 1 := wrap_in _ (by omega) (by omega)
  have hN3 : IntKind.i64.wrap ((c.ins.length : Int) - 1) = (c.ins.length : Int) - 1 := wrap_in _ (by omega) (by omega)
  have hN4 : IntKind.i64.wrap ((p.cs.length : Int) - 1) = (p.cs.length : Int) - 1 := wrap_in _ (by omega) (by omega)
  have HF : Hid (Fr nothing w ((w.alloc (.cells #[.slice sca p.cs.length scc, .slice swa p.ws.length swc] 25)).alloc (.cells #[.int .i64 c.np, .int .i64 c.nv, .slice xsa c.ins.length xsc] 54))) := ((Fr.refl _ _).alloc _).alloc _
  have hm1 := made_cells (S := nothing) ((Fr.refl nothing (w.alloc (.cells #[.slice sca p.cs.length scc, .slice swa p.ws.length swc] 25))).alloc (.cells #[.int .i64 c.np, .int .i64 c.nv, .slice xsa c.ins.length xsc] 54)) id
  have hm2 := made_cells (Fr.refl nothing ((w.alloc (.cells #[.slice sca p.cs.length scc, .slice swa p.ws.length swc] 25)).alloc (.cells #[.int .i64 c.np, .int .i64 c.nv, .slice xsa c.ins.length xsc] 54))) id
  have hsz : (w.alloc (.cells #[.slice sca p.cs.length scc, .slice swa p.ws.length swc] 25)).heap.size = w.heap.size + 1 := by simp
  rw [hsz] at hm2
  have HM1 := hide hm1
  have HM2 := hide hm2
  clear hv hb hm1 hm2 hsz
  by_cases k1 : op = 1
  · have hlo : loC op = (-1073741824) := by rw [k1]; rfl
    have hhi : hiC p c op = 1073741824 := by rw [k1]; rfl
    rw [hlo, hhi]
    subst k1
    clear hlo hhi
    go_enter Tryd.func51, Tryd.ntmps51
    go_wp2
    exact bodyPost_ret (v := .tuple #[.int .i64 (-1073741824), .int .i64 (1073741824)]) (by simp [results, Tryd.results51, go_sem]) rfl ⟨rfl, HF.out⟩
  have k1b : (op == 1) = false := by simpa using k1
  by_cases k2 : op = 2
  · have hlo : loC op = 0 := by rw [k2]; rfl
    have hhi : hiC p c op = (p.ws.length : Int) - 1 := by rw [k2]; rfl
    rw [hlo, hhi]
    subst k2
    clear hlo hhi
    go_enter Tryd.func51, Tryd.ntmps51
    go_wp2
    have hc0 := HM1.out.1 1
    refine wp_region_held_drew (S := fun w' => w'.cell? ⟨w.heap.size, 1, none⟩ = some (.slice swa p.ws.length swc)) (by kernel_rfl) hc0 (fun hHeld => ?_)
    refine wpAnyH_take (i := 0) (oi := { dst := some 13, op := Op.fieldAddr 25 (Operand.tmp 3) 1, type := 0, pos := "program.go:78", after := #[], guard := none }) (v := ?v1) rfl (by kernel_rfl) (by kernel_rfl) (by kernel_rfl) (fun _ _ _ h => h) (Or.inl ⟨by rfl, ?hy1⟩) (by assumption) ?rest1
    case hy1 => (intro w hSw; (try dsimp only at hSw); have hS1 := hSw; go_simp; try with_reducible rfl)
    try simp only [Act.put, List.setIfInBounds_toArray, List.set_cons_zero, List.set_cons_succ]
    refine wpAnyH_take (i := 1) (oi := { dst := some 14, op := Op.load 23 (Operand.tmp 13), type := 23, pos := "program.go:78", after := #[{ on := 0, ground := Ground.data }], guard := none }) (v := ?v2) rfl (by kernel_rfl) (by kernel_rfl) (by kernel_rfl) (fun _ _ _ h => h) (Or.inl ⟨by rfl, ?hy2⟩) (by assumption) ?rest2
    case hy2 => (intro w hSw; (try dsimp only at hSw); have hS1 := hSw; go_simp; try with_reducible rfl)
    try simp only [Act.put, List.setIfInBounds_toArray, List.set_cons_zero, List.set_cons_succ]
    refine wpAnyH_take (i := 2) (oi := { dst := some 15, op := Op.call { callee := Callee.builtin Builtin.len, args := #[Operand.tmp 14], argTypes := #[23] }, type := 3, pos := "program.go:78", after := #[{ on := 1, ground := Ground.data }], guard := none }) (v := ?v3) rfl (by kernel_rfl) (by kernel_rfl) (by kernel_rfl) (fun _ _ _ h => h) (Or.inl ⟨by rfl, ?hy3⟩) (by assumption) ?rest3
    case hy3 => (intro w hSw; (try dsimp only at hSw); have hS1 := hSw; go_simp; try with_reducible rfl)
    try simp only [Act.put, List.setIfInBounds_toArray, List.set_cons_zero, List.set_cons_succ]
    refine wpAnyH_take (i := 3) (oi := { dst := some 16, op := Op.binOp BinOp.sub 3 (Operand.tmp 15) (Operand.const (Value.int IntKind.i64 1)) 3, type := 3, pos := "program.go:78", after := #[{ on := 2, ground := Ground.data }, { on := 4, ground := Ground.gcOnly Departure.lateStores }], guard := none }) (v := ?v4) rfl (by kernel_rfl) (by kernel_rfl) (by kernel_rfl) (fun _ _ _ h => h) (Or.inl ⟨by rfl, ?hy4⟩) (by assumption) ?rest4
    case hy4 => (intro w hSw; (try dsimp only at hSw); have hS1 := hSw; go_simp; try with_reducible rfl)
    try simp only [Act.put, List.setIfInBounds_toArray, List.set_cons_zero, List.set_cons_succ]
    refine wpAnyH_take (i := 4) (oi := { dst := some 6, op := Op.assign (Operand.const (Value.int IntKind.i64 0)), type := 3, pos := "program.go:78", after := #[{ on := 0, ground := Ground.textOnly Departure.lateStores }, { on := 1, ground := Ground.textOnly Departure.lateStores }, { on := 2, ground := Ground.textOnly Departure.lateStoresUnsure }, { on := 3, ground := Ground.textOnly Departure.lateStores }], guard := none }) (v := ?v5) rfl (by kernel_rfl) (by kernel_rfl) (by kernel_rfl) (fun _ _ _ h => h) (Or.inl ⟨by rfl, ?hy5⟩) (by assumption) ?rest5
    case hy5 => (intro w hSw; (try dsimp only at hSw); have hS1 := hSw; go_simp; try with_reducible rfl)
    try simp only [Act.put, List.setIfInBounds_toArray, List.set_cons_zero, List.set_cons_succ]
    refine wpAnyH_take (i := 5) (oi := { dst := some 7, op := Op.assign (Operand.tmp 16), type := 3, pos := "program.go:78", after := #[{ on := 3, ground := Ground.data }, { on := 4, ground := Ground.chain }, { on := 0, ground := Ground.phase }, { on := 1, ground := Ground.phase }, { on := 2, ground := Ground.phase }, { on := 3, ground := Ground.phase }, { on := 4, ground := Ground.phase }], guard := none }) (v := ?v6) rfl (by kernel_rfl) (by kernel_rfl) (by kernel_rfl) (fun _ _ _ h => h) (Or.inl ⟨by rfl, ?hy6⟩) (by assumption) ?rest6
    case hy6 => (intro w hSw; (try dsimp only at hSw); have hS1 := hSw; go_simp; try with_reducible rfl)
    try simp only [Act.put, List.setIfInBounds_toArray, List.set_cons_zero, List.set_cons_succ]
    refine wpAnyH_done (by kernel_rfl) ?_ _
    clear hHeld
    go_wp2_with fail
    exact bodyPost_ret (v := .tuple #[.int .i64 0, .int .i64 ((p.ws.length : Int) - 1)]) (by simp [results, Tryd.results51, go_sem]) rfl ⟨rfl, HF.out.drew⟩
  have k2b : (op == 2) = false := by simpa using k2
  by_cases k3 : op = 3
  · have hlo : loC op = 0 := by rw [k3]; rfl
    have hhi : hiC p c op = c.nv - 1 := by rw [k3]; rfl
    rw [hlo, hhi]
    subst k3
    clear hlo hhi
    go_enter Tryd.func51, Tryd.ntmps51
    go_wp2
    have hc0 := HM2.out.1 1
    refine wp_region_held_drew (S := fun w' => w'.cell? ⟨w.heap.size + 1, 1, none⟩ = some (.int .i64 c.nv)) (by kernel_rfl) hc0 (fun hHeld => ?_)
    refine wpAnyH_take (i := 0) (oi := { dst := some 20, op := Op.fieldAddr 54 (Operand.tmp 4) 1, type := 0, pos := "program.go:80", after := #[{ on := 3, ground := Ground.gcOnly Departure.lateStores }], guard := none }) (v := ?v7) rfl (by kernel_rfl) (by kernel_rfl) (by kernel_rfl) (fun _ _ _ h => h) (Or.inl ⟨by rfl, ?hy7⟩) (by assumption) ?rest7
    case hy7 => (intro w hSw; (try dsimp only at hSw); have hS1 := hSw; go_simp; try with_reducible rfl)
    try simp only [Act.put, List.setIfInBounds_toArray, List.set_cons_zero, List.set_cons_succ]
    refine wpAnyH_take (i := 1) (oi := { dst := some 21, op := Op.load 3 (Operand.tmp 20), type := 3, pos := "program.go:80", after := #[{ on := 0, ground := Ground.data }, { on := 3, ground := Ground.gcOnly Departure.lateStores }], guard := none }) (v := ?v8) rfl (by kernel_rfl) (by kernel_rfl) (by kernel_rfl) (fun _ _ _ h => h) (Or.inl ⟨by rfl, ?hy8⟩) (by assumption) ?rest8
    case hy8 => (intro w hSw; (try dsimp only at hSw); have hS1 := hSw; go_simp; try with_reducible rfl)
    try simp only [Act.put, List.setIfInBounds_toArray, List.set_cons_zero, List.set_cons_succ]
    refine wpAnyH_take (i := 2) (oi := { dst := some 22, op := Op.binOp BinOp.sub 3 (Operand.tmp 21) (Operand.const (Value.int IntKind.i64 1)) 3, type := 3, pos := "program.go:80", after := #[{ on := 1, ground := Ground.data }, { on := 3, ground := Ground.gcOnly Departure.lateStores }], guard := none }) (v := ?v9) rfl (by kernel_rfl) (by kernel_rfl) (by kernel_rfl) (fun _ _ _ h => h) (Or.inl ⟨by rfl, ?hy9⟩) (by assumption) ?rest9
    case hy9 => (intro w hSw; (try dsimp only at hSw); have hS1 := hSw; go_simp; try with_reducible rfl)
    try simp only [Act.put, List.setIfInBounds_toArray, List.set_cons_zero, List.set_cons_succ]
    refine wpAnyH_take (i := 3) (oi := { dst := some 6, op := Op.assign (Operand.const (Value.int IntKind.i64 0)), type := 3, pos := "program.go:80", after := #[{ on := 0, ground := Ground.textOnly Departure.lateStores }, { on := 1, ground := Ground.textOnly Departure.lateStores }, { on := 2, ground := Ground.textOnly Departure.lateStores }], guard := none }) (v := ?v10) rfl (by kernel_rfl) (by kernel_rfl) (by kernel_rfl) (fun _ _ _ h => h) (Or.inl ⟨by rfl, ?hy10⟩) (by assumption) ?rest10
    case hy10 => (intro w hSw; (try dsimp only at hSw); have hS1 := hSw; go_simp; try with_reducible rfl)
    try simp only [Act.put, List.setIfInBounds_toArray, List.set_cons_zero, List.set_cons_succ]
    refine wpAnyH_take (i := 4) (oi := { dst := some 7, op := Op.assign (Operand.tmp 22), type := 3, pos := "program.go:80", after := #[{ on := 2, ground := Ground.data }, { on := 3, ground := Ground.chain }, { on := 0, ground := Ground.phase }, { on := 1, ground := Ground.phase }, { on := 2, ground := Ground.phase }, { on := 3, ground := Ground.phase }], guard := none }) (v := ?v11) rfl (by kernel_rfl) (by kernel_rfl) (by kernel_rfl) (fun _ _ _ h => h) (Or.inl ⟨by rfl, ?hy11⟩) (by assumption) ?rest11
    case hy11 => (intro w hSw; (try dsimp only at hSw); have hS1 := hSw; go_simp; try with_reducible rfl)
    try simp only [Act.put, List.setIfInBounds_toArray, List.set_cons_zero, List.set_cons_succ]
    refine wpAnyH_done (by kernel_rfl) ?_ _
    clear hHeld
    go_wp2_with fail
    exact bodyPost_ret (v := .tuple #[.int .i64 0, .int .i64 (c.nv - 1)]) (by simp [results, Tryd.results51, go_sem]) rfl ⟨rfl, HF.out.drew⟩
  have k3b : (op == 3) = false := by simpa using k3
  by_cases k4 : op = 4
  · have hlo : loC op = 0 := by rw [k4]; rfl
    have hhi : hiC p c op = c.nv - 1 := by rw [k4]; rfl
    rw [hlo, hhi]
    subst k4
    clear hlo hhi
    go_enter Tryd.func51, Tryd.ntmps51
    go_wp2
    have hc0 := HM2.out.1 1
    refine wp_region_held_drew (S := fun w' => w'.cell? ⟨w.heap.size + 1, 1, none⟩ = some (.int .i64 c.nv)) (by kernel_rfl) hc0 (fun hHeld => ?_)
    refine wpAnyH_take (i := 0) (oi := { dst := some 20, op := Op.fieldAddr 54 (Operand.tmp 4) 1, type := 0, pos := "program.go:80", after := #[{ on := 3, ground := Ground.gcOnly Departure.lateStores }], guard := none }) (v := ?v12) rfl (by kernel_rfl) (by kernel_rfl) (by kernel_rfl) (fun _ _ _ h => h) (Or.inl ⟨by rfl, ?hy12⟩) (by assumption) ?rest12
    case hy12 => (intro w hSw; (try dsimp only at hSw); have hS1 := hSw; go_simp; try with_reducible rfl)
    try simp only [Act.put, List.setIfInBounds_toArray, List.set_cons_zero, List.set_cons_succ]
    refine wpAnyH_take (i := 1) (oi := { dst := some 21, op := Op.load 3 (Operand.tmp 20), type := 3, pos := "program.go:80", after := #[{ on := 0, ground := Ground.data }, { on := 3, ground := Ground.gcOnly Departure.lateStores }], guard := none }) (v := ?v13) rfl (by kernel_rfl) (by kernel_rfl) (by kernel_rfl) (fun _ _ _ h => h) (Or.inl ⟨by rfl, ?hy13⟩) (by assumption) ?rest13
    case hy13 => (intro w hSw; (try dsimp only at hSw); have hS1 := hSw; go_simp; try with_reducible rfl)
    try simp only [Act.put, List.setIfInBounds_toArray, List.set_cons_zero, List.set_cons_succ]
    refine wpAnyH_take (i := 2) (oi := { dst := some 22, op := Op.binOp BinOp.sub 3 (Operand.tmp 21) (Operand.const (Value.int IntKind.i64 1)) 3, type := 3, pos := "program.go:80", after := #[{ on := 1, ground := Ground.data }, { on := 3, ground := Ground.gcOnly Departure.lateStores }], guard := none }) (v := ?v14) rfl (by kernel_rfl) (by kernel_rfl) (by kernel_rfl) (fun _ _ _ h => h) (Or.inl ⟨by rfl, ?hy14⟩) (by assumption) ?rest14
    case hy14 => (intro w hSw; (try dsimp only at hSw); have hS1 := hSw; go_simp; try with_reducible rfl)
    try simp only [Act.put, List.setIfInBounds_toArray, List.set_cons_zero, List.set_cons_succ]
    refine wpAnyH_take (i := 3) (oi := { dst := some 6, op := Op.assign (Operand.const (Value.int IntKind.i64 0)), type := 3, pos := "program.go:80", after := #[{ on := 0, ground := Ground.textOnly Departure.lateStores }, { on := 1, ground := Ground.textOnly Departure.lateStores }, { on := 2, ground := Ground.textOnly Departure.lateStores }], guard := none }) (v := ?v15) rfl (by kernel_rfl) (by kernel_rfl) (by kernel_rfl) (fun _ _ _ h => h) (Or.inl ⟨by rfl, ?hy15⟩) (by assumption) ?rest15
    case hy15 => (intro w hSw; (try dsimp only at hSw); have hS1 := hSw; go_simp; try with_reducible rfl)
    try simp only [Act.put, List.setIfInBounds_toArray, List.set_cons_zero, List.set_cons_succ]
    refine wpAnyH_take (i := 4) (oi := { dst := some 7, op := Op.assign (Operand.tmp 22), type := 3, pos := "program.go:80", after := #[{ on := 2, ground := Ground.data }, { on := 3, ground := Ground.chain }, { on := 0, ground := Ground.phase }, { on := 1, ground := Ground.phase }, { on := 2, ground := Ground.phase }, { on := 3, ground := Ground.phase }], guard := none }) (v := ?v16) rfl (by kernel_rfl) (by kernel_rfl) (by kernel_rfl) (fun _ _ _ h => h) (Or.inl ⟨by rfl, ?hy16⟩) (by assumption) ?rest16
    case hy16 => (intro w hSw; (try dsimp only at hSw); have hS1 := hSw; go_simp; try with_reducible rfl)
    try simp only [Act.put, List.setIfInBounds_toArray, List.set_cons_zero, List.set_cons_succ]
    refine wpAnyH_done (by kernel_rfl) ?_ _
    clear hHeld
    go_wp2_with fail
    exact bodyPost_ret (v := .tuple #[.int .i64 0, .int .i64 (c.nv - 1)]) (by simp [results, Tryd.results51, go_sem]) rfl ⟨rfl, HF.out.drew⟩
  have k4b : (op == 4) = false := by simpa using k4
  by_cases k5 : op = 5
  · have hlo : loC op = 1 := by rw [k5]; rfl
    have hhi : hiC p c op = 5 := by rw [k5]; rfl
    rw [hlo, hhi]
    subst k5
    clear hlo hhi
    go_enter Tryd.func51, Tryd.ntmps51
    go_wp2
    exact bodyPost_ret (v := .tuple #[.int .i64 1, .int .i64 (5)]) (by simp [results, Tryd.results51, go_sem]) rfl ⟨rfl, HF.out⟩
  have k5b : (op == 5) = false := by simpa using k5
  by_cases k15 : op = 15
  · have hlo : loC op = 0 := by rw [k15]; rfl
    have hhi : hiC p c op = (c.ins.length : Int) - 1 := by rw [k15]; rfl
    rw [hlo, hhi]
    subst k15
    clear hlo hhi
    go_enter Tryd.func51, Tryd.ntmps51
    go_wp2
    have hc0 := HM2.out.1 2
    refine wp_region_held_drew (S := fun w' => w'.cell? ⟨w.heap.size + 1, 2, none⟩ = some (.slice xsa c.ins.length xsc)) (by kernel_rfl) hc0 (fun hHeld => ?_)
    refine wpAnyH_take (i := 0) (oi := { dst := some 28, op := Op.fieldAddr 54 (Operand.tmp 4) 2, type := 0, pos := "program.go:84", after := #[], guard := none }) (v := ?v17) rfl (by kernel_rfl) (by kernel_rfl) (by kernel_rfl) (fun _ _ _ h => h) (Or.inl ⟨by rfl, ?hy17⟩) (by assumption) ?rest17
    case hy17 => (intro w hSw; (try dsimp only at hSw); have hS1 := hSw; go_simp; try with_reducible rfl)
    try simp only [Act.put, List.setIfInBounds_toArray, List.set_cons_zero, List.set_cons_succ]
    refine wpAnyH_take (i := 1) (oi := { dst := some 29, op := Op.load 52 (Operand.tmp 28), type := 52, pos := "program.go:84", after := #[{ on := 0, ground := Ground.data }], guard := none }) (v := ?v18) rfl (by kernel_rfl) (by kernel_rfl) (by kernel_rfl) (fun _ _ _ h => h) (Or.inl ⟨by rfl, ?hy18⟩) (by assumption) ?rest18
    case hy18 => (intro w hSw; (try dsimp only at hSw); have hS1 := hSw; go_simp; try with_reducible rfl)
    try simp only [Act.put, List.setIfInBounds_toArray, List.set_cons_zero, List.set_cons_succ]
    refine wpAnyH_take (i := 2) (oi := { dst := some 30, op := Op.call { callee := Callee.builtin Builtin.len, args := #[Operand.tmp 29], argTypes := #[52] }, type := 3, pos := "program.go:84", after := #[{ on := 1, ground := Ground.data }], guard := none }) (v := ?v19) rfl (by kernel_rfl) (by kernel_rfl) (by kernel_rfl) (fun _ _ _ h => h) (Or.inl ⟨by rfl, ?hy19⟩) (by assumption) ?rest19
    case hy19 => (intro w hSw; (try dsimp only at hSw); have hS1 := hSw; go_simp; try with_reducible rfl)
    try simp only [Act.put, List.setIfInBounds_toArray, List.set_cons_zero, List.set_cons_succ]
    refine wpAnyH_take (i := 3) (oi := { dst := some 31, op := Op.binOp BinOp.sub 3 (Operand.tmp 30) (Operand.const (Value.int IntKind.i64 1)) 3, type := 3, pos := "program.go:84", after := #[{ on := 2, ground := Ground.data }, { on := 4, ground := Ground.gcOnly Departure.lateStores }], guard := none }) (v := ?v20) rfl (by kernel_rfl) (by kernel_rfl) (by kernel_rfl) (fun _ _ _ h => h) (Or.inl ⟨by rfl, ?hy20⟩) (by assumption) ?rest20
    case hy20 => (intro w hSw; (try dsimp only at hSw); have hS1 := hSw; go_simp; try with_reducible rfl)
    try simp only [Act.put, List.setIfInBounds_toArray, List.set_cons_zero, List.set_cons_succ]
    refine wpAnyH_take (i := 4) (oi := { dst := some 6, op := Op.assign (Operand.const (Value.int IntKind.i64 0)), type := 3, pos := "program.go:84", after := #[{ on := 0, ground := Ground.textOnly Departure.lateStores }, { on := 1, ground := Ground.textOnly Departure.lateStores }, { on := 2, ground := Ground.textOnly Departure.lateStoresUnsure }, { on := 3, ground := Ground.textOnly Departure.lateStores }], guard := none }) (v := ?v21) rfl (by kernel_rfl) (by kernel_rfl) (by kernel_rfl) (fun _ _ _ h => h) (Or.inl ⟨by rfl, ?hy21⟩) (by assumption) ?rest21
    case hy21 => (intro w hSw; (try dsimp only at hSw); have hS1 := hSw; go_simp; try with_reducible rfl)
    try simp only [Act.put, List.setIfInBounds_toArray, List.set_cons_zero, List.set_cons_succ]
    refine wpAnyH_take (i := 5) (oi := { dst := some 7, op := Op.assign (Operand.tmp 31), type := 3, pos := "program.go:84", after := #[{ on := 3, ground := Ground.data }, { on := 4, ground := Ground.chain }, { on := 0, ground := Ground.phase }, { on := 1, ground := Ground.phase }, { on := 2, ground := Ground.phase }, { on := 3, ground := Ground.phase }, { on := 4, ground := Ground.phase }], guard := none }) (v := ?v22) rfl (by kernel_rfl) (by kernel_rfl) (by kernel_rfl) (fun _ _ _ h => h) (Or.inl ⟨by rfl, ?hy22⟩) (by assumption) ?rest22
    case hy22 => (intro w hSw; (try dsimp only at hSw); have hS1 := hSw; go_simp; try with_reducible rfl)
    try simp only [Act.put, List.setIfInBounds_toArray, List.set_cons_zero, List.set_cons_succ]
    refine wpAnyH_done (by kernel_rfl) ?_ _
    clear hHeld
    go_wp2_with fail
    exact bodyPost_ret (v := .tuple #[.int .i64 0, .int .i64 ((c.ins.length : Int) - 1)]) (by simp [results, Tryd.results51, go_sem]) rfl ⟨rfl, HF.out.drew⟩
  have k15b : (op == 15) = false := by simpa using k15
  by_cases k16 : op = 16
  · have hlo : loC op = 0 := by rw [k16]; rfl
    have hhi : hiC p c op = (c.ins.length : Int) - 1 := by rw [k16]; rfl
    rw [hlo, hhi]
    subst k16
    clear hlo hhi
    go_enter Tryd.func51, Tryd.ntmps51
    go_wp2
    have hc0 := HM2.out.1 2
    refine wp_region_held_drew (S := fun w' => w'.cell? ⟨w.heap.size + 1, 2, none⟩ = some (.slice xsa c.ins.length xsc)) (by kernel_rfl) hc0 (fun hHeld => ?_)
    refine wpAnyH_take (i := 0) (oi := { dst := some 28, op := Op.fieldAddr 54 (Operand.tmp 4) 2, type := 0, pos := "program.go:84", after := #[], guard := none }) (v := ?v23) rfl (by kernel_rfl) (by kernel_rfl) (by kernel_rfl) (fun _ _ _ h => h) (Or.inl ⟨by rfl, ?hy23⟩) (by assumption) ?rest23
    case hy23 => (intro w hSw; (try dsimp only at hSw); have hS1 := hSw; go_simp; try with_reducible rfl)
    try simp only [Act.put, List.setIfInBounds_toArray, List.set_cons_zero, List.set_cons_succ]
    refine wpAnyH_take (i := 1) (oi := { dst := some 29, op := Op.load 52 (Operand.tmp 28), type := 52, pos := "program.go:84", after := #[{ on := 0, ground := Ground.data }], guard := none }) (v := ?v24) rfl (by kernel_rfl) (by kernel_rfl) (by kernel_rfl) (fun _ _ _ h => h) (Or.inl ⟨by rfl, ?hy24⟩) (by assumption) ?rest24
    case hy24 => (intro w hSw; (try dsimp only at hSw); have hS1 := hSw; go_simp; try with_reducible rfl)
    try simp only [Act.put, List.setIfInBounds_toArray, List.set_cons_zero, List.set_cons_succ]
    refine wpAnyH_take (i := 2) (oi := { dst := some 30, op := Op.call { callee := Callee.builtin Builtin.len, args := #[Operand.tmp 29], argTypes := #[52] }, type := 3, pos := "program.go:84", after := #[{ on := 1, ground := Ground.data }], guard := none }) (v := ?v25) rfl (by kernel_rfl) (by kernel_rfl) (by kernel_rfl) (fun _ _ _ h => h) (Or.inl ⟨by rfl, ?hy25⟩) (by assumption) ?rest25
    case hy25 => (intro w hSw; (try dsimp only at hSw); have hS1 := hSw; go_simp; try with_reducible rfl)
    try simp only [Act.put, List.setIfInBounds_toArray, List.set_cons_zero, List.set_cons_succ]
    refine wpAnyH_take (i := 3) (oi := { dst := some 31, op := Op.binOp BinOp.sub 3 (Operand.tmp 30) (Operand.const (Value.int IntKind.i64 1)) 3, type := 3, pos := "program.go:84", after := #[{ on := 2, ground := Ground.data }, { on := 4, ground := Ground.gcOnly Departure.lateStores }], guard := none }) (v := ?v26) rfl (by kernel_rfl) (by kernel_rfl) (by kernel_rfl) (fun _ _ _ h => h) (Or.inl ⟨by rfl, ?hy26⟩) (by assumption) ?rest26
    case hy26 => (intro w hSw; (try dsimp only at hSw); have hS1 := hSw; go_simp; try with_reducible rfl)
    try simp only [Act.put, List.setIfInBounds_toArray, List.set_cons_zero, List.set_cons_succ]
    refine wpAnyH_take (i := 4) (oi := { dst := some 6, op := Op.assign (Operand.const (Value.int IntKind.i64 0)), type := 3, pos := "program.go:84", after := #[{ on := 0, ground := Ground.textOnly Departure.lateStores }, { on := 1, ground := Ground.textOnly Departure.lateStores }, { on := 2, ground := Ground.textOnly Departure.lateStoresUnsure }, { on := 3, ground := Ground.textOnly Departure.lateStores }], guard := none }) (v := ?v27) rfl (by kernel_rfl) (by kernel_rfl) (by kernel_rfl) (fun _ _ _ h => h) (Or.inl ⟨by rfl, ?hy27⟩) (by assumption) ?rest27
    case hy27 => (intro w hSw; (try dsimp only at hSw); have hS1 := hSw; go_simp; try with_reducible rfl)
    try simp only [Act.put, List.setIfInBounds_toArray, List.set_cons_zero, List.set_cons_succ]
    refine wpAnyH_take (i := 5) (oi := { dst := some 7, op := Op.assign (Operand.tmp 31), type := 3, pos := "program.go:84", after := #[{ on := 3, ground := Ground.data }, { on := 4, ground := Ground.chain }, { on := 0, ground := Ground.phase }, { on := 1, ground := Ground.phase }, { on := 2, ground := Ground.phase }, { on := 3, ground := Ground.phase }, { on := 4, ground := Ground.phase }], guard := none }) (v := ?v28) rfl (by kernel_rfl) (by kernel_rfl) (by kernel_rfl) (fun _ _ _ h => h) (Or.inl ⟨by rfl, ?hy28⟩) (by assumption) ?rest28
    case hy28 => (intro w hSw; (try dsimp only at hSw); have hS1 := hSw; go_simp; try with_reducible rfl)
    try simp only [Act.put, List.setIfInBounds_toArray, List.set_cons_zero, List.set_cons_succ]
    refine wpAnyH_done (by kernel_rfl) ?_ _
    clear hHeld
    go_wp2_with fail
    exact bodyPost_ret (v := .tuple #[.int .i64 0, .int .i64 ((c.ins.length : Int) - 1)]) (by simp [results, Tryd.results51, go_sem]) rfl ⟨rfl, HF.out.drew⟩
  have k16b : (op == 16) = false := by simpa using k16
  by_cases k17 : op = 17
  · have hlo : loC op = 0 := by rw [k17]; rfl
    have hhi : hiC p c op = (p.cs.length : Int) - 1 := by rw [k17]; rfl
    rw [hlo, hhi]
    subst k17
    clear hlo hhi
    go_enter Tryd.func51, Tryd.ntmps51
    go_wp2
    have hc0 := HM1.out.1 0
    refine wp_region_held_drew (S := fun w' => w'.cell? ⟨w.heap.size, 0, none⟩ = some (.slice sca p.cs.length scc)) (by kernel_rfl) hc0 (fun hHeld => ?_)
    refine wpAnyH_take (i := 0) (oi := { dst := some 34, op := Op.fieldAddr 25 (Operand.tmp 3) 0, type := 0, pos := "program.go:86", after := #[], guard := none }) (v := ?v29) rfl (by kernel_rfl) (by kernel_rfl) (by kernel_rfl) (fun _ _ _ h => h) (Or.inl ⟨by rfl, ?hy29⟩) (by assumption) ?rest29
    case hy29 => (intro w hSw; (try dsimp only at hSw); have hS1 := hSw; go_simp; try with_reducible rfl)
    try simp only [Act.put, List.setIfInBounds_toArray, List.set_cons_zero, List.set_cons_succ]
    refine wpAnyH_take (i := 1) (oi := { dst := some 35, op := Op.load 22 (Operand.tmp 34), type := 22, pos := "program.go:86", after := #[{ on := 0, ground := Ground.data }], guard := none }) (v := ?v30) rfl (by kernel_rfl) (by kernel_rfl) (by kernel_rfl) (fun _ _ _ h => h) (Or.inl ⟨by rfl, ?hy30⟩) (by assumption) ?rest30
    case hy30 => (intro w hSw; (try dsimp only at hSw); have hS1 := hSw; go_simp; try with_reducible rfl)
    try simp only [Act.put, List.setIfInBounds_toArray, List.set_cons_zero, List.set_cons_succ]
    refine wpAnyH_take (i := 2) (oi := { dst := some 36, op := Op.call { callee := Callee.builtin Builtin.len, args := #[Operand.tmp 35], argTypes := #[22] }, type := 3, pos := "program.go:86", after := #[{ on := 1, ground := Ground.data }], guard := none }) (v := ?v31) rfl (by kernel_rfl) (by kernel_rfl) (by kernel_rfl) (fun _ _ _ h => h) (Or.inl ⟨by rfl, ?hy31⟩) (by assumption) ?rest31
    case hy31 => (intro w hSw; (try dsimp only at hSw); have hS1 := hSw; go_simp; try with_reducible rfl)
    try simp only [Act.put, List.setIfInBounds_toArray, List.set_cons_zero, List.set_cons_succ]
    refine wpAnyH_take (i := 3) (oi := { dst := some 37, op := Op.binOp BinOp.sub 3 (Operand.tmp 36) (Operand.const (Value.int IntKind.i64 1)) 3, type := 3, pos := "program.go:86", after := #[{ on := 2, ground := Ground.data }, { on := 4, ground := Ground.gcOnly Departure.lateStores }], guard := none }) (v := ?v32) rfl (by kernel_rfl) (by kernel_rfl) (by kernel_rfl) (fun _ _ _ h => h) (Or.inl ⟨by rfl, ?hy32⟩) (by assumption) ?rest32
    case hy32 => (intro w hSw; (try dsimp only at hSw); have hS1 := hSw; go_simp; try with_reducible rfl)
    try simp only [Act.put, List.setIfInBounds_toArray, List.set_cons_zero, List.set_cons_succ]
    refine wpAnyH_take (i := 4) (oi := { dst := some 6, op := Op.assign (Operand.const (Value.int IntKind.i64 0)), type := 3, pos := "program.go:86", after := #[{ on := 0, ground := Ground.textOnly Departure.lateStores }, { on := 1, ground := Ground.textOnly Departure.lateStores }, { on := 2, ground := Ground.textOnly Departure.lateStoresUnsure }, { on := 3, ground := Ground.textOnly Departure.lateStores }], guard := none }) (v := ?v33) rfl (by kernel_rfl) (by kernel_rfl) (by kernel_rfl) (fun _ _ _ h => h) (Or.inl ⟨by rfl, ?hy33⟩) (by assumption) ?rest33
    case hy33 => (intro w hSw; (try dsimp only at hSw); have hS1 := hSw; go_simp; try with_reducible rfl)
    try simp only [Act.put, List.setIfInBounds_toArray, List.set_cons_zero, List.set_cons_succ]
    refine wpAnyH_take (i := 5) (oi := { dst := some 7, op := Op.assign (Operand.tmp 37), type := 3, pos := "program.go:86", after := #[{ on := 3, ground := Ground.data }, { on := 4, ground := Ground.chain }, { on := 0, ground := Ground.phase }, { on := 1, ground := Ground.phase }, { on := 2, ground := Ground.phase }, { on := 3, ground := Ground.phase }, { on := 4, ground := Ground.phase }], guard := none }) (v := ?v34) rfl (by kernel_rfl) (by kernel_rfl) (by kernel_rfl) (fun _ _ _ h => h) (Or.inl ⟨by rfl, ?hy34⟩) (by assumption) ?rest34
    case hy34 => (intro w hSw; (try dsimp only at hSw); have hS1 := hSw; go_simp; try with_reducible rfl)
    try simp only [Act.put, List.setIfInBounds_toArray, List.set_cons_zero, List.set_cons_succ]
    refine wpAnyH_done (by kernel_rfl) ?_ _
    clear hHeld
    go_wp2_with fail
    exact bodyPost_ret (v := .tuple #[.int .i64 0, .int .i64 ((p.cs.length : Int) - 1)]) (by simp [results, Tryd.results51, go_sem]) rfl ⟨rfl, HF.out.drew⟩
  have k17b : (op == 17) = false := by simpa using k17
  have hlo : loC op = 0 := by unfold loC; rw [if_neg k1, if_neg k5]
  have hhi : hiC p c op = 0 := by unfold hiC; rw [if_neg k1, if_neg k2, if_neg (by omega), if_neg k5, if_neg (by omega), if_neg k17]
  rw [hlo, hhi]
  clear hlo hhi
  go_enter Tryd.func51, Tryd.ntmps51
  go_wp2
  exact bodyPost_ret (v := .tuple #[.int .i64 0, .int .i64 0]) (by simp [results, Tryd.results51, go_sem]) rfl ⟨rfl, HF.out⟩
theorem shapeC_none {i : In} (h17 : i.op ≠ 17) (h : ∀ q ∈ shapesL, q.1 = i.op → q.2 = (0, 0)) : shapeC i = (0, 0) := by
  unfold shapeC
  rw [if_neg h17]
  cases hf : shapesL.find? fun q => q.1 == i.op with
  | none => rfl
  | some q =>
    have h1 := List.mem_of_find?_eq_some hf
    have h2 := List.find?_some hf
    exact h q h1 (by simpa using h2)
theorem effect_any (i : In) (w : World) (hb : i.op = 17 → 0 ≤ i.b) :
    Calls Tryd.prog 49 #[.agg #[.int .i64 i.op, .int .i64 i.a, .int .i64 i.b]] w fun e w' => e = .returned (.tuple #[.int .i64 (shapeC i).1, .int .i64 (shapeC i).2]) ∧ Fr nothing w w' := by
  obtain ⟨op, a, b⟩ := i
  simp only at hb
  have HF : Hid (Fr nothing w (w.alloc (.cells #[.int .i64 op, .int .i64 a, .int .i64 b] 59))) := (Fr.refl _ _).alloc _
  by_cases k1 : op = 1
  · subst k1
    have hs : shapeC ⟨1, a, b⟩ = (0, 1) := rfl
    rw [hs]
    clear hs hb
    go_enter Tryd.func49, Tryd.ntmps49
    go_wp2
    exact bodyPost_ret (v := .tuple #[.int .i64 0, .int .i64 1]) (by simp [results, Tryd.results49, go_sem]) rfl ⟨rfl, HF.out⟩
  have k1b : (op == 1) = false := by simpa using k1
  by_cases k2 : op = 2
  · subst k2
    have hs : shapeC ⟨2, a, b⟩ = (0, 1) := rfl
    rw [hs]
    clear hs hb
    go_enter Tryd.func49, Tryd.ntmps49
    go_wp2
    exact bodyPost_ret (v := .tuple #[.int .i64 0, .int .i64 1]) (by simp [results, Tryd.results49, go_sem]) rfl ⟨rfl, HF.out⟩
  have k2b : (op == 2) = false := by simpa using k2
  by_cases k3 : op = 3
  · subst k3
    have hs : shapeC ⟨3, a, b⟩ = (0, 1) := rfl
    rw [hs]
    clear hs hb
    go_enter Tryd.func49, Tryd.ntmps49
    go_wp2
    exact bodyPost_ret (v := .tuple #[.int .i64 0, .int .i64 1]) (by simp [results, Tryd.results49, go_sem]) rfl ⟨rfl, HF.out⟩
  have k3b : (op == 3) = false := by simpa using k3
  by_cases k12 : op = 12
  · subst k12
    have hs : shapeC ⟨12, a, b⟩ = (0, 1) := rfl
    rw [hs]
    clear hs hb
    go_enter Tryd.func49, Tryd.ntmps49
    go_wp2
    exact bodyPost_ret (v := .tuple #[.int .i64 0, .int .i64 1]) (by simp [results, Tryd.results49, go_sem]) rfl ⟨rfl, HF.out⟩
  have k12b : (op == 12) = false := by simpa using k12
  by_cases k4 : op = 4
  · subst k4
    have hs : shapeC ⟨4, a, b⟩ = (1, 0) := rfl
    rw [hs]
    clear hs hb
    go_enter Tryd.func49, Tryd.ntmps49
    go_wp2
    exact bodyPost_ret (v := .tuple #[.int .i64 1, .int .i64 0]) (by simp [results, Tryd.results49, go_sem]) rfl ⟨rfl, HF.out⟩
  have k4b : (op == 4) = false := by simpa using k4
  by_cases k14 : op = 14
  · subst k14
    have hs : shapeC ⟨14, a, b⟩ = (1, 0) := rfl
    rw [hs]
    clear hs hb
    go_enter Tryd.func49, Tryd.ntmps49
    go_wp2
    exact bodyPost_ret (v := .tuple #[.int .i64 1, .int .i64 0]) (by simp [results, Tryd.results49, go_sem]) rfl ⟨rfl, HF.out⟩
  have k14b : (op == 14) = false := by simpa using k14
  by_cases k16 : op = 16
  · subst k16
    have hs : shapeC ⟨16, a, b⟩ = (1, 0) := rfl
    rw [hs]
    clear hs hb
    go_enter Tryd.func49, Tryd.ntmps49
    go_wp2
    exact bodyPost_ret (v := .tuple #[.int .i64 1, .int .i64 0]) (by simp [results, Tryd.results49, go_sem]) rfl ⟨rfl, HF.out⟩
  have k16b : (op == 16) = false := by simpa using k16
  by_cases k19 : op = 19
  · subst k19
    have hs : shapeC ⟨19, a, b⟩ = (1, 0) := rfl
    rw [hs]
    clear hs hb
    go_enter Tryd.func49, Tryd.ntmps49
    go_wp2
    exact bodyPost_ret (v := .tuple #[.int .i64 1, .int .i64 0]) (by simp [results, Tryd.results49, go_sem]) rfl ⟨rfl, HF.out⟩
  have k19b : (op == 19) = false := by simpa using k19
  by_cases k18 : op = 18
  · subst k18
    have hs : shapeC ⟨18, a, b⟩ = (1, 0) := rfl
    rw [hs]
    clear hs hb
    go_enter Tryd.func49, Tryd.ntmps49
    go_wp2
    exact bodyPost_ret (v := .tuple #[.int .i64 1, .int .i64 0]) (by simp [results, Tryd.results49, go_sem]) rfl ⟨rfl, HF.out⟩
  have k18b : (op == 18) = false := by simpa using k18
  by_cases k5 : op = 5
  · subst k5
    have hs : shapeC ⟨5, a, b⟩ = (2, 1) := rfl
    rw [hs]
    clear hs hb
    go_enter Tryd.func49, Tryd.ntmps49
    go_wp2
    exact bodyPost_ret (v := .tuple #[.int .i64 2, .int .i64 1]) (by simp [results, Tryd.results49, go_sem]) rfl ⟨rfl, HF.out⟩
  have k5b : (op == 5) = false := by simpa using k5
  by_cases k6 : op = 6
  · subst k6
    have hs : shapeC ⟨6, a, b⟩ = (2, 1) := rfl
    rw [hs]
    clear hs hb
    go_enter Tryd.func49, Tryd.ntmps49
    go_wp2
    exact bodyPost_ret (v := .tuple #[.int .i64 2, .int .i64 1]) (by simp [results, Tryd.results49, go_sem]) rfl ⟨rfl, HF.out⟩
  have k6b : (op == 6) = false := by simpa using k6
  by_cases k7 : op = 7
  · subst k7
    have hs : shapeC ⟨7, a, b⟩ = (1, 1) := rfl
    rw [hs]
    clear hs hb
    go_enter Tryd.func49, Tryd.ntmps49
    go_wp2
    exact bodyPost_ret (v := .tuple #[.int .i64 1, .int .i64 1]) (by simp [results, Tryd.results49, go_sem]) rfl ⟨rfl, HF.out⟩
  have k7b : (op == 7) = false := by simpa using k7
  by_cases k8 : op = 8
  · subst k8
    have hs : shapeC ⟨8, a, b⟩ = (1, 1) := rfl
    rw [hs]
    clear hs hb
    go_enter Tryd.func49, Tryd.ntmps49
    go_wp2
    exact bodyPost_ret (v := .tuple #[.int .i64 1, .int .i64 1]) (by simp [results, Tryd.results49, go_sem]) rfl ⟨rfl, HF.out⟩
  have k8b : (op == 8) = false := by simpa using k8
  by_cases k11 : op = 11
  · subst k11
    have hs : shapeC ⟨11, a, b⟩ = (1, 1) := rfl
    rw [hs]
    clear hs hb
    go_enter Tryd.func49, Tryd.ntmps49
    go_wp2
    exact bodyPost_ret (v := .tuple #[.int .i64 1, .int .i64 1]) (by simp [results, Tryd.results49, go_sem]) rfl ⟨rfl, HF.out⟩
  have k11b : (op == 11) = false := by simpa using k11
  by_cases k13 : op = 13
  · subst k13
    have hs : shapeC ⟨13, a, b⟩ = (1, 1) := rfl
    rw [hs]
    clear hs hb
    go_enter Tryd.func49, Tryd.ntmps49
    go_wp2
    exact bodyPost_ret (v := .tuple #[.int .i64 1, .int .i64 1]) (by simp [results, Tryd.results49, go_sem]) rfl ⟨rfl, HF.out⟩
  have k13b : (op == 13) = false := by simpa using k13
  by_cases k9 : op = 9
  · subst k9
    have hs : shapeC ⟨9, a, b⟩ = (2, 0) := rfl
    rw [hs]
    clear hs hb
    go_enter Tryd.func49, Tryd.ntmps49
    go_wp2
    exact bodyPost_ret (v := .tuple #[.int .i64 2, .int .i64 0]) (by simp [results, Tryd.results49, go_sem]) rfl ⟨rfl, HF.out⟩
  have k9b : (op == 9) = false := by simpa using k9
  by_cases k10 : op = 10
  · subst k10
    have hs : shapeC ⟨10, a, b⟩ = (2, 0) := rfl
    rw [hs]
    clear hs hb
    go_enter Tryd.func49, Tryd.ntmps49
    go_wp2
    exact bodyPost_ret (v := .tuple #[.int .i64 2, .int .i64 0]) (by simp [results, Tryd.results49, go_sem]) rfl ⟨rfl, HF.out⟩
  have k10b : (op == 10) = false := by simpa using k10
  by_cases k17 : op = 17
  · have hb0 := hb k17
    subst k17
    have hs : shapeC ⟨17, a, b⟩ = (b, 1) := rfl
    rw [hs]
    clear hs hb
    have hmx : max b 0 = b := by omega
    go_enter Tryd.func49, Tryd.ntmps49
    go_wp2
    exact bodyPost_ret (v := .tuple #[.int .i64 b, .int .i64 1]) (by simp [results, Tryd.results49, go_sem]) rfl ⟨rfl, HF.out⟩
  have k17b : (op == 17) = false := by simpa using k17
  have hs : shapeC ⟨op, a, b⟩ = (0, 0) := by
    refine shapeC_none (by simpa using k17) ?_
    intro q hq he
    simp only at he
    by_cases k15 : q.1 = 15
    · simp only [shapesL, List.mem_cons, List.not_mem_nil, or_false] at hq
      rcases hq with rfl | rfl | rfl | rfl | rfl | rfl | rfl | rfl | rfl | rfl | rfl | rfl | rfl | rfl | rfl | rfl | rfl | rfl <;> first | rfl | (exact absurd k15 (by decide))
    · simp only [shapesL, List.mem_cons, List.not_mem_nil, or_false] at hq
      rcases hq with rfl | rfl | rfl | rfl | rfl | rfl | rfl | rfl | rfl | rfl | rfl | rfl | rfl | rfl | rfl | rfl | rfl | rfl <;> first | rfl | (simp only at he; omega)
  rw [hs]
  clear hs hb
  go_enter Tryd.func49, Tryd.ntmps49
  go_wp2
  exact bodyPost_ret (v := .tuple #[.int .i64 0, .int .i64 0]) (by simp [results, Tryd.results49, go_sem]) rfl ⟨rfl, HF.out⟩
end Go.Proofs.YtpemfikdmkmgbaaDoor
end
section
/- Package verify: what is wrong with an instruction. -/
set_option maxHeartbeats 0
set_option maxRecDepth 100000
namespace Go.Proofs.YtpemfikdmkmgbaaDoor
open Go Go.RowKit
/-- One instruction. -/
theorem instr_any (p : Pz) (c : Cz) (i : In) (sc sw xs : Slc) (w : World) (hP : PzOk w sc sw p) (h3 : xs.n = c.ins.length) (hv : 0 ≤ c.nv ∧ c.nv ≤ 9223372036854775807) (hl : c.ins.length ≤ 9223372036854775807) :
    Calls Tryd.prog 34 #[.agg #[.slice sc.a sc.n sc.c, .slice sw.a sw.n sw.c], .agg #[.int .i64 c.np, .int .i64 c.nv, .slice xs.a xs.n xs.c], .agg #[.int .i64 i.op, .int .i64 i.a, .int .i64 i.b]] w fun e w' => e = .returned (.int .i64 (inC p c i)) ∧ Fr nothing w w' := by
  obtain ⟨⟨rs, hrs, hea⟩, hws⟩ := hP
  obtain ⟨n1, m1⟩ := sl_len hrs
  obtain ⟨n2, m2⟩ := sl_len hws
  rw [hea.1] at n1 m1
  have HB := hide (fun w1 => bounds_any p c sc sw xs i.op w1 n1 n2 h3 hv ⟨m1, m2, hl⟩)
  obtain ⟨sca, scn, scc⟩ := sc
  obtain ⟨swa, swn, swc⟩ := sw
  obtain ⟨xsa, xsn, xsc⟩ := xs
  obtain ⟨op, a, b⟩ := i
  simp only at n1 n2 h3 HB
  subst n1 n2 h3
  obtain ⟨w1, hw1⟩ : ∃ x, x = w.alloc (.cells #[.slice sca p.cs.length scc, .slice swa p.ws.length swc] 25) := ⟨_, rfl⟩
  obtain ⟨w2, hw2⟩ : ∃ x, x = w1.alloc (.cells #[.int .i64 c.np, .int .i64 c.nv, .slice xsa c.ins.length xsc] 54) := ⟨_, rfl⟩
  obtain ⟨w3, hw3⟩ : ∃ x, x = w2.alloc (.cells #[.int .i64 op, .int .i64 a, .int .i64 b] 59) := ⟨_, rfl⟩
  have f1 : Fr nothing w w1 := by rw [hw1]; exact (Fr.refl _ _).alloc _
  have f2 : Fr nothing w1 w2 := by rw [hw2]; exact (Fr.refl _ _).alloc _
  have f3 : Fr nothing w2 w3 := by rw [hw3]; exact (Fr.refl _ _).alloc _
  have z1 : w1.heap.size = w.heap.size + 1 := by rw [hw1]; simp
  have z2 : w2.heap.size = w.heap.size + 1 + 1 := by rw [hw2]; simp [z1]
  have mc1 := made_cells (w := w) (cs := #[.slice sca p.cs.length scc, .slice swa p.ws.length swc]) (t := 25) (w1 := w3) (S := nothing) (by rw [← hw1]; exact f2.trans f3) id
  have mc2 := made_cells (w := w1) (cs := #[.int .i64 c.np, .int .i64 c.nv, .slice xsa c.ins.length xsc]) (t := 54) (w1 := w3) (S := nothing) (by rw [← hw2]; exact f3) id
  have mc3 := made_cells (w := w2) (cs := #[.int .i64 op, .int .i64 a, .int .i64 b]) (t := 59) (w1 := w3) (S := nothing) (by rw [← hw3]; exact Fr.refl _ _) id
  rw [z1] at mc2
  rw [z2] at mc3
  have p0 := mc1.1 0
  have p1 := mc1.1 1
  have pl := mc1.2.2
  have c0 := mc2.1 0
  have c1 := mc2.1 1
  have c2 := mc2.1 2
  have cl := mc2.2.2
  have i0 := mc3.1 0
  have i1 := mc3.1 1
  have i2 := mc3.1 2
  have il := mc3.2.2
  have HF3 := hide ((f1.trans f2).trans f3)
  have HRS := hide (hrs.fr ((f1.trans f2).trans f3) (fun _ _ => id))
  have HEA := hide hea
  have HD : Hid (inC p c ⟨op, a, b⟩ = if op < 1 ∨ 19 < op then 1 else if a < loC op ∨ hiC p c op < a then 3 else if b ≠ bC p ⟨op, a, b⟩ then 3 else 0) := rfl
  generalize inC p c ⟨op, a, b⟩ = R at *
  have hd := HD.out
  have a1 := hw1.symm
  have a2 := hw2.symm
  have a3 := hw3.symm
  clear f1 f2 f3 mc1 mc2 mc3 hrs hea hws m2 hl hv hw1 hw2 hw3
  by_cases ho : op < 1 ∨ 19 < op
  · rw [if_pos ho] at hd
    subst hd
    have hbw : betw op 1 19 = false := decide_eq_false (by omega)
    go_enter Tryd.func34, Tryd.ntmps34
    go_wp2_with (go_at_call 35; refine (between_any op 1 19 w3).mono ?_; rintro e w4 ⟨rfl, hw4⟩; rw [hw4, hbw]; clear hw4)
    go_ret
    exact ⟨rfl, HF3.out⟩
  rw [if_neg ho] at hd
  have hbw : betw op 1 19 = true := decide_eq_true (by omega)
  obtain ⟨lo, hlo⟩ : ∃ x, x = loC op := ⟨_, rfl⟩
  obtain ⟨hi, hhi⟩ : ∃ x, x = hiC p c op := ⟨_, rfl⟩
  rw [← hlo, ← hhi] at HB hd
  by_cases ha : a < lo ∨ hi < a
  · rw [if_pos ha] at hd
    subst hd
    have hbw2 : betw a lo hi = false := decide_eq_false (by omega)
    clear hlo hhi ha
    go_enter Tryd.func34, Tryd.ntmps34
    go_wp2_with (first
      | (go_at_call 51; refine (HB.out w3).mono ?_; rintro e w5 ⟨rfl, hf5⟩; have HF5 := hide (HF3.out.trans hf5); have j1 := (hf5.cell (p := ⟨w.heap.size + 1 + 1, 1, none⟩) il id).trans i1; have jl := Nat.lt_of_lt_of_le il hf5.size; clear hf5)
      | (go_at_call 35; refine (between_any a lo hi w5).mono ?_; rintro e w4 ⟨rfl, hw4⟩; rw [hw4, hbw2]; clear hw4)
      | (go_at_call 35; refine (between_any op 1 19 w3).mono ?_; rintro e w4 ⟨rfl, hw4⟩; rw [hw4, hbw]; clear hw4))
    go_ret
    exact ⟨rfl, HF5.out⟩
  rw [if_neg ha] at hd
  have hbw2 : betw a lo hi = true := decide_eq_true (by omega)
  by_cases k17 : op = 17
  · subst k17
    have hlo' : lo = 0 := hlo
    have hhi' : hi = (p.cs.length : Int) - 1 := hhi
    obtain ⟨k, rfl⟩ : ∃ k : Nat, a = k := ⟨a.toNat, by omega⟩
    have hk : k < p.cs.length := by omega
    have hx : p.cs[k]? = some p.cs[k] := List.getElem?_eq_getElem hk
    have hra : rs[k]? = some (rs[k]'(by rw [HEA.out.1]; exact hk)) := List.getElem?_eq_getElem _
    have hbc : bC p ⟨17, k, b⟩ = p.cs[k].np := by simp [bC, npZ, hx]
    rw [hbc] at hd
    generalize p.cs[k] = x at hx hd hbc
    generalize rs[k]'(by rw [HEA.out.1]; exact hk) = xa at hra
    have hxo := HEA.out.2 k xa x hra hx
    obtain ⟨g, o, e1, dg, u0, u1, u2⟩ := sl_elemC (s := ⟨sca, p.cs.length, scc⟩) HRS.out hra
    simp only at e1
    subst e1
    rw [hxo.np] at u0
    clear hlo hhi ha hlo' hhi' hx hra hbc hxo u1 u2 ho
    by_cases hb : b = x.np
    · rw [if_neg (by simpa using hb)] at hd
      subst hd hb
      go_enter Tryd.func34, Tryd.ntmps34
      go_wp2_with (first
        | (go_at_call 51; refine (HB.out w3).mono ?_; rintro e w5 ⟨rfl, hf5⟩; have HF5 := hide (HF3.out.trans hf5); have j0 := (hf5.cell (p := ⟨w.heap.size + 1 + 1, 0, none⟩) il id).trans i0; have j1 := (hf5.cell (p := ⟨w.heap.size + 1 + 1, 1, none⟩) il id).trans i1; have j2 := (hf5.cell (p := ⟨w.heap.size + 1 + 1, 2, none⟩) il id).trans i2; have jl := Nat.lt_of_lt_of_le il hf5.size; have q0 := (hf5.cell (p := ⟨w.heap.size, 0, none⟩) pl id).trans p0; have ql := Nat.lt_of_lt_of_le pl hf5.size; have v0 := (hf5.cell (p := ⟨g, o + k * 3, none⟩) dg id).trans u0; have gl := Nat.lt_of_lt_of_le dg hf5.size; clear hf5)
        | (go_at_call 35; refine (between_any (k : Int) lo hi w5).mono ?_; rintro e w4 ⟨rfl, hw4⟩; rw [hw4, hbw2]; clear hw4)
        | (go_at_call 35; refine (between_any 17 1 19 w3).mono ?_; rintro e w4 ⟨rfl, hw4⟩; rw [hw4, hbw]; clear hw4))
      go_ret
      exact ⟨rfl, HF5.out⟩
    · rw [if_pos hb] at hd
      have hbb : (b != x.np) = true := by simpa using hb
      subst hd
      go_enter Tryd.func34, Tryd.ntmps34
      go_wp2_with (first
        | (go_at_call 51; refine (HB.out w3).mono ?_; rintro e w5 ⟨rfl, hf5⟩; have HF5 := hide (HF3.out.trans hf5); have j0 := (hf5.cell (p := ⟨w.heap.size + 1 + 1, 0, none⟩) il id).trans i0; have j1 := (hf5.cell (p := ⟨w.heap.size + 1 + 1, 1, none⟩) il id).trans i1; have j2 := (hf5.cell (p := ⟨w.heap.size + 1 + 1, 2, none⟩) il id).trans i2; have jl := Nat.lt_of_lt_of_le il hf5.size; have q0 := (hf5.cell (p := ⟨w.heap.size, 0, none⟩) pl id).trans p0; have ql := Nat.lt_of_lt_of_le pl hf5.size; have v0 := (hf5.cell (p := ⟨g, o + k * 3, none⟩) dg id).trans u0; have gl := Nat.lt_of_lt_of_le dg hf5.size; clear hf5)
        | (go_at_call 35; refine (between_any (k : Int) lo hi w5).mono ?_; rintro e w4 ⟨rfl, hw4⟩; rw [hw4, hbw2]; clear hw4)
        | (go_at_call 35; refine (between_any 17 1 19 w3).mono ?_; rintro e w4 ⟨rfl, hw4⟩; rw [hw4, hbw]; clear hw4))
      go_ret
      exact ⟨rfl, HF5.out⟩
  have k17b : (op == 17) = false := by simpa using k17
  have hbc : bC p ⟨op, a, b⟩ = 0 := by unfold bC; rw [if_neg k17]
  rw [hbc] at hd
  clear hlo hhi ha hbc ho
  by_cases hb : b = 0
  · rw [if_neg (by simpa using hb)] at hd
    subst hd hb
    go_enter Tryd.func34, Tryd.ntmps34
    go_wp2_with (first
      | (go_at_call 51; refine (HB.out w3).mono ?_; rintro e w5 ⟨rfl, hf5⟩; have HF5 := hide (HF3.out.trans hf5); have j0 := (hf5.cell (p := ⟨w.heap.size + 1 + 1, 0, none⟩) il id).trans i0; have j1 := (hf5.cell (p := ⟨w.heap.size + 1 + 1, 1, none⟩) il id).trans i1; have j2 := (hf5.cell (p := ⟨w.heap.size + 1 + 1, 2, none⟩) il id).trans i2; have jl := Nat.lt_of_lt_of_le il hf5.size; clear hf5)
      | (go_at_call 35; refine (between_any a lo hi w5).mono ?_; rintro e w4 ⟨rfl, hw4⟩; rw [hw4, hbw2]; clear hw4)
      | (go_at_call 35; refine (between_any op 1 19 w3).mono ?_; rintro e w4 ⟨rfl, hw4⟩; rw [hw4, hbw]; clear hw4))
    go_ret
    exact ⟨rfl, HF5.out⟩
  · rw [if_pos hb] at hd
    have hbb : (b != 0) = true := by simpa using hb
    subst hd
    go_enter Tryd.func34, Tryd.ntmps34
    go_wp2_with (first
      | (go_at_call 51; refine (HB.out w3).mono ?_; rintro e w5 ⟨rfl, hf5⟩; have HF5 := hide (HF3.out.trans hf5); have j0 := (hf5.cell (p := ⟨w.heap.size + 1 + 1, 0, none⟩) il id).trans i0; have j1 := (hf5.cell (p := ⟨w.heap.size + 1 + 1, 1, none⟩) il id).trans i1; have j2 := (hf5.cell (p := ⟨w.heap.size + 1 + 1, 2, none⟩) il id).trans i2; have jl := Nat.lt_of_lt_of_le il hf5.size; clear hf5)
      | (go_at_call 35; refine (between_any a lo hi w5).mono ?_; rintro e w4 ⟨rfl, hw4⟩; rw [hw4, hbw2]; clear hw4)
      | (go_at_call 35; refine (between_any op 1 19 w3).mono ?_; rintro e w4 ⟨rfl, hw4⟩; rw [hw4, hbw]; clear hw4))
    go_ret
    exact ⟨rfl, HF5.out⟩
end Go.Proofs.YtpemfikdmkmgbaaDoor
end
