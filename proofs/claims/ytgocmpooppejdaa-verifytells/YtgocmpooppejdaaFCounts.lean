/- Package verify: the numbers of an agent, what a frame waits for, what is wrong with values. -/
import Derived.Test.YtgocmpooppejdaaFProgram
set_option maxHeartbeats 0
set_option maxRecDepth 100000
namespace Go.Proofs.Ytgocmpooppejdaa
open Go Go.RowKit
abbrev agC (a : Ag) (sc sw sf sh : Slc) : Array Value := #[.int .i64 a.id, .int .i64 a.trip, .slice sc.a sc.n sc.c, .slice sw.a sw.n sw.c, .slice sf.a sf.n sf.c, .slice sh.a sh.n sh.c, .int .i64 a.fuel, .int .i64 a.cells, .int .i64 a.hops]
theorem counts_any (a : Ag) (sc sw sf sh : Slc) (w : World) (h1 : sf.n = a.fr.length) (h2 : sh.n = a.hp.length) (hl : a.fr.length ≤ 140737488355328 ∧ a.hp.length ≤ 140737488355328) :
    Calls Try.prog 12 #[.agg (agC a sc sw sf sh)] w fun e w' => e = .returned (.int .i64 (countsC a)) ∧ Fr nothing w w' := by
  obtain ⟨id, trip, pg, fr, hp, fuel, cells, hops⟩ := a
  obtain ⟨sca, scn, scc⟩ := sc
  obtain ⟨swa, swn, swc⟩ := sw
  obtain ⟨sfa, sfn, sfc⟩ := sf
  obtain ⟨sha, shn, shc⟩ := sh
  simp only at h1 h2 hl
  subst h1 h2
  have hd : countsC ⟨id, trip, pg, fr, hp, fuel, cells, hops⟩ = if id < 0 ∨ 1073741824 < id ∨ trip < 0 ∨ 1073741824 < trip then 3 else if fuel < 0 ∨ 2000 < fuel ∨ cells < 0 ∨ 60 < cells ∨ hops < 0 ∨ 12 < hops then 3 else if fr.length = 0 ∨ 12 < fr.length then 5 else if 60 < hp.length + cells then 4 else 0 := rfl
  obtain ⟨R, hR⟩ : ∃ R, countsC ⟨id, trip, pg, fr, hp, fuel, cells, hops⟩ = R := ⟨_, rfl⟩
  rw [hR] at hd ⊢
  have HF : Hid (Fr nothing w ((w.alloc (.cells #[.int .i64 id, .int .i64 trip, .slice sca scn scc, .slice swa swn swc, .slice sfa fr.length sfc, .slice sha hp.length shc, .int .i64 fuel, .int .i64 cells, .int .i64 hops] 31)).alloc (.cells #[.int .i64 fuel, .int .i64 cells, .int .i64 hops] 29))) := ((Fr.refl _ _).alloc _).alloc _
  clear hR
  by_cases b1 : betw id 0 1073741824 = true
  case neg =>
    have b1' : betw id 0 1073741824 = false := by simpa using b1
    rw [if_pos (by simp only [betw, decide_eq_true_eq, decide_eq_false_iff_not] at *; omega)] at hd
    subst hd
    clear b1
    go_enter Try.func12, Try.ntmps12
    go_wp2_with (go_at_call 24; refine (between_any _ _ _ _).mono ?_; rintro e w4 ⟨rfl, hw4⟩; (first | rw [hw4, b1']); clear hw4)
    go_ret
    exact ⟨rfl, HF.out⟩
  by_cases b2 : betw trip 0 1073741824 = true
  case neg =>
    have b2' : betw trip 0 1073741824 = false := by simpa using b2
    rw [if_pos (by simp only [betw, decide_eq_true_eq, decide_eq_false_iff_not] at *; omega)] at hd
    subst hd
    clear b2
    go_enter Try.func12, Try.ntmps12
    go_wp2_with (go_at_call 24; refine (between_any _ _ _ _).mono ?_; rintro e w4 ⟨rfl, hw4⟩; (first | rw [hw4, b1] | rw [hw4, b2']); clear hw4)
    go_ret
    exact ⟨rfl, HF.out⟩
  rw [if_neg (by simp only [betw, decide_eq_true_eq] at *; omega)] at hd
  by_cases b3 : betw fuel 0 2000 = true
  case neg =>
    have b3' : betw fuel 0 2000 = false := by simpa using b3
    rw [if_pos (by simp only [betw, decide_eq_true_eq, decide_eq_false_iff_not] at *; omega)] at hd
    subst hd
    clear b3
    go_enter Try.func12, Try.ntmps12
    go_wp2_with (go_at_call 24; refine (between_any _ _ _ _).mono ?_; rintro e w4 ⟨rfl, hw4⟩; (first | rw [hw4, b1] | rw [hw4, b2] | rw [hw4, b3']); clear hw4)
    go_ret
    exact ⟨rfl, HF.out⟩
  by_cases b4 : betw cells 0 60 = true
  case neg =>
    have b4' : betw cells 0 60 = false := by simpa using b4
    rw [if_pos (by simp only [betw, decide_eq_true_eq, decide_eq_false_iff_not] at *; omega)] at hd
    subst hd
    clear b4
    go_enter Try.func12, Try.ntmps12
    go_wp2_with (go_at_call 24; refine (between_any _ _ _ _).mono ?_; rintro e w4 ⟨rfl, hw4⟩; (first | rw [hw4, b1] | rw [hw4, b2] | rw [hw4, b3] | rw [hw4, b4']); clear hw4)
    go_ret
    exact ⟨rfl, HF.out⟩
  by_cases b5 : betw hops 0 12 = true
  case neg =>
    have b5' : betw hops 0 12 = false := by simpa using b5
    rw [if_pos (by simp only [betw, decide_eq_true_eq, decide_eq_false_iff_not] at *; omega)] at hd
    subst hd
    clear b5
    go_enter Try.func12, Try.ntmps12
    go_wp2_with (go_at_call 24; refine (between_any _ _ _ _).mono ?_; rintro e w4 ⟨rfl, hw4⟩; (first | rw [hw4, b1] | rw [hw4, b2] | rw [hw4, b3] | rw [hw4, b4] | rw [hw4, b5']); clear hw4)
    go_ret
    exact ⟨rfl, HF.out⟩
  rw [if_neg (by simp only [betw, decide_eq_true_eq] at *; omega)] at hd
  by_cases b6 : betw (fr.length : Int) 1 12 = true
  case neg =>
    have b6' : betw (fr.length : Int) 1 12 = false := by simpa using b6
    rw [if_pos (by simp only [betw, decide_eq_true_eq, decide_eq_false_iff_not] at *; omega)] at hd
    subst hd
    clear b6
    go_enter Try.func12, Try.ntmps12
    go_wp2_with (go_at_call 24; refine (between_any _ _ _ _).mono ?_; rintro e w4 ⟨rfl, hw4⟩; (first | rw [hw4, b1] | rw [hw4, b2] | rw [hw4, b3] | rw [hw4, b4] | rw [hw4, b5] | rw [hw4, b6']); clear hw4)
    go_ret
    exact ⟨rfl, HF.out⟩
  rw [if_neg (by simp only [betw, decide_eq_true_eq] at *; omega)] at hd
  have hc : 0 ≤ cells ∧ cells ≤ 60 := by simpa [betw] using b4
  have hN : IntKind.i64.wrap (60 - cells) = 60 - cells := wrap_in _ (by omega) (by omega)
  by_cases b7 : 60 < hp.length + cells
  · rw [if_pos b7] at hd
    subst hd
    have b7' : 60 - cells < (hp.length : Int) := by omega
    go_enter Try.func12, Try.ntmps12
    go_wp2_with (go_at_call 24; refine (between_any _ _ _ _).mono ?_; rintro e w4 ⟨rfl, hw4⟩; (first | rw [hw4, b1] | rw [hw4, b2] | rw [hw4, b3] | rw [hw4, b4] | rw [hw4, b5] | rw [hw4, b6]); clear hw4)
    go_ret
    exact ⟨rfl, HF.out⟩
  · rw [if_neg b7] at hd
    subst hd
    have b7' : ¬ 60 - cells < (hp.length : Int) := by omega
    go_enter Try.func12, Try.ntmps12
    go_wp2_with (go_at_call 24; refine (between_any _ _ _ _).mono ?_; rintro e w4 ⟨rfl, hw4⟩; (first | rw [hw4, b1] | rw [hw4, b2] | rw [hw4, b3] | rw [hw4, b4] | rw [hw4, b5] | rw [hw4, b6]); clear hw4)
    go_ret
    exact ⟨rfl, HF.out⟩
end Go.Proofs.Ytgocmpooppejdaa
