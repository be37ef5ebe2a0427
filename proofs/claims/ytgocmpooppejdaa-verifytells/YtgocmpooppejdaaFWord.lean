/- What is a word: package text, and the document. -/
import Derived.Test.YtgocmpooppejdaaFSpec
set_option maxHeartbeats 0
set_option maxRecDepth 100000
namespace Go.Proofs.Ytgocmpooppejdaa
open Go Go.RowKit
theorem rword_any (v : Bs) (w : World) (hv : v.length ≤ 9223372036854775807) :
    Calls Try.prog 10 #[.string (bs v)] w fun e w' => e = .returned (.bool (isWord v)) ∧ w' = w := by
  have hsz := bs_size v
  have HN : Hid (isWord v = (v.all wordC && decide (v.length < 13))) := rfl
  generalize isWord v = r at HN ⊢
  go_enter Try.func10, Try.ntmps10
  go_wp2
  go_loop [6, 3] (fun i _ => ∃ k : Nat, k ≤ v.length ∧ i = .int .i64 k ∧ Hid ((v.take k).all wordC = true)) (fun i _ => v.length - (intOf i).toNat)
  case atStart => exact ⟨0, Nat.zero_le _, rfl, rfl⟩
  case round =>
    obtain ⟨k, hk, rfl, hall⟩ := hrel
    by_cases hlt : k < v.length
    · have hz : (k : Int) < ((bs v).size : Int) := by rw [hsz]; omega
      have hz' : k < (bs v).size := by rw [hsz]; omega
      generalize hc : (bs v)[k]'hz' = c
      have HCK : Hid (v[k] = c) := hc
      by_cases h1 : c.toNat < 32
      · have hr : r = false := by rw [HN.out, all_not hlt HCK.out (by simp [wordC]; omega)]; simp
        subst hr
        have h2 : (c.toNat : Int) < 32 := by omega
        go_wp2
        all_goals go_ret
        all_goals exact ⟨rfl, rfl⟩
      · have h2 : ¬ (c.toNat : Int) < 32 := by omega
        by_cases h3 : 126 < c.toNat
        · have hr : r = false := by rw [HN.out, all_not hlt HCK.out (by simp [wordC]; omega)]; simp
          subst hr
          have h4 : (126 : Int) < (c.toNat : Int) := by omega
          go_wp2
          all_goals go_ret
          all_goals exact ⟨rfl, rfl⟩
        · have h4 : ¬ (126 : Int) < (c.toNat : Int) := by omega
          by_cases h5 : c.toNat = 39
          · have hr : r = false := by rw [HN.out, all_not hlt HCK.out (by simp [wordC, h5])]; simp
            subst hr
            have h6 : ((c.toNat : Int) == 39) = true := by simp; omega
            go_wp2
            all_goals go_ret
            all_goals exact ⟨rfl, rfl⟩
          · have h6 : ((c.toNat : Int) == 39) = false := by simp; omega
            have HL := hide (all_take hall.out hlt HCK.out (by simp [wordC, h5]; omega))
            go_wp2
            go_round
            case rel => exact ⟨k + 1, by omega, by go_num, HL⟩
            case measure => simp [intOf]; omega
    · obtain rfl : k = v.length := by omega
      have hr : r = decide (v.length < 13) := by
        have := hall.out
        rw [List.take_length] at this
        rw [HN.out, this]
        simp
      subst hr
      clear hall
      by_cases h9 : v.length < 13
      · have g9 : (v.length : Int) < 13 := by omega
        go_wp2
        all_goals go_ret
        all_goals exact ⟨by simp [*], rfl⟩
      · have g9 : ¬ (v.length : Int) < 13 := by omega
        go_wp2
        all_goals go_ret
        all_goals exact ⟨by simp [*], rfl⟩
theorem tword_any (v : Bs) (w : World) (hv : v.length ≤ 9223372036854775807) :
    Calls Try.prog 28 #[.string (bs v)] w fun e w' => e = .returned (.bool (isWord v)) ∧ w' = w := by
  have hsz := bs_size v
  have HN : Hid (isWord v = (v.all wordC && decide (v.length < 13))) := rfl
  generalize isWord v = r at HN ⊢
  by_cases h9 : 12 < v.length
  · have hr : r = false := by rw [HN.out, decide_eq_false (by omega)]; simp
    subst hr
    have g9 : (12 : Int) < (v.length : Int) := by omega
    go_enter Try.func28, Try.ntmps28
    go_wp2
    go_ret
    exact ⟨rfl, rfl⟩
  have g9 : ¬ (12 : Int) < (v.length : Int) := by omega
  go_enter Try.func28, Try.ntmps28
  go_wp2
  go_loop [9, 3] (fun i _ => ∃ k : Nat, k ≤ v.length ∧ i = .int .i64 k ∧ Hid ((v.take k).all wordC = true)) (fun i _ => v.length - (intOf i).toNat)
  case atStart => exact ⟨0, Nat.zero_le _, rfl, rfl⟩
  case round =>
    obtain ⟨k, hk, rfl, hall⟩ := hrel
    by_cases hlt : k < v.length
    · have hz : (k : Int) < ((bs v).size : Int) := by rw [hsz]; omega
      have hz' : k < (bs v).size := by rw [hsz]; omega
      generalize hc : (bs v)[k]'hz' = c
      have HCK : Hid (v[k] = c) := hc
      by_cases h1 : c.toNat < 32
      · have hr : r = false := by rw [HN.out, all_not hlt HCK.out (by simp [wordC]; omega)]; simp
        subst hr
        have h2 : (c.toNat : Int) < 32 := by omega
        go_wp2
        all_goals go_ret
        all_goals exact ⟨rfl, rfl⟩
      · have h2 : ¬ (c.toNat : Int) < 32 := by omega
        by_cases h3 : 126 < c.toNat
        · have hr : r = false := by rw [HN.out, all_not hlt HCK.out (by simp [wordC]; omega)]; simp
          subst hr
          have h4 : (126 : Int) < (c.toNat : Int) := by omega
          go_wp2
          all_goals go_ret
          all_goals exact ⟨rfl, rfl⟩
        · have h4 : ¬ (126 : Int) < (c.toNat : Int) := by omega
          by_cases h5 : c.toNat = 39
          · have hr : r = false := by rw [HN.out, all_not hlt HCK.out (by simp [wordC, h5])]; simp
            subst hr
            have h6 : ((c.toNat : Int) == 39) = true := by simp; omega
            go_wp2
            all_goals go_ret
            all_goals exact ⟨rfl, rfl⟩
          · have h6 : ((c.toNat : Int) == 39) = false := by simp; omega
            have HL := hide (all_take hall.out hlt HCK.out (by simp [wordC, h5]; omega))
            go_wp2
            go_round
            case rel => exact ⟨k + 1, by omega, by go_num, HL⟩
            case measure => simp [intOf]; omega
    · obtain rfl : k = v.length := by omega
      have hr : r = true := by
        have := hall.out
        rw [List.take_length] at this
        rw [HN.out, this, decide_eq_true (by omega)]
        simp
      subst hr
      clear hall
      go_wp2
      go_ret
      exact ⟨rfl, rfl⟩
end Go.Proofs.Ytgocmpooppejdaa
