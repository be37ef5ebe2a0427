/- What is a name, of any text. -/
import Derived.Test.YtkmdamljhagogaaDoorNames
namespace Go.Proofs.YtkmdamljhagogaaDoor
open Go.RowKit
set_option maxHeartbeats 1000000 in
set_option maxRecDepth 20000 in
theorem name_long (v : Bs) (w : World) (hv : v.length ≤ 140737488355328) :
    Calls Tryd.prog 11 #[.string (bs v)] w fun e w' => e = .returned (.bool (isName v)) ∧ Fr nothing w w' := by
  have hsz := bs_size v
  have HN : Hid (isName v = (!(taken.contains v) && v.all letter && decide (0 < v.length) && decide (v.length < 9))) := rfl
  generalize isName v = r at HN ⊢
  go_enter Tryd.func11, Tryd.ntmps11
  go_wp2
  go_loop [8, 4] (fun i _ => ∃ k : Nat, k ≤ 15 ∧ i = .int .i64 k ∧ Hid (v ∉ taken.take k)) (fun i _ => 15 - (intOf i).toNat)
  case atStart => exact ⟨0, Nat.zero_le _, rfl, by simp [Hid]⟩
  case round =>
    obtain ⟨k, hk, rfl, hno⟩ := hrel
    by_cases hlt : k < 15
    · have hkl : k < taken.length := hlt
      have hcell : ∀ T, (w.alloc (.cells takenV T)).cell? ⟨w.heap.size, k, none⟩ = some (.string (bs taken[k])) := fun T => by
        rw [World.cell?_alloc_new]; exact takenV_get k hkl
      unfold takenV at hcell
      have HS : Hid (¬ v = taken[k] → v ∉ taken.take (k + 1)) := fun h2 => taken_step hkl hno.out h2
      have HM : Hid (taken[k] ∈ taken) := List.getElem_mem hkl
      generalize taken[k] = u at hcell HS HM
      by_cases hq : v = u
      · have hr : r = false := by
          rw [HN.out]
          have : v ∈ taken := hq ▸ HM.out
          simp [this]
        subst hr
        subst hq
        go_wp2
        all_goals go_ret
        all_goals exact ⟨rfl, (Fr.refl _ _).alloc _⟩
      · have hq1 := bs_ne hq
        go_wp2
        go_round
        case rel => exact ⟨k + 1, by omega, by go_num, HS.out hq⟩
        case measure => simp [intOf]; omega
    · have hno2 : Hid (taken.contains v = false) := by
        have h1 : k = 15 := by omega
        subst h1
        have := hno.out
        rw [List.take_of_length_le (by decide)] at this
        have h2 : taken.contains v = false := by simpa using this
        exact h2
      clear hno
      go_wp2
      go_loop [18, 5] (fun i _ => ∃ k : Nat, k ≤ v.length ∧ i = .int .i64 k ∧ Hid ((v.take k).all letter = true)) (fun i _ => v.length - (intOf i).toNat)
      case atStart => exact ⟨0, Nat.zero_le _, rfl, rfl⟩
      case round =>
        obtain ⟨j, hj, rfl, hall⟩ := hrel
        by_cases hjl : j < v.length
        · have hz : (j : Int) < ((bs v).size : Int) := by rw [hsz]; omega
          have hz' : j < (bs v).size := by rw [hsz]; omega
          generalize hc : (bs v)[j]'hz' = c
          have HCK : Hid (v[j] = c) := hc
          by_cases h1 : c.toNat < 97
          · have hr : r = false := by rw [HN.out, all_not hjl HCK.out (by simp [letter]; omega)]; simp
            subst hr
            have h2 : (c.toNat : Int) < 97 := by omega
            go_wp2
            all_goals go_ret
            all_goals exact ⟨rfl, (Fr.refl _ _).alloc _⟩
          · have h2 : ¬ (c.toNat : Int) < 97 := by omega
            by_cases h3 : 122 < c.toNat
            · have hr : r = false := by rw [HN.out, all_not hjl HCK.out (by simp [letter]; omega)]; simp
              subst hr
              have h4 : (122 : Int) < (c.toNat : Int) := by omega
              go_wp2
              all_goals go_ret
              all_goals exact ⟨rfl, (Fr.refl _ _).alloc _⟩
            · have h4 : ¬ (122 : Int) < (c.toNat : Int) := by omega
              have HL := hide (all_take hall.out hjl HCK.out (by simp [letter]; omega))
              go_wp2
              go_round
              case rel => exact ⟨j + 1, by omega, by go_num, HL⟩
              case measure => simp [intOf]; omega
        · obtain rfl : j = v.length := by omega
          have hr : r = (decide (0 < v.length) && decide (v.length < 9)) := by
            have := hall.out
            rw [List.take_length] at this
            rw [HN.out, this, hno2.out]
            simp
          subst hr
          clear hall
          by_cases h0 : 0 < v.length
          · by_cases h9 : v.length < 9
            · have g0 : (0 : Int) < (v.length : Int) := by omega
              have g9 : (v.length : Int) < 9 := by omega
              go_wp2
              all_goals go_ret
              all_goals exact ⟨by simp [*], (Fr.refl _ _).alloc _⟩
            · have g0 : (0 : Int) < (v.length : Int) := by omega
              have g9 : ¬ (v.length : Int) < 9 := by omega
              go_wp2
              all_goals go_ret
              all_goals exact ⟨by simp [*], (Fr.refl _ _).alloc _⟩
          · have g0 : ¬ (0 : Int) < (v.length : Int) := by omega
            go_wp2
            all_goals go_ret
            all_goals exact ⟨by simp [*], (Fr.refl _ _).alloc _⟩
end Go.Proofs.YtkmdamljhagogaaDoor
