/- Heights, as a function: how far they go, and that they flow on (no program). -/
import Derived.Test.YtgocmpooppejdaaFSpec
set_option maxHeartbeats 0
set_option maxRecDepth 100000
namespace Go.Proofs.Ytgocmpooppejdaa
theorem shape_snd (i : In) : 0 ≤ (shapeC i).2 ∧ (shapeC i).2 ≤ 1 := by
  unfold shapeC
  by_cases h : i.op = 17
  · rw [if_pos h]; exact ⟨Int.one_nonneg, Int.le_refl 1⟩
  · rw [if_neg h]
    generalize i.op = k
    unfold shapesL
    simp only [List.find?]
    repeat' split
    all_goals (refine ⟨?_, ?_⟩ <;> decide)
theorem next_snd {i : In} {p m : Int} : ∀ z ∈ nextC i p m, z.2 = m := by
  intro z hz
  unfold nextC at hz
  rcases List.mem_append.1 hz with hz | hz
  · split at hz
    · rw [List.mem_singleton.1 hz]
    · cases hz
  · split at hz
    · rw [List.mem_singleton.1 hz]
    · cases hz
theorem hGo_range (ins : List In) : ∀ (f : Nat) (h : List Int) (q : List (Int × Int)), (∀ x ∈ h, -1 ≤ x ∧ x ≤ 16) → (∀ z ∈ q, 0 ≤ z.2 ∧ z.2 ≤ 16) → ∀ x ∈ (hGo ins f h q).1, -1 ≤ x ∧ x ≤ 16
  | 0, h, q, h1, _ => by rw [hGo]; exact h1
  | f + 1, h, [], h1, _ => by rw [hGo]; exact h1
  | f + 1, h, (p, n) :: q, h1, h2 => by
    rw [hGo]
    split
    · intro x hx; cases hx
    split
    · intro x hx; cases hx
    split
    · exact hGo_range ins f h q h1 (fun z hz => h2 z (by simp [hz]))
    split
    · intro x hx; cases hx
    rename_i h4
    split
    · intro x hx; cases hx
    rename_i h5
    have hn := h2 (p, n) (by simp)
    simp only at hn
    have hs := shape_snd (ins.getD p.toNat ⟨0, 0, 0⟩)
    refine hGo_range ins f _ _ (fun x hx => ?_) (fun z hz => ?_)
    · rcases List.mem_or_eq_of_mem_set hx with hx | hx
      · exact h1 x hx
      · rw [hx]; omega
    · rcases List.mem_append.1 hz with hz | hz
      · exact h2 z (by simp [hz])
      · rw [next_snd z hz]
        omega
theorem heights_range (ins : List In) : ∀ x ∈ (heightsC ins).1, -1 ≤ x ∧ x ≤ 16 := by
  refine hGo_range ins _ _ _ (fun x hx => ?_) (fun z hz => ?_)
  · rw [(List.mem_replicate.1 hx).2]; omega
  · rw [List.mem_singleton.1 hz]; exact ⟨by decide, by decide⟩
end Go.Proofs.Ytgocmpooppejdaa
