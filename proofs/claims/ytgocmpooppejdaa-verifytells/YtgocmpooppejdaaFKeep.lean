/- Heights that are told stay; a frame with its code (no program). -/
import Derived.Test.YtgocmpooppejdaaFAgent
set_option maxHeartbeats 0
set_option maxRecDepth 100000
namespace Go.Proofs.Ytgocmpooppejdaa
abbrev v0 : Val := ⟨0, 0, []⟩
/-- A height that is told stays. -/
theorem hGo_keep (ins : List In) : ∀ (f : Nat) (h : List Int) (q : List (Int × Int)) (i : Nat) (x : Int), (hGo ins f h q).2 = 0 → h[i]? = some x → 0 ≤ x → (hGo ins f h q).1[i]? = some x
  | 0, h, q, i, x, _, hi, _ => by rw [hGo]; exact hi
  | f + 1, h, [], i, x, _, hi, _ => by rw [hGo]; exact hi
  | f + 1, h, (p, n) :: q, i, x, e, hi, hx => by
    rw [hGo] at e ⊢
    split at e
    · cases e
    rename_i h1
    rw [if_neg h1]
    split at e
    · cases e
    rename_i h2
    rw [if_neg h2]
    split at e
    · rename_i h3
      rw [if_pos h3]
      exact hGo_keep ins f h q i x e hi hx
    rename_i h3
    rw [if_neg h3]
    split at e
    · cases e
    rename_i h4
    rw [if_neg h4]
    split at e
    · cases e
    rename_i h5
    rw [if_neg h5]
    refine hGo_keep ins f _ _ i x e ?_ hx
    by_cases hp : p.toNat = i
    · exfalso
      apply h3
      rw [hp]
      simp [List.getD, hi, hx]
    · rw [List.getElem?_set_ne hp]; exact hi
theorem heights_first {ins : List In} (h : (heightsC ins).2 = 0) (hl : ins.length ≠ 0) : (heightsC ins).1[0]? = some 0 := by
  unfold heightsC at h ⊢
  generalize hh : List.replicate ins.length (-1 : Int) = h0 at h ⊢
  have hlen : h0.length = ins.length := by rw [← hh, List.length_replicate]
  have hg : h0.getD 0 0 = -1 := by
    rw [← hh]
    have : (List.replicate ins.length (-1 : Int))[0]? = some (-1) := by rw [List.getElem?_replicate, if_pos (by omega)]
    simp [List.getD, this]
  rw [show 2 * ins.length + 2 = (2 * ins.length + 1) + 1 by omega] at h ⊢
  rw [hGo] at h ⊢
  have e1 : ¬ ((0 : Int) < 0 ∨ (h0.length : Int) ≤ 0) := by omega
  rw [if_neg e1] at h ⊢
  simp only [Int.toNat_zero] at h ⊢
  rw [hg] at h ⊢
  rw [if_neg (by omega), if_neg (by omega)] at h ⊢
  split at h
  · cases h
  rename_i h4
  rw [if_neg h4]
  split at h
  · cases h
  rename_i h5
  rw [if_neg h5]
  exact hGo_keep ins _ _ _ 0 0 h (by rw [List.getElem?_set_self (by omega)]) (Int.le_refl 0)
theorem frameC_at (p : Pz) (f : Fm) (q : Int × Int) {c : Cz} (h : p.cs.getD f.fn.toNat cz0 = c) : frameC p f q =
  if f.fn < 0 ∨ p.cs.length ≤ f.fn then 3
  else if f.at_ < 0 ∨ c.ins.length ≤ f.at_ ∨ (f.vars.length : Int) ≠ c.nv then 3
  else if q.1 ≠ 0 ∧ (f.at_ = 0 ∨ heightZ c (f.at_.toNat - 1) = -1 ∨ (c.ins.getD (f.at_.toNat - 1) in0).op ≠ q.1 ∨ (c.ins.getD (f.at_.toNat - 1) in0).a ≠ q.2) then 10
  else if (f.stack.length : Int) ≠ heightZ c f.at_.toNat - (if q.1 ≠ 0 then 1 else 0) then 10
  else 0 := by subst h; rfl
end Go.Proofs.Ytgocmpooppejdaa
