/- The document's own check of statements: any of a text. -/
import Derived.Test.YtkmdamljhagogaaDoorCstmts
set_option maxHeartbeats 0
namespace Go.Proofs.YtkmdamljhagogaaDoor
open Go
theorem cstmts_any' : ∀ (n : Nat) (l : List St), stsN l ≤ n → (∀ s ∈ l, StSh s) → CSt l
  | 0, l, hn, hs => cstmts_step l fun k t a x y h => by
    have := stN_mem h; have := stN_pos (St.mk k t a x y); omega
  | n + 1, l, hn, hs => cstmts_step l fun k t a x y h => by
    have h1 := stN_mem h
    rw [stN] at h1
    cases hs _ h with
    | mk _ _ h3 h4 h5 h6 =>
      exact ⟨fun e he => cexpr_any e (h4 e he), cstmts_any' n x (by omega) h5, cstmts_any' n y (by omega) h6, h3⟩
theorem cstmts_any (l : List St) (hs : ∀ s ∈ l, StSh s) : CSt l := cstmts_any' _ l (Nat.le_refl _) hs
end Go.Proofs.YtkmdamljhagogaaDoor
