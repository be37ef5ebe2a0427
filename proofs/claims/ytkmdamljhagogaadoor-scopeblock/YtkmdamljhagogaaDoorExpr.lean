/- Expressions. -/
import Derived.Test.YtkmdamljhagogaaDoorExprF
import Derived.Test.YtkmdamljhagogaaDoorExprQ
namespace Go.Proofs.YtkmdamljhagogaaDoor
open Go.RowKit

theorem single_eq (w0 : World) (rb : Nat) (l : Bs) (d : Int) (w : World) (h : Pw w0 rb l 0 w) (hd : d ≤ 10) (h39 : (skip l).head? ≠ some 39) (h40 : (skip l).head? ≠ some 40) :
    Calls Tryd.prog 51 #[.pointer (some ⟨rb, 0, none⟩), .int .i64 d] w (XPost ev ExOk rb w (single (skip l) 0)) := by
  obtain ⟨v, l', z, hw⟩ : ∃ v l' z, word (skip l) 0 = ⟨v, l', z⟩ := ⟨_, _, _, rfl⟩
  have e : single (skip l) 0 = ⟨wordE v, l', wordEZ v z⟩ := by unfold single; rw [hw]
  rw [e]
  by_cases hA : ∃ n, Lib.atoiAll v = .ok n
  · obtain ⟨n, hA⟩ := hA
    have hn := numOf_ok hA
    by_cases hI : Lib.itoa n = v
    · rw [if_pos hI] at hn
      cases hi : inInt n with
      | true =>
        have e1 : wordE v = .mk 1 n [] [] := by simp [wordE, hn]
        have e2 : wordEZ v z = z := by simp [wordEZ, hn, hi]
        rw [e1, e2]
        exact expr_word_int w0 rb l d w h hd h39 h40 hw hA hI hi
      | false =>
        have e1 : wordE v = .mk 1 n [] [] := by simp [wordE, hn]
        have e2 : wordEZ v z = bad z 3 := by simp [wordEZ, hn, hi]
        rw [e1, e2]
        exact expr_word_big w0 rb l d w h hd h39 h40 hw hA hI hi
    · rw [if_neg hI] at hn
      have e1 : wordE v = .mk 3 0 v [] := by simp [wordE, hn]
      rw [e1]
      cases hi : isName v with
      | true =>
        have e2 : wordEZ v z = z := by simp [wordEZ, hn, hi]
        rw [e2]
        exact expr_word_odd_yes w0 rb l d w h hd h39 h40 hw hA hI hi
      | false =>
        have e2 : wordEZ v z = bad z 7 := by simp [wordEZ, hn, hi]
        rw [e2]
        exact expr_word_odd_no w0 rb l d w h hd h39 h40 hw hA hI hi
  · have hA' : ∀ n, Lib.atoiAll v ≠ .ok n := fun n e => hA ⟨n, e⟩
    have hn := numOf_no hA'
    have e1 : wordE v = .mk 3 0 v [] := by simp [wordE, hn]
    rw [e1]
    cases hi : isName v with
    | true =>
      have e2 : wordEZ v z = z := by simp [wordEZ, hn, hi]
      rw [e2]
      exact expr_word_name_yes w0 rb l d w h hd h39 h40 hw hA' hi
    | false =>
      have e2 : wordEZ v z = bad z 7 := by simp [wordEZ, hn, hi]
      rw [e2]
      exact expr_word_name_no w0 rb l d w h hd h39 h40 hw hA' hi
/-- Expressions. -/
theorem expr_any (w0 : World) (rb N : Nat) (hN : 1502 ≤ N) : ∀ (k : Nat) (d : Int) (l : Bs) (z : Int) (w : World), d = 11 - (k : Int) → k ≤ 11 → Pw w0 rb l z w →
    Calls Tryd.prog 51 #[.pointer (some ⟨rb, 0, none⟩), .int .i64 d] w (XPost ev ExOk rb w (expr N k l z))
  | 0, d, l, z, w, hd, _, h => by
    have e : deepZ d z = bad z 9 := by simp [deepZ]; omega
    have := expr_not rb l z d w h.pr (by rw [e]; exact bad_ne _ _ (by decide))
    rw [e] at this
    exact this
  | k + 1, d, l, z, w, hd, hk, h => by
    by_cases hz : z = 0
    · subst hz
      cases hs : skip l with
      | nil =>
        have e : expr N (k + 1) l 0 = single (skip l) 0 := by simp [expr, hs]
        rw [e]
        exact single_eq w0 rb l d w h (by omega) (by rw [hs]; simp) (by rw [hs]; simp)
      | cons c t =>
        by_cases hc : c = 39
        · subst hc
          have e : expr N (k + 1) l 0 = quoted t 0 := by simp [expr, hs]
          rw [e]
          exact expr_quote rb l d w h.pr h.len (by omega) hs
        · by_cases hc2 : c = 40
          · subst hc2
            have e : expr N (k + 1) l 0 = formed (until_ (expr N k) N) t 0 := by simp [expr, hs]
            rw [e]
            exact expr_formed w0 rb l d w h (by omega) (by omega) hs (expr N k) N hN (expr_less N k) (expr_small N k) (fun l w h => expr_any w0 rb N hN k (d + 1) l 0 w (by omega) (by omega) h)
          · have e : expr N (k + 1) l 0 = single (skip l) 0 := by simp [expr, hs, hc, hc2]
            rw [e]
            exact single_eq w0 rb l d w h (by omega) (by rw [hs]; simpa using hc) (by rw [hs]; simpa using hc2)
    · have e : deepZ d z = z := by simp [deepZ]; omega
      have e2 : expr N (k + 1) l z = ⟨ex0, l, z⟩ := by unfold expr; rw [if_neg hz]
      rw [e2]
      have := expr_not rb l z d w h.pr (by rw [e]; exact hz)
      rw [e] at this
      exact this
end Go.Proofs.YtkmdamljhagogaaDoor
