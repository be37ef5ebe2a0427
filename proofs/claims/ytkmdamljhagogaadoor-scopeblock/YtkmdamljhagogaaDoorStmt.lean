/- Statements. -/
import Derived.Test.YtkmdamljhagogaaDoorStmtZero
import Derived.Test.YtkmdamljhagogaaDoorStmtLet
import Derived.Test.YtkmdamljhagogaaDoorStmtSet
import Derived.Test.YtkmdamljhagogaaDoorStmtIf
import Derived.Test.YtkmdamljhagogaaDoorStmtWhile
import Derived.Test.YtkmdamljhagogaaDoorStmtPlain
import Derived.Test.YtkmdamljhagogaaDoorExpr
namespace Go.Proofs.YtkmdamljhagogaaDoor
open Go.RowKit

theorem kindOf_le (v : Bs) : kindOf v ≤ 9 := by
  unfold kindOf
  repeat (split; omega)
  omega
set_option maxHeartbeats 400000 in
set_option maxRecDepth 20000 in
/-- Too deep, or wrong already. -/
theorem stmt_not (rb : Nat) (l : Bs) (z d : Int) (w : World) (h : Pr rb l z w) (hz : deepZ d z ≠ 0) :
    Calls Tryd.prog 38 #[.pointer (some ⟨rb, 0, none⟩), .int .i64 d] w (XPost sv StOk rb w ⟨st0, l, deepZ d z⟩) := by
  have hF1 : Fr nothing w (w.alloc (.cells #[.int .i64 0, .string ⟨#[]⟩, .slice none 0 0, .slice none 0 0, .slice none 0 0] 88)) := (Fr.refl _ w).alloc _
  have HD := hide (deep_any rb l z d _ (h.fr hF1 id))
  have hrb := h.lt
  have hz' : (deepZ d z == 0) = false := by simpa using hz
  rw [hz'] at HD
  clear h hz' hF1
  go_enter Tryd.func38, Tryd.ntmps38
  go_wp2_with (go_at_call 50; refine HD.out.mono ?_; rintro e w2 ⟨rfl, hp, hf⟩; obtain ⟨y0, y1, y2, y3, y4, yf, yl⟩ := (B5.made w (.int .i64 0) (.string ⟨#[]⟩) (.slice none 0 0) (.slice none 0 0) (.slice none 0 0) 88).fr hf (by show ¬ w.heap.size = rb; omega); have yf0 := yf 0; have yf1 := yf 1; have yf2 := yf 2; have yf3 := yf 3; have yf4 := yf 4; have HP := hide hp; have HF := hide hf; clear hp hf yf)
  refine bodyPost_ret (v := sv ⟨0, [], nilS, nilS, nilS⟩) (by simp [results, Tryd.results38, go_sem, y0, y1, y2, y3, y4, bs]) rfl ?_
  exact st_fin (B := w.heap.size + 1) (res := ⟨st0, l, deepZ d z⟩) hrb (((Fr.refl (at_ rb) w).alloc _).trans HF.out) HP.out rfl (by omega) GOk.nil GOk.nil GOk.nil _ _ _ _ _
theorem parts_eq (e : Reader Ex) (nest : Reader (List St)) (k : Nat) (l : Bs) (z : Int) : parts e nest k l z = ⟨.mk k (optName k l z).v (times e (argsOf k) (optName k l z).l (optName k l z).z).v (restP nest k (times e (argsOf k) (optName k l z).l (optName k l z).z).l (times e (argsOf k) (optName k l z).l (optName k l z).z).z).v.1 (restP nest k (times e (argsOf k) (optName k l z).l (optName k l z).z).l (times e (argsOf k) (optName k l z).l (optName k l z).z).z).v.2, (restP nest k (times e (argsOf k) (optName k l z).l (optName k l z).z).l (times e (argsOf k) (optName k l z).l (optName k l z).z).z).l, (restP nest k (times e (argsOf k) (optName k l z).l (optName k l z).z).l (times e (argsOf k) (optName k l z).l (optName k l z).z).z).z⟩ := rfl
/-- Statements. -/
theorem stmt_any (w0 : World) (rb N : Nat) (hN : 1502 ≤ N) : ∀ (k : Nat) (d : Int) (l : Bs) (z : Int) (w : World), d = 11 - (k : Int) → k ≤ 11 → Pw w0 rb l z w →
    Calls Tryd.prog 38 #[.pointer (some ⟨rb, 0, none⟩), .int .i64 d] w (XPost sv StOk rb w (stmt N k l z))
  | 0, d, l, z, w, hd, _, h => by
    have e : deepZ d z = bad z 9 := by simp [deepZ]; omega
    have := stmt_not rb l z d w h.pr (by rw [e]; exact bad_ne _ _ (by decide))
    rw [e] at this
    exact this
  | k + 1, d, l, z, w, hd, hk, h => by
    by_cases hz : z = 0
    · subst hz
      have hone : ∀ l z w, Pw w0 rb l z w → Calls Tryd.prog 51 #[.pointer (some ⟨rb, 0, none⟩), .int .i64 (d + 1)] w (XPost ev ExOk rb w (expr N k l z)) := fun l z w h => expr_any w0 rb N hN k (d + 1) l z w (by omega) (by omega) h
      have hnest : ∀ l z w, Pw w0 rb l z w → Calls Tryd.prog 23 #[.pointer (some ⟨rb, 0, none⟩), .int .i64 (d + 1)] w (LPost rb w (until_ (stmt N k) N l z)) := fun l z w h =>
        stmts_any w0 rb (d + 1) (stmt N k) N hN (stmt_less N k) (stmt_small N k) (by omega) (by omega) (fun l w h => stmt_any w0 rb N hN k (d + 1) l 0 w (by omega) (by omega) h) l z w h
      obtain ⟨⟨⟩, l1, z1, hm⟩ : ∃ u l1 z1, must 40 l 0 = ⟨u, l1, z1⟩ := ⟨_, _, _, rfl⟩
      obtain ⟨v, l2, z2, hw⟩ : ∃ v l2 z2, word l1 z1 = ⟨v, l2, z2⟩ := ⟨_, _, _, rfl⟩
      have e : stmt N (k + 1) l 0 = parts (expr N k) (until_ (stmt N k) N) (kindOf v) l2 (if kindOf v = 0 then bad z2 1 else z2) := by
        rw [stmt]
        simp only [if_true, stmtP, hm, hw]
      rw [e, parts_eq]
      have hle := kindOf_le v
      obtain ⟨c, hc⟩ : ∃ c, kindOf v = c := ⟨_, rfl⟩
      rw [hc] at hle ⊢
      have hes := expr_small N k
      have hel := expr_less N k
      have hek := expr_keeps N k
      by_cases h0 : c = 0
      · have e1 : optName c l2 (if c = 0 then bad z2 1 else z2) = ⟨[], l2, bad z2 1⟩ := by simp [optName, h0]
        rw [e1]
        have := stmt_zero w0 rb l d w h (by omega) (by omega) (expr N k) hes hel hek hone hm hw hc h0 rfl
        simpa [restP, h0] using this
      · rw [if_neg h0]
        by_cases h1 : c = 1
        · obtain ⟨nm, l3, z3, hnm⟩ : ∃ nm l3 z3, name l2 z2 = ⟨nm, l3, z3⟩ := ⟨_, _, _, rfl⟩
          have e1 : optName c l2 z2 = ⟨nm, l3, z3⟩ := by simp [optName, h1, hnm]
          rw [e1]
          have := stmt_let w0 rb l d w h (by omega) (by omega) (expr N k) hes hel hek hone hm hw hc h1 hnm rfl
          simpa [restP, h1] using this
        · by_cases h2 : c = 2
          · obtain ⟨nm, l3, z3, hnm⟩ : ∃ nm l3 z3, name l2 z2 = ⟨nm, l3, z3⟩ := ⟨_, _, _, rfl⟩
            have e1 : optName c l2 z2 = ⟨nm, l3, z3⟩ := by simp [optName, h2, hnm]
            rw [e1]
            have := stmt_set w0 rb l d w h (by omega) (by omega) (expr N k) hes hel hek hone hm hw hc h2 hnm rfl
            simpa [restP, h2] using this
          · have e1 : optName c l2 z2 = ⟨[], l2, z2⟩ := by simp [optName, h1, h2]
            rw [e1]
            by_cases h3 : c = 3
            · have := stmt_if w0 rb l d w h (by omega) (by omega) (expr N k) hes hel hek hone (until_ (stmt N k) N) hnest (until_small (stmt_small N k) N) hm hw hc h3 rfl
              rw [h3] at this ⊢
              exact this
            · by_cases h4 : c = 4
              · have := stmt_while w0 rb l d w h (by omega) (by omega) (expr N k) hes hel hek hone (until_ (stmt N k) N) hnest hm hw hc h4 rfl
                simpa [restP, h4] using this
              · have := stmt_plain w0 rb l d w h (by omega) (by omega) (expr N k) hes hel hek hone hm hw hc (by omega) (by omega) rfl
                simpa [restP, h3, h4] using this
    · have e : deepZ d z = z := by simp [deepZ]; omega
      have e2 : stmt N (k + 1) l z = ⟨st0, l, z⟩ := by unfold stmt; rw [if_neg hz]
      rw [e2]
      have := stmt_not rb l z d w h.pr (by rw [e]; exact hz)
      rw [e] at this
      exact this
end Go.Proofs.YtkmdamljhagogaaDoor
