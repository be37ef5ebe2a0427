/- ExprQ; Expr; Stmt; ClosP; Parse; Elem0; RB2. -/
import Derived.Deep.Upon
import Derived.Test.YtpemfikdmkmgbaaDoorPartB10
import Derived.Test.YtpemfikdmkmgbaaDoorPartB14
import Derived.Test.YtpemfikdmkmgbaaDoorPartB11
import Derived.Test.YtpemfikdmkmgbaaDoorPartB12
import Derived.Test.YtpemfikdmkmgbaaDoorPartB13
import Derived.Test.YtpemfikdmkmgbaaDoorPartB9
import Derived.Test.YtpemfikdmkmgbaaDoorPartB1
import Derived.Test.YtpemfikdmkmgbaaDoorPartB2
section
/- An expression in quotes. -/
namespace Go.Proofs.YtpemfikdmkmgbaaDoor
open Go.RowKit

theorem noQ_yes {c : UInt8} (h : noQ c = true) : ¬ (c.toNat : Int) = 39 := u8_no (d := 39) rfl (by simpa [noQ] using h)
theorem noQ_no {c : UInt8} (h : noQ c = false) : c = 39 := by simpa [noQ] using h
theorem XPost.drew {rb : Nat} {w : World} {res : Rd Ex} {e : Ending} {w' : World} (h : XPost ev ExOk rb w res e w') : XPost ev ExOk rb w res e w'.drew := by
  obtain ⟨r, h1, h2, h3, h4⟩ := h
  exact ⟨r, h1, h2.drew, h3.drew, ex_stays _ _ nothing _ _ _ _ h4 (Fr.refl nothing w').drew (fun _ _ => id) (fun _ hk => hk)⟩
set_option maxHeartbeats 1000000 in
set_option maxRecDepth 20000 in
theorem expr_quote (rb : Nat) (l : Bs) (d : Int) (w : World) (h : Pr rb l 0 w) (hl : l.length ≤ 1500) (hd : d ≤ 10) {t : Bs} (hs : skip l = 39 :: t) :
    Calls Tryd.prog 65 #[.pointer (some ⟨rb, 0, none⟩), .int .i64 d] w (XPost ev ExOk rb w (quoted t 0)) := by
  have HD := hide (deep_any rb l 0 d _ (h.fr (fr3 w rb d) (S := nothing) id))
  have hrb := h.lt
  have e0 : deepZ d 0 = 0 := by simp [deepZ]; omega
  rw [e0] at HD
  have htl : t.length + 1 ≤ 1500 := by have := skip_len l; rw [hs] at this; simp at this; omega
  have HS := hide hs
  clear h e0 hs
  have hsz : (bs (39 :: t)).size = t.length + 1 := by rw [bs_size]; rfl
  go_enter Tryd.func65, Tryd.ntmps65
  go_wp2_with (first
    | (go_at_call 64; refine HD.out.mono ?_; rintro e w2 ⟨rfl, hp, hf⟩; have hpk := peek_any rb l 0 w2 hp hl; rw [HS.out, show ((peekC (39 :: t)).toNat : Int) = 39 from rfl] at hpk; have HPK := hide hpk; obtain ⟨b0, b1, -, -, -, -, -, -, -, -, hlt⟩ := boxes hrb hf; have HF := hide hf; clear hp hf hpk)
    | (go_at_call 41; refine HPK.out.mono ?_; rintro e w4 ⟨rfl, hp, hf⟩; have hf4 := HF.out.trans hf; clear b0 b1 hlt; obtain ⟨b0, b1, c0, c1, c2, c3, f0, f1, f2, f3, hlt⟩ := boxes hrb hf4; have s0 := hp.s; have s1 := hp.e; have g0 := hp.f0; have g1 := hp.f1; have hl4 := hp.lt; have HP4 := hide hp; have HF4 := hide hf4; clear hp hf hf4))
  have hrw : ¬ w.heap.size = rb := by omega
  go_loop [6] (fun i => ∃ j : Nat, j ≤ t.length ∧ i = .int .i64 ((1 + j : Nat) : Int) ∧ Hid ((t.take j).all noQ = true)) (fun i => t.length + 1 - (intOf i).toNat)
  case atStart => exact ⟨0, Nat.zero_le _, rfl, rfl⟩
  case round =>
    obtain ⟨j, hj, rfl, hall⟩ := hrel
    have stop : (∀ c, t[j]? = some c → noQ c = false) → t.takeWhile noQ = t.take j ∧ t.dropWhile noQ = t.drop j := while_stop hall.out
    by_cases hjl : j < t.length
    · have hz : ((1 + j : Nat) : Int) < ((bs (39 :: t)).size : Int) := by rw [hsz]; omega
      have hz' : 1 + j < (bs (39 :: t)).size := by rw [hsz]; omega
      generalize hc : (bs (39 :: t))[1 + j]'hz' = c
      have HCK : Hid (t[j] = c) := by
        have h1 : (bs (39 :: t))[1 + j]'hz' = (39 :: t)[1 + j]'(by simp; omega) := rfl
        show t[j] = c
        rw [← hc, h1]
        simp [Nat.add_comm 1 j]
      have HG : Hid (t[j]? = some c) := by show t[j]? = some c; rw [List.getElem?_eq_getElem hjl]; exact congrArg some HCK.out
      cases hw : noQ c with
      | true =>
        have n1 := noQ_yes hw
        have b1 := ne_bne n1
        have HL := hide (all_take hall.out hjl HCK.out hw)
        clear hw stop
        go_wp2
        go_round
        case rel => exact ⟨j + 1, by omega, by go_num, HL⟩
        case measure => simp [intOf]; omega
      | false =>
        have HST := hide (stop (fun c' h' => by rw [HG.out] at h'; cases h'; exact hw))
        have hq := noQ_no hw
        clear stop hw
        subst hq
        have hdj : t.drop j = 39 :: t.drop (j + 1) := by rw [List.drop_eq_getElem_cons hjl, HCK.out]
        have hQ : quoted t 0 = ⟨.mk 2 0 (t.take j) [], t.drop (j + 1), if isWord (t.take j) then 0 else bad 0 2⟩ := by
          unfold quoted
          rw [HST.out.1, HST.out.2, hdj]
        have HW := hide (fun w => isWord_any (t.take j) w (by rw [List.length_take]; omega))
        have hne : ¬ ((1 + j : Nat) : Int) = ((bs (39 :: t)).size : Int) := by omega
        have ee1 : (bs (39 :: t)).extract 1 (1 + j) = bs (t.take j) := by
          rw [bs_extract, bs_list]
          congr 1
          simp only [List.drop_succ_cons, List.drop_zero]
          congr 1
          omega
        have ee2 : ∀ b, t.length + 1 ≤ b → (bs (39 :: t)).extract (1 + j + 1) b = bs (t.drop (j + 1)) := fun b hb => by
          rw [bs_drop (39 :: t) (by simpa using hb)]
          congr 1
          rw [show 1 + j + 1 = (j + 1) + 1 by omega, List.drop_succ_cons]
        have HE2 := hide ee2
        have HQ := hide hQ
        clear hdj HST HG HCK hall hQ ee2
        generalize hv : t.take j = v at *
        cases hq : isWord v with
        | true =>
          rw [hq] at HW HQ
          have HQ2 : Hid (quoted t 0 = ⟨.mk 2 0 v [], t.drop (j + 1), 0⟩) := HQ.out
          clear HQ
          go_wp2_with (first | (go_at_call 70; refine (HW.out _).mono ?_; rintro e w5 ⟨rfl, rfl⟩))
          go_region
          all_goals go_wp2_with (first | (go_at_call 70; refine (HW.out _).mono ?_; rintro e w5 ⟨rfl, rfl⟩))
          all_goals refine bodyPost_ret (v := ev ⟨2, 0, v, nilS⟩) (by simp [results, Tryd.results65, go_sem, c0, c1, c2, c3]) rfl ?_
          all_goals rw [HQ2.out]
          all_goals exact (ex_fin (res := ⟨.mk 2 0 v [], t.drop (j + 1), 0⟩) hrb (HF4.out.setCell (p := ⟨rb, 0, none⟩) (.inl rfl) _) (HP4.out.put' (HE2.out _ (Nat.le_refl _))) (ex_leaf _ _ _ _ _) _ _ _ _).drew
        | false =>
          rw [hq] at HW HQ
          have HQ2 : Hid (quoted t 0 = ⟨.mk 2 0 v [], t.drop (j + 1), bad 0 2⟩) := HQ.out
          clear HQ
          go_wp2_with (first | (go_at_call 70; refine (HW.out _).mono ?_; rintro e w5 ⟨rfl, rfl⟩))
          go_region
          all_goals go_wp2_with (first
            | (go_at_call 70; refine (HW.out _).mono ?_; rintro e w5 ⟨rfl, rfl⟩; have HP6 := hide (HP4.out.put' (HE2.out _ (Nat.le_refl _))).drew; have FF := hide (HF4.out.setCell (p := ⟨rb, 0, none⟩) (.inl rfl) (.string ((bs (39 :: t)).extract (1 + j + 1) (t.length + 1)))).drew)
            | (go_at_call 54; refine (bad_any rb (t.drop (j + 1)) 0 2 _ HP6.out).mono ?_; rintro e w7 ⟨rfl, hp, hf⟩; have hf7 := FF.out.trans hf; clear b0 b1 c0 c1 c2 c3 f0 f1 f2 f3 hlt; obtain ⟨b0, b1, c0, c1, c2, c3, f0, f1, f2, f3, hlt⟩ := boxes hrb hf7; have HP7 := hide hp; have HF7 := hide hf7; clear hp hf hf7))
          all_goals refine bodyPost_ret (v := ev ⟨2, 0, v, nilS⟩) (by simp [results, Tryd.results65, go_sem, c0, c1, c2, c3]) rfl ?_
          all_goals rw [HQ2.out]
          all_goals exact ex_fin (res := ⟨.mk 2 0 v [], t.drop (j + 1), bad 0 2⟩) hrb HF7.out HP7.out (ex_leaf _ _ _ _ _) _ _ _ _
    · have hjt : j = t.length := by omega
      have HST := hide (stop (fun c' h' => by rw [List.getElem?_eq_none (by omega)] at h'; cases h'))
      have HQ : Hid (quoted t 0 = ⟨.mk 2 0 [] [], t, bad 0 8⟩) := by
        show quoted t 0 = _
        unfold quoted
        rw [HST.out.2, List.drop_of_length_le (by omega)]
      clear stop hall HST
      have hz : ¬ ((1 + j : Nat) : Int) < ((bs (39 :: t)).size : Int) := by rw [hsz]; omega
      have hze : ((1 + j : Nat) : Int) = ((bs (39 :: t)).size : Int) := by rw [hsz]; omega
      subst hjt
      clear hz hze
      have ha : (1 : Int) + (t.length : Int) = (t.length : Int) + 1 := by omega
      have HP6 := hide (HP4.out.put' (bs_tail 39 t (Nat.le_refl _))).drew
      have FF := hide (HF4.out.setCell (p := ⟨rb, 0, none⟩) (.inl rfl) (.string ((bs (39 :: t)).extract 1 (t.length + 1)))).drew
      go_wp2_with fail
      go_region
      all_goals go_wp2_with (first
        | (go_at_call 54; refine (bad_any rb t 0 8 _ HP6.out).mono ?_; rintro e w7 ⟨rfl, hp, hf⟩; have hf7 := FF.out.trans hf; clear b0 b1 c0 c1 c2 c3 f0 f1 f2 f3 hlt; obtain ⟨b0, b1, c0, c1, c2, c3, f0, f1, f2, f3, hlt⟩ := boxes hrb hf7; have HP7 := hide hp; have HF7 := hide hf7; clear hp hf hf7))
      all_goals refine bodyPost_ret (v := ev ⟨2, 0, [], nilS⟩) (by simp [results, Tryd.results65, go_sem, c0, c1, c2, c3, bs]) rfl ?_
      all_goals rw [HQ.out]
      all_goals exact ex_fin (res := ⟨.mk 2 0 [] [], t, bad 0 8⟩) hrb HF7.out HP7.out (ex_leaf _ _ _ _ _) _ _ _ _
end Go.Proofs.YtpemfikdmkmgbaaDoor
end
section
/- Expressions. -/
namespace Go.Proofs.YtpemfikdmkmgbaaDoor
open Go.RowKit

theorem single_eq (w0 : World) (rb : Nat) (l : Bs) (d : Int) (w : World) (h : Pw w0 rb l 0 w) (hd : d ≤ 10) (h39 : (skip l).head? ≠ some 39) (h40 : (skip l).head? ≠ some 40) :
    Calls Tryd.prog 65 #[.pointer (some ⟨rb, 0, none⟩), .int .i64 d] w (XPost ev ExOk rb w (single (skip l) 0)) := by
  obtain ⟨v, l', z, hw⟩ : ∃ v l' z, word (skip l) 0 = ⟨v, l', z⟩ := ⟨_, _, _, rfl⟩
  have e : single (skip l) 0 = ⟨wordE v, l', wordEZ v z⟩ := by unfold single; rw [hw]
  rw [e]
  by_cases hA : ∃ n, Lib.atoiAll v = .ok n
  · obtain ⟨n, hA⟩ := hA
    have hn := numOf_ok hA
    by_cases hI : Lib.itoa n = v
    · rw [if_pos hI] at hn
      cases hi : inInt n with
      | true =>
        have e1 : wordE v = .mk 1 n [] [] := by simp [wordE, hn]
        have e2 : wordEZ v z = z := by simp [wordEZ, hn, hi]
        rw [e1, e2]
        exact expr_word_int w0 rb l d w h hd h39 h40 hw hA hI hi
      | false =>
        have e1 : wordE v = .mk 1 n [] [] := by simp [wordE, hn]
        have e2 : wordEZ v z = bad z 3 := by simp [wordEZ, hn, hi]
        rw [e1, e2]
        exact expr_word_big w0 rb l d w h hd h39 h40 hw hA hI hi
    · rw [if_neg hI] at hn
      have e1 : wordE v = .mk 3 0 v [] := by simp [wordE, hn]
      rw [e1]
      cases hi : isName v with
      | true =>
        have e2 : wordEZ v z = z := by simp [wordEZ, hn, hi]
        rw [e2]
        exact expr_word_odd_yes w0 rb l d w h hd h39 h40 hw hA hI hi
      | false =>
        have e2 : wordEZ v z = bad z 7 := by simp [wordEZ, hn, hi]
        rw [e2]
        exact expr_word_odd_no w0 rb l d w h hd h39 h40 hw hA hI hi
  · have hA' : ∀ n, Lib.atoiAll v ≠ .ok n := fun n e => hA ⟨n, e⟩
    have hn := numOf_no hA'
    have e1 : wordE v = .mk 3 0 v [] := by simp [wordE, hn]
    rw [e1]
    cases hi : isName v with
    | true =>
      have e2 : wordEZ v z = z := by simp [wordEZ, hn, hi]
      rw [e2]
      exact expr_word_name_yes w0 rb l d w h hd h39 h40 hw hA' hi
    | false =>
      have e2 : wordEZ v z = bad z 7 := by simp [wordEZ, hn, hi]
      rw [e2]
      exact expr_word_name_no w0 rb l d w h hd h39 h40 hw hA' hi
/-- Expressions. -/
theorem expr_any (w0 : World) (rb N : Nat) (hN : 1502 ≤ N) : ∀ (k : Nat) (d : Int) (l : Bs) (z : Int) (w : World), d = 11 - (k : Int) → k ≤ 11 → Pw w0 rb l z w →
    Calls Tryd.prog 65 #[.pointer (some ⟨rb, 0, none⟩), .int .i64 d] w (XPost ev ExOk rb w (expr N k l z))
  | 0, d, l, z, w, hd, _, h => by
    have e : deepZ d z = bad z 9 := by simp [deepZ]; omega
    have := expr_not rb l z d w h.pr (by rw [e]; exact bad_ne _ _ (by decide))
    rw [e] at this
    exact this
  | k + 1, d, l, z, w, hd, hk, h => by
    by_cases hz : z = 0
    · subst hz
      cases hs : skip l with
      | nil =>
        have e : expr N (k + 1) l 0 = single (skip l) 0 := by simp [expr, hs]
        rw [e]
        exact single_eq w0 rb l d w h (by omega) (by rw [hs]; simp) (by rw [hs]; simp)
      | cons c t =>
        by_cases hc : c = 39
        · subst hc
          have e : expr N (k + 1) l 0 = quoted t 0 := by simp [expr, hs]
          rw [e]
          exact expr_quote rb l d w h.pr h.len (by omega) hs
        · by_cases hc2 : c = 40
          · subst hc2
            have e : expr N (k + 1) l 0 = formed (until_ (expr N k) N) t 0 := by simp [expr, hs]
            rw [e]
            exact expr_formed w0 rb l d w h (by omega) (by omega) hs (expr N k) N hN (expr_less N k) (expr_small N k) (fun l w h => expr_any w0 rb N hN k (d + 1) l 0 w (by omega) (by omega) h)
          · have e : expr N (k + 1) l 0 = single (skip l) 0 := by simp [expr, hs, hc, hc2]
            rw [e]
            exact single_eq w0 rb l d w h (by omega) (by rw [hs]; simpa using hc) (by rw [hs]; simpa using hc2)
    · have e : deepZ d z = z := by simp [deepZ]; omega
      have e2 : expr N (k + 1) l z = ⟨ex0, l, z⟩ := by unfold expr; rw [if_neg hz]
      rw [e2]
      have := expr_not rb l z d w h.pr (by rw [e]; exact hz)
      rw [e] at this
      exact this
end Go.Proofs.YtpemfikdmkmgbaaDoor
end
section
/- Statements. -/
namespace Go.Proofs.YtpemfikdmkmgbaaDoor
open Go.RowKit

theorem kindOf_le (v : Bs) : kindOf v ≤ 9 := by
  unfold kindOf
  repeat (split; omega)
  omega
set_option maxHeartbeats 400000 in
set_option maxRecDepth 20000 in
/-- Too deep, or wrong already. -/
theorem stmt_not (rb : Nat) (l : Bs) (z d : Int) (w : World) (h : Pr rb l z w) (hz : deepZ d z ≠ 0) :
    Calls Tryd.prog 58 #[.pointer (some ⟨rb, 0, none⟩), .int .i64 d] w (XPost sv StOk rb w ⟨st0, l, deepZ d z⟩) := by
  have hF1 : Fr nothing w (w.alloc (.cells #[.int .i64 0, .string ⟨#[]⟩, .slice none 0 0, .slice none 0 0, .slice none 0 0] 128)) := (Fr.refl _ w).alloc _
  have HD := hide (deep_any rb l z d _ (h.fr hF1 id))
  have hrb := h.lt
  have hz' : (deepZ d z == 0) = false := by simpa using hz
  rw [hz'] at HD
  clear h hz' hF1
  go_enter Tryd.func58, Tryd.ntmps58
  go_wp2_with (go_at_call 64; refine HD.out.mono ?_; rintro e w2 ⟨rfl, hp, hf⟩; obtain ⟨y0, y1, y2, y3, y4, yf, yl⟩ := (B5.made w (.int .i64 0) (.string ⟨#[]⟩) (.slice none 0 0) (.slice none 0 0) (.slice none 0 0) 128).fr hf (by show ¬ w.heap.size = rb; omega); have yf0 := yf 0; have yf1 := yf 1; have yf2 := yf 2; have yf3 := yf 3; have yf4 := yf 4; have HP := hide hp; have HF := hide hf; clear hp hf yf)
  refine bodyPost_ret (v := sv ⟨0, [], nilS, nilS, nilS⟩) (by simp [results, Tryd.results58, go_sem, y0, y1, y2, y3, y4, bs]) rfl ?_
  exact st_fin (B := w.heap.size + 1) (res := ⟨st0, l, deepZ d z⟩) hrb (((Fr.refl (at_ rb) w).alloc _).trans HF.out) HP.out rfl (by omega) GOk.nil GOk.nil GOk.nil _ _ _ _ _
theorem parts_eq (e : Reader Ex) (nest : Reader (List St)) (k : Nat) (l : Bs) (z : Int) : parts e nest k l z = ⟨.mk k (optName k l z).v (times e (argsOf k) (optName k l z).l (optName k l z).z).v (restP nest k (times e (argsOf k) (optName k l z).l (optName k l z).z).l (times e (argsOf k) (optName k l z).l (optName k l z).z).z).v.1 (restP nest k (times e (argsOf k) (optName k l z).l (optName k l z).z).l (times e (argsOf k) (optName k l z).l (optName k l z).z).z).v.2, (restP nest k (times e (argsOf k) (optName k l z).l (optName k l z).z).l (times e (argsOf k) (optName k l z).l (optName k l z).z).z).l, (restP nest k (times e (argsOf k) (optName k l z).l (optName k l z).z).l (times e (argsOf k) (optName k l z).l (optName k l z).z).z).z⟩ := rfl
/-- Statements. -/
theorem stmt_any (w0 : World) (rb N : Nat) (hN : 1502 ≤ N) : ∀ (k : Nat) (d : Int) (l : Bs) (z : Int) (w : World), d = 11 - (k : Int) → k ≤ 11 → Pw w0 rb l z w →
    Calls Tryd.prog 58 #[.pointer (some ⟨rb, 0, none⟩), .int .i64 d] w (XPost sv StOk rb w (stmt N k l z))
  | 0, d, l, z, w, hd, _, h => by
    have e : deepZ d z = bad z 9 := by simp [deepZ]; omega
    have := stmt_not rb l z d w h.pr (by rw [e]; exact bad_ne _ _ (by decide))
    rw [e] at this
    exact this
  | k + 1, d, l, z, w, hd, hk, h => by
    by_cases hz : z = 0
    · subst hz
      have hone : ∀ l z w, Pw w0 rb l z w → Calls Tryd.prog 65 #[.pointer (some ⟨rb, 0, none⟩), .int .i64 (d + 1)] w (XPost ev ExOk rb w (expr N k l z)) := fun l z w h => expr_any w0 rb N hN k (d + 1) l z w (by omega) (by omega) h
      have hnest : ∀ l z w, Pw w0 rb l z w → Calls Tryd.prog 46 #[.pointer (some ⟨rb, 0, none⟩), .int .i64 (d + 1)] w (LPost rb w (until_ (stmt N k) N l z)) := fun l z w h =>
        stmts_any w0 rb (d + 1) (stmt N k) N hN (stmt_less N k) (stmt_small N k) (by omega) (by omega) (fun l w h => stmt_any w0 rb N hN k (d + 1) l 0 w (by omega) (by omega) h) l z w h
      obtain ⟨⟨⟩, l1, z1, hm⟩ : ∃ u l1 z1, must 40 l 0 = ⟨u, l1, z1⟩ := ⟨_, _, _, rfl⟩
      obtain ⟨v, l2, z2, hw⟩ : ∃ v l2 z2, word l1 z1 = ⟨v, l2, z2⟩ := ⟨_, _, _, rfl⟩
      have e : stmt N (k + 1) l 0 = parts (expr N k) (until_ (stmt N k) N) (kindOf v) l2 (if kindOf v = 0 then bad z2 1 else z2) := by
        rw [stmt]
        simp only [if_true, stmtP, hm, hw]
      rw [e, parts_eq]
      have hle := kindOf_le v
      obtain ⟨c, hc⟩ : ∃ c, kindOf v = c := ⟨_, rfl⟩
      rw [hc] at hle ⊢
      have hes := expr_small N k
      have hel := expr_less N k
      have hek := expr_keeps N k
      by_cases h0 : c = 0
      · have e1 : optName c l2 (if c = 0 then bad z2 1 else z2) = ⟨[], l2, bad z2 1⟩ := by simp [optName, h0]
        rw [e1]
        have := stmt_zero w0 rb l d w h (by omega) (by omega) (expr N k) hes hel hek hone hm hw hc h0 rfl
        simpa [restP, h0] using this
      · rw [if_neg h0]
        by_cases h1 : c = 1
        · obtain ⟨nm, l3, z3, hnm⟩ : ∃ nm l3 z3, name l2 z2 = ⟨nm, l3, z3⟩ := ⟨_, _, _, rfl⟩
          have e1 : optName c l2 z2 = ⟨nm, l3, z3⟩ := by simp [optName, h1, hnm]
          rw [e1]
          have := stmt_let w0 rb l d w h (by omega) (by omega) (expr N k) hes hel hek hone hm hw hc h1 hnm rfl
          simpa [restP, h1] using this
        · by_cases h2 : c = 2
          · obtain ⟨nm, l3, z3, hnm⟩ : ∃ nm l3 z3, name l2 z2 = ⟨nm, l3, z3⟩ := ⟨_, _, _, rfl⟩
            have e1 : optName c l2 z2 = ⟨nm, l3, z3⟩ := by simp [optName, h2, hnm]
            rw [e1]
            have := stmt_set w0 rb l d w h (by omega) (by omega) (expr N k) hes hel hek hone hm hw hc h2 hnm rfl
            simpa [restP, h2] using this
          · have e1 : optName c l2 z2 = ⟨[], l2, z2⟩ := by simp [optName, h1, h2]
            rw [e1]
            by_cases h3 : c = 3
            · have := stmt_if w0 rb l d w h (by omega) (by omega) (expr N k) hes hel hek hone (until_ (stmt N k) N) hnest (until_small (stmt_small N k) N) hm hw hc h3 rfl
              rw [h3] at this ⊢
              exact this
            · by_cases h4 : c = 4
              · have := stmt_while w0 rb l d w h (by omega) (by omega) (expr N k) hes hel hek hone (until_ (stmt N k) N) hnest hm hw hc h4 rfl
                simpa [restP, h4] using this
              · have := stmt_plain w0 rb l d w h (by omega) (by omega) (expr N k) hes hel hek hone hm hw hc (by omega) (by omega) rfl
                simpa [restP, h3, h4] using this
    · have e : deepZ d z = z := by simp [deepZ]; omega
      have e2 : stmt N (k + 1) l z = ⟨st0, l, z⟩ := by unfold stmt; rw [if_neg hz]
      rw [e2]
      have := stmt_not rb l z d w h.pr (by rw [e]; exact hz)
      rw [e] at this
      exact this
end Go.Proofs.YtpemfikdmkmgbaaDoor
end
section
/- Names, gathered one by one. -/
namespace Go.Proofs.YtpemfikdmkmgbaaDoor
open Go.RowKit

theorem sizeNm : (Tryd.prog.info? 9).map (fun i => (i.zero, i.size, i.bytes)) = some (some (.string ⟨#[]⟩), 1, 16) := by kernel_rfl
--WALK
set_option maxHeartbeats 1000000 in
set_option maxRecDepth 20000 in
theorem clP (w0 : World) (rb : Nat) (w1 : World) (bp bx : Nat) (acc : List Bs) (l : Bs) (w : World)
    (hcp : w1.cell? ⟨bp, 0, none⟩ = some (.pointer (some ⟨rb, 0, none⟩))) (hbx : bx < w1.heap.size) (hrb : rb < w1.heap.size)
    (hne : bp ≠ rb ∧ bp ≠ bx ∧ bx ≠ rb) (hw0 : w0.heap.size ≤ bx ∧ w0.heap.size ≤ w1.heap.size) (hfz : w1.frozen? ⟨bx, 1, none⟩ = false)
    (hJ : JL w0 rb 9 1 encN NmOk w1 bx 1 acc l 0 w) :
    Calls Tryd.prog 45 #[.pointer (some ⟨bx, 0, none⟩), .pointer (some ⟨bp, 0, none⟩)] w fun e w' => e = .returned (.tuple #[]) ∧ JL w0 rb 9 1 encN NmOk w1 bx 1 (acc ++ [(name l 0).v]) (name l 0).l (name l 0).z w' := by
  obtain ⟨⟨va, vn, vc⟩, hx3, hrow⟩ := hJ.row
  obtain rfl : vn = acc.length := by
    obtain ⟨a, c, h⟩ := hrow.shape
    cases h; rfl
  have hlbp : bp < w1.heap.size := lt_of_cell hcp
  have a1 : w.cell? ⟨bp, 0, none⟩ = some (.pointer (some ⟨rb, 0, none⟩)) := (hJ.fr.cell (p := ⟨bp, 0, none⟩) hlbp (by show ¬ (bp = rb ∨ bp = bx); omega)).trans hcp
  have hsz1 := hJ.fr.size
  have l1 : bp < w.heap.size := by omega
  have l3 : bx < w.heap.size := by omega
  have fx : w.frozen? ⟨bx, 1, none⟩ = false := (hJ.fz 1).trans hfz
  have hacc : acc.length ≤ 1500 := by have := hJ.le rfl; omega
  have HC := hide (nameR_any rb l 0 w.drew hJ.pw.pr.drew hJ.pw.len)
  have HJ := hide hJ
  have HR := hide hrow
  have HL : Hid ((name l 0).z = 0 → (name l 0).l.length < l.length) := name_less l
  have HSM : Hid ((name l 0).l.length ≤ l.length) := name_small l 0
  clear hJ hcp hrow
  obtain ⟨j0, hj0, hy0, hy1, hy2⟩ := info_parts sizeNm
  have frame : ∀ w', Fr (at_ rb) w w' → w'.cell? ⟨bx, 1, none⟩ = some (.slice va acc.length vc) ∧ w'.cell? ⟨bp, 0, none⟩ = some (.pointer (some ⟨rb, 0, none⟩)) := fun w' hf =>
    ⟨(hf.cell (p := ⟨bx, 1, none⟩) l3 (by show ¬ bx = rb; omega)).trans hx3, (hf.cell (p := ⟨bp, 0, none⟩) l1 (by show ¬ bp = rb; omega)).trans a1⟩
  have HFR := hide frame
  clear frame
  go_enter Tryd.func45, Tryd.ntmps45
  refine wp_region_T (S := fun w' => w'.cell? ⟨bx, 1, none⟩ = some (.slice va acc.length vc) ∧ w'.cell? ⟨bp, 0, none⟩ = some (.pointer (some ⟨rb, 0, none⟩))) (by kernel_rfl) [7] ?_ (fun hHeld => ?_)
  · exact ⟨hx3, a1⟩
  refine wpAnyT_take (i := 0) (oi := { dst := some 2, op := Op.fieldAddr 113 (Operand.tmp 0) 1, type := 0, pos := "ref.go:472", after := #[], guard := none }) (v := ?v1) rfl (by kernel_rfl) (by kernel_rfl) (by kernel_rfl) (by kernel_rfl) (by kernel_rfl) (fun _ _ _ h => h) (Or.inl ⟨by rfl, ?hy1⟩) (by assumption) ?rest1
  case hy1 => (intro w hSw; (try dsimp only at hSw); obtain ⟨hS1, hS2⟩ := hSw; go_simp; try with_reducible rfl)
  try simp only [Act.put, List.setIfInBounds_toArray, List.set_cons_zero, List.set_cons_succ]
  refine wpAnyT_take (i := 1) (oi := { dst := some 3, op := Op.load 23 (Operand.tmp 2), type := 23, pos := "ref.go:472", after := #[{ on := 0, ground := Ground.data }], guard := none }) (v := ?v2) rfl (by kernel_rfl) (by kernel_rfl) (by kernel_rfl) (by kernel_rfl) (by kernel_rfl) (fun _ _ _ h => h) (Or.inl ⟨by rfl, ?hy2⟩) (by assumption) ?rest2
  case hy2 => (intro w hSw; (try dsimp only at hSw); obtain ⟨hS1, hS2⟩ := hSw; go_simp; try with_reducible rfl)
  try simp only [Act.put, List.setIfInBounds_toArray, List.set_cons_zero, List.set_cons_succ]
  refine wpAnyT_take (i := 2) (oi := { dst := some 4, op := Op.load 105 (Operand.tmp 1), type := 105, pos := "ref.go:472", after := #[], guard := none }) (v := ?v3) rfl (by kernel_rfl) (by kernel_rfl) (by kernel_rfl) (by kernel_rfl) (by kernel_rfl) (fun _ _ _ h => h) (Or.inl ⟨by rfl, ?hy3⟩) (by assumption) ?rest3
  case hy3 => (intro w hSw; (try dsimp only at hSw); obtain ⟨hS1, hS2⟩ := hSw; go_simp; try with_reducible rfl)
  try simp only [Act.put, List.setIfInBounds_toArray, List.set_cons_zero, List.set_cons_succ]
  refine wpAnyT_ready (rs := [3]) (by kernel_rfl) (by simp) ?_
  refine AllReadyT.cons (o := { dst := some 5, op := Op.call { callee := Callee.value (Operand.func 43), args := #[Operand.tmp 4], argTypes := #[105] }, type := 9, pos := "ref.go:472", after := #[{ on := 2, ground := Ground.data }], guard := none }) rfl (fun K hK => ?_) AllReadyT.nil
  refine step_call rfl 43 Tryd.f43 #[.tmp 4] #[105] rfl Tryd.func43 (by kernel_rfl) (by kernel_rfl) #[.pointer (some ⟨rb, 0, none⟩)] (by simp [Act.eval]) _ HC.out ?_
  rintro e w2 ⟨rfl, hP2, hF2⟩
  have F2 : Fr (at_ rb) w w2 := ((Fr.refl _ w).drew).trans hF2
  refine ⟨_, rfl, hK.out _ _ (HFR.out _ F2) ?_⟩
  clear hK K hHeld
  have hHeld := HFR.out _ F2
  try simp only [Act.put, List.setIfInBounds_toArray, List.set_cons_zero, List.set_cons_succ]
  refine wpAnyT_ready (rs := [4]) (by kernel_rfl) (by simp) ?_
  refine AllReadyT.cons (o := { dst := some 6, op := Op.buildSlice 23 1 #[(0, Operand.tmp 5)], type := 23, pos := "ref.go:472", after := #[{ on := 3, ground := Ground.data }], guard := none }) rfl (fun K hK => ?_) AllReadyT.nil
  go_simp
  refine hK.out _ _ (HFR.out _ (F2.alloc _)) ?_
  clear hK K hHeld
  have FA : Fr (at_ rb) w (w2.alloc (.cells #[.string (bs (name l 0).v)] 9)) := F2.alloc _
  have hHeld := HFR.out _ FA
  try simp only [Act.put, List.setIfInBounds_toArray, List.set_cons_zero, List.set_cons_succ]
  have PA : Pr rb (name l 0).l (name l 0).z (w2.alloc (.cells #[.string (bs (name l 0).v)] 9)) := hP2.fr ((Fr.refl nothing w2).alloc _) id
  have NW : ∀ j u, ([.string (bs (name l 0).v)] : List Value)[j]? = some u → (w2.alloc (.cells #[.string (bs (name l 0).v)] 9)).cell? ((⟨w2.heap.size, 0, none⟩ : Addr).add j) = some u := World.news_of_block (cs := #[.string (bs (name l 0).v)]) (t := 9) (fr := (0, 0)) (heap_new _ _)
  have PW : Pw w0 rb (name l 0).l (name l 0).z (w2.alloc (.cells #[.string (bs (name l 0).v)] 9)) := HJ.out.pw.of PA HSM.out FA
  obtain ⟨rs, hown, hbase, heach⟩ := HR.out
  have hownA : (w2.alloc (.cells #[.string (bs (name l 0).v)] 9)).ownsRow w1.heap.size 9 1 (.slice va acc.length vc) acc.length (rs.flatMap encN) := owns_fr hown FA (fun k hk e => by have := (hown.lt k hk).1; have : k = rb := e; omega)
  have hbA : w1.heap.size ≤ (w2.alloc (.cells #[.string (bs (name l 0).v)] 9)).heap.size := Nat.le_trans hsz1 FA.size
  have OF := owns_far hownA (b := bx) hbx
  have gx : bx < (w2.alloc (.cells #[.string (bs (name l 0).v)] 9)).heap.size := by omega
  have fxA : (w2.alloc (.cells #[.string (bs (name l 0).v)] 9)).frozen? ⟨bx, 1, none⟩ = false := (FA.frozen (p := ⟨bx, 1, none⟩) l3 (by show ¬ bx = rb; omega)).trans fx
  have HOA := hide hownA
  have HPW := hide PW
  have HFA := hide FA
  clear heach hown hownA PW FA PA
  refine wpAnyT_ready (rs := [5]) (by kernel_rfl) (by simp) ?_
  refine AllReadyT.cons (o := { dst := some 7, op := Op.call { callee := Callee.builtin Builtin.append, args := #[Operand.tmp 3, Operand.tmp 6], argTypes := #[23, 23] }, type := 23, pos := "ref.go:472", after := #[{ on := 1, ground := Ground.data }, { on := 4, ground := Ground.data }, { on := 3, ground := Ground.chain }], guard := none }) rfl (fun K hK => ?_) AllReadyT.nil
  refine step_append_lies _ (by rfl) (.tmp 3) (.tmp 6) 23 (by rfl) w1.heap.size 9 j0 _ 1 16 Tryd.underlying23 hj0 hy0 hy1 hy2 rfl (by decide) (.slice va acc.length vc) acc.length _ (by simp [Act.eval]) HOA.out ⟨w2.heap.size, 0, none⟩ 1 1 [.string (bs (name l 0).v)] (by simp [Act.eval]) rfl NW (by simp [Value.oneCell']) (by decide) (by unfold maxLen; omega) (by omega) hbA _ rfl ?_
  intro g cp w6 hr6 hg6 hat6 hlt6
  have k3 : w6.cell? ⟨bx, 1, none⟩ = some (.slice va acc.length vc) := (hg6.cell_far ⟨bx, 1, none⟩ gx OF).trans hHeld.1
  have kz : w6.frozen? ⟨bx, 1, none⟩ = false := (hg6.frozen_far ⟨bx, 1, none⟩ gx OF).trans fxA
  have k6 : bx < w6.heap.size := by have := hg6.size; omega
  have k4 : w6.cell? ⟨bp, 0, none⟩ = some (.pointer (some ⟨rb, 0, none⟩)) := (hg6.cell_far ⟨bp, 0, none⟩ (by show bp < _; omega) (owns_far HOA.out (b := bp) hlbp)).trans hHeld.2
  have HR6 := hide hr6
  have HG6 := hide hg6
  have HAT := hide hat6
  clear hr6 hg6 hat6 NW
  refine hK.out _ _ ⟨k3, k4⟩ ?_
  clear hK K hHeld
  have hHeld : w6.cell? ⟨bx, 1, none⟩ = some (.slice va acc.length vc) ∧ w6.cell? ⟨bp, 0, none⟩ = some (.pointer (some ⟨rb, 0, none⟩)) := ⟨k3, k4⟩
  try simp only [Act.put, List.setIfInBounds_toArray, List.set_cons_zero, List.set_cons_succ]
  refine wpAnyT_take (i := 6) (oi := { dst := some 8, op := Op.fieldAddr 113 (Operand.tmp 0) 1, type := 0, pos := "ref.go:472", after := #[{ on := 0, ground := Ground.phase }, { on := 1, ground := Ground.phase }, { on := 2, ground := Ground.phase }, { on := 3, ground := Ground.phase }, { on := 4, ground := Ground.phase }, { on := 5, ground := Ground.phase }], guard := none }) (v := ?v4) rfl (by kernel_rfl) (by kernel_rfl) (by kernel_rfl) (by kernel_rfl) (by kernel_rfl) (fun _ _ _ h => h) (Or.inl ⟨by rfl, ?hy4⟩) (by assumption) ?rest4
  case hy4 => (intro w hSw; (try dsimp only at hSw); obtain ⟨hS1, hS2⟩ := hSw; go_simp; try with_reducible rfl)
  try simp only [Act.put, List.setIfInBounds_toArray, List.set_cons_zero, List.set_cons_succ]
  refine wpAnyT_ready (rs := [7]) (by kernel_rfl) (by simp) ?_
  refine AllReadyT.last (o := { dst := none, op := Op.store 23 (Operand.tmp 8) (Operand.tmp 7), type := 0, pos := "ref.go:472", after := #[{ on := 6, ground := Ground.data }, { on := 5, ground := Ground.data }, { on := 5, ground := Ground.chain }, { on := 0, ground := Ground.phase }, { on := 1, ground := Ground.phase }, { on := 2, ground := Ground.phase }, { on := 3, ground := Ground.phase }, { on := 4, ground := Ground.phase }, { on := 5, ground := Ground.phase }], guard := none }) rfl (by kernel_rfl) (fun K hK => ?_) AllReadyT.nil
  go_simp
  refine hK.out _ _ ?_
  clear hK K
  try simp only [Act.put, List.setIfInBounds_toArray, List.set_cons_zero, List.set_cons_succ]
  refine wpAny_done (by kernel_rfl) ?_ _
  go_end0
  refine ⟨rfl, ?_⟩
  exact JL.push nm_stays encN_len hbx hrb hne.2.2 hw0 (r := (name l 0).v) (us := [.string (bs (name l 0).v)]) HJ.out HR.out HFA.out HPW.out rfl HL.out HOA.out HR6.out HG6.out HAT.out (Nat.le_refl _) rfl rfl k3 (.inr (.inr ⟨rfl, rfl⟩))
end Go.Proofs.YtpemfikdmkmgbaaDoor
end
section
/- Programs as texts. -/
namespace Go.Proofs.YtpemfikdmkmgbaaDoor
open Go.RowKit

/-- A function whose list of names has room for them. -/
def FnOk2 (w : World) (P : Nat → Prop) (r : RawF) (f : Fn) : Prop := FnOk w P r f ∧ r.p.n ≤ r.p.c
theorem fn_stays2 : Stays FnOk2 := fun _ _ _ _ _ r x h hf hp hq => ⟨fn_stays _ _ _ _ _ r x h.1 hf hp hq, h.2⟩
theorem row_cap {ρ α : Type} {E sz : Nat} {enc : ρ → List Value} {ok : World → (Nat → Prop) → ρ → α → Prop} {base : Nat} {s : Slc} {l : List α} {w : World} (h : Row E sz enc ok base s.v l w) : s.n ≤ s.c := by
  obtain ⟨rs, ⟨_, h1⟩, _⟩ := h
  rcases h1 with ⟨h1, _⟩ | ⟨g, cap, cur, h1, _, _, h2, _⟩
  · simp only [Slc.v, Value.slice.injEq] at h1
    omega
  · simp only [Slc.v, Value.slice.injEq] at h1
    omega
def finP (q : Rd (List Fn)) : List Fn × Int := if q.z = 0 then (q.v, 0) else ([], q.z)
/-- What a text's functions are, or what is wrong. -/
def refParse (N n : Nat) (s : Bs) : List Fn × Int :=
  if 1500 < s.length then ([], 4) else finP (fnsP N n s 0)
def PPost (w : World) (res : List Fn × Int) (e : Ending) (w' : World) : Prop :=
  ∃ s : Slc, e = .returned (.tuple #[.slice s.a s.n s.c, .int .i64 res.2]) ∧ Fr nothing w w' ∧ s.n = res.1.length ∧ ∃ rs, Sl encG 3 w' s.v rs ∧ Each (FnOk2 w' (fun k => k < w'.heap.size)) rs res.1
theorem ppost_nil {w w' : World} (z : Int) (hf : Fr nothing w w') : PPost w ([], z) (.returned (.tuple #[.slice none 0 0, .int .i64 z])) w' :=
  ⟨nilS, rfl, hf, rfl, [], ⟨none, 0, rfl, by unfold maxLen; simp, fun i x h => by simp at h⟩, rfl, fun i r x h => by simp at h⟩
theorem sizeFn : (Tryd.prog.info? 113).map (fun i => (i.zero, i.size, i.bytes)) = some (some (.agg #[.string ⟨#[]⟩, .slice none 0 0, .slice none 0 0]), 3, 64) := by kernel_rfl
/-- A block of three cells. -/
structure B3 (b : Nat) (v0 v1 v2 : Value) (w : World) : Prop where
  c0 : w.cell? ⟨b, 0, none⟩ = some v0
  c1 : w.cell? ⟨b, 1, none⟩ = some v1
  c2 : w.cell? ⟨b, 2, none⟩ = some v2
  f : ∀ j, w.frozen? ⟨b, j, none⟩ = false
  lt : b < w.heap.size
theorem B3.fr {b : Nat} {v0 v1 v2 : Value} {w w' : World} {S : Nat → Prop} (h : B3 b v0 v1 v2 w) (hf : Fr S w w') (hs : ¬ S b) : B3 b v0 v1 v2 w' :=
  ⟨(hf.cell (p := ⟨b, 0, none⟩) h.lt hs).trans h.c0, (hf.cell (p := ⟨b, 1, none⟩) h.lt hs).trans h.c1, (hf.cell (p := ⟨b, 2, none⟩) h.lt hs).trans h.c2, fun j => (hf.frozen (p := ⟨b, j, none⟩) h.lt hs).trans (h.f j), Nat.lt_of_lt_of_le h.lt hf.size⟩
theorem B3.made (w : World) (v0 v1 v2 : Value) (t : TypeId) : B3 w.heap.size v0 v1 v2 (w.alloc (.cells #[v0, v1, v2] t)) := by
  have hn := made_cells (Fr.refl nothing (w.alloc (.cells #[v0, v1, v2] t))) id
  exact ⟨hn.1 0, hn.1 1, hn.1 2, hn.2.1, hn.2.2⟩
theorem each_names {w : World} {P : Nat → Prop} {rs xs : List Bs} (h : Each (NmOk w P) rs xs) : rs = xs := by
  apply List.ext_getElem? 
  intro i
  rcases Nat.lt_or_ge i rs.length with hi | hi
  · have h1 : rs[i]? = some rs[i] := List.getElem?_eq_getElem hi
    have h2 : xs[i]? = some (xs[i]'(h.1 ▸ hi)) := List.getElem?_eq_getElem _
    have := h.2 i _ _ h1 h2
    rw [h1, h2]
    exact congrArg some this
  · rw [List.getElem?_eq_none hi, List.getElem?_eq_none (h.1 ▸ hi)]
theorem fn_ok {w wu wv : World} {rb bf B : Nat} {nm : Bs} {ps : List Bs} {bd : List St} {w0 : World} {wm : World} {l : Bs} {z : Int} {sp st : Slc} (hJ : JL w0 rb 9 1 encN NmOk wm bf 1 ps l z wu) (hsp : wu.cell? ⟨bf, 1, none⟩ = some sp.v) (hF : Fr (at_ rb) wu wv)
    (hrb : rb < B) (hB : B ≤ wm.heap.size) (hbf : bf < wm.heap.size) (hL : GOk encS 5 StOk wu.heap.size wv st bd) (hw : Fr (fun k => k = bf) wv w) : FnOk2 w (fun k => B ≤ k ∧ k < w.heap.size) ⟨nm, sp, st⟩ ⟨nm, ps, bd⟩ := by
  obtain ⟨s', h1, h2⟩ := hJ.row
  have hsz := hJ.fr.size
  obtain rfl : s' = sp := by
    rw [h1] at hsp
    have e := Option.some.inj hsp
    obtain ⟨a, b, c⟩ := s'
    obtain ⟨a', b', c'⟩ := sp
    simp only [Value.slice.injEq] at e
    obtain ⟨rfl, rfl, rfl⟩ := e
    rfl
  have hcap := row_cap h2
  obtain ⟨rs, k1, k2, k3⟩ := h2.done nm_stays encN_len (B := wm.heap.size) (Nat.le_refl _)
  have hrs := each_names k3
  subst hrs
  have hG : GOk encN 1 NmOk wm.heap.size wu s' rs := ⟨rs, k1, k2, k3⟩
  obtain ⟨rs2, g1, g2, g3⟩ := ((hG.fr nm_stays hF (fun k e => by have : k = rb := e; omega)).fr nm_stays hw (fun k e => by omega)).since nm_stays hB
  have hrs2 := each_names g3
  subst hrs2
  have hsz2 := hF.size
  obtain ⟨rs3, q1, q2, q3⟩ := (hL.fr st_stays hw (fun k e => by omega)).since st_stays (B' := B) (by omega)
  exact ⟨⟨rfl, g1, g2, ⟨rs3, q1, q3⟩, q2⟩, hcap⟩
theorem fns_end (N : Nat) {m : Nat} (hm : 0 < m) {l : Bs} (hs : skip l = []) : fnsP N m l 0 = ⟨[], [], 0⟩ := by
  obtain ⟨k, rfl⟩ : ∃ k, m = k + 1 := ⟨m - 1, by omega⟩
  simp [fnsP, hs]
theorem fns_bad (N : Nat) {m : Nat} (l : Bs) {z : Int} (hz : z ≠ 0) : fnsP N m l z = ⟨[], l, z⟩ := by
  cases m with
  | zero => rfl
  | succ k => simp [fnsP, hz]
theorem fns_more (N k : Nat) {l : Bs} (hs : skip l ≠ []) : fnsP N (k + 1) l 0 = (fnsP N k (fn N (skip l) 0).l (fn N (skip l) 0).z).after [(fn N (skip l) 0).v] := by
  rw [fnsP]
  have : (skip l).isEmpty = false := by cases hk : skip l with
    | nil => exact absurd hk hs
    | cons a b => rfl
  simp only [if_true, this, Bool.false_eq_true, if_false]
  rfl
theorem peek_some {l : Bs} (h : l ≠ []) : ¬ ((peekC l).toNat : Int) = 0 := by
  cases l with
  | nil => exact absurd rfl h
  | cons c t =>
    intro e
    have e1 : (peekC (c :: t)).toNat = (0 : UInt8).toNat := by
      have : ((0 : UInt8).toNat : Int) = 0 := rfl
      omega
    exact peekC_ne (UInt8.toNat_inj.1 e1)
set_option maxHeartbeats 400000 in
theorem parse_long (s : Bs) (N n : Nat) (w : World) (hs : 1500 < s.length) (hmax : s.length ≤ 9223372036854775807) :
    Calls Tryd.prog 28 #[.string (bs s)] w (PPost w (refParse N n s)) := by
  have e : refParse N n s = ([], 4) := by simp [refParse, hs]
  rw [e]
  have hsz := bs_size s
  have h1 : (1500 : Int) < ((bs s).size : Int) := by rw [hsz]; omega
  clear e
  go_enter Tryd.func28, Tryd.ntmps28
  go_wp2
  go_ret2
  exact ppost_nil 4 (Fr.refl _ _)
theorem stmts0 (w0 : World) (rb N : Nat) (hN : 1502 ≤ N) (l : Bs) (z : Int) (w : World) (h : Pw w0 rb l z w) : Calls Tryd.prog 46 #[.pointer (some ⟨rb, 0, none⟩), .int .i64 0] w (LPost rb w (until_ (stmt N 11) N l z)) :=
  stmts_any w0 rb 0 (stmt N 11) N hN (stmt_less N 11) (stmt_small N 11) (by omega) (by omega) (fun l1 w1 h1 => stmt_any w0 rb N hN 11 0 l1 0 w1 (by omega) (by omega) h1) l z w h
set_option maxHeartbeats 1000000 in
set_option maxRecDepth 20000 in
theorem parse_short (s : Bs) (N n : Nat) (w : World) (hE : Er w) (hT : Tab w) (hs : s.length ≤ 1500) (hN : 1502 ≤ N) (hn : 1502 ≤ n) :
    Calls Tryd.prog 28 #[.string (bs s)] w (PPost w (refParse N n s)) := by
  have e : refParse N n s = finP (fnsP N n s 0) := by
    have : ¬ 1500 < s.length := by omega
    simp [refParse, this]
  rw [e]
  clear e
  have hsz := bs_size s
  have h1 : ¬ (1500 : Int) < ((bs s).size : Int) := by rw [hsz]; omega
  have h1' : ¬ (1500 : Int) < (s.length : Int) := by omega
  have hw1 : ∃ w1 : World, w1 = (w.alloc (.cells #[.string (bs s), .int .i64 0] 107)).alloc (.cells #[.pointer (some ⟨w.heap.size, 0, none⟩)] 105) := ⟨_, rfl⟩
  obtain ⟨w1, hw1⟩ := hw1
  have hFw : Fr nothing w w1 := by rw [hw1]; exact ((Fr.refl _ w).alloc _).alloc _
  have hs1 : w1.heap.size = w.heap.size + 1 + 1 := by rw [hw1]; simp
  have hP1 : Pw w w.heap.size s 0 w1 := by
    have hn := made_cells (Fr.refl nothing (w.alloc (.cells #[.string (bs s), .int .i64 0] 107))) id
    have hp : Pr w.heap.size s 0 (w.alloc (.cells #[.string (bs s), .int .i64 0] 107)) := ⟨hn.1 0, hn.1 1, hn.2.1 0, hn.2.1 1, hn.2.2⟩
    refine ⟨?_, hs, hFw.below (Nat.le_refl _) (fun k _ e => e), Nat.le_refl _, hT, hE⟩
    rw [hw1]
    exact hp.fr ((Fr.refl nothing _).alloc _) id
  have hbp : w1.cell? ⟨w.heap.size + 1, 0, none⟩ = some (.pointer (some ⟨w.heap.size, 0, none⟩)) := by
    rw [hw1, show w.heap.size + 1 = (w.alloc (.cells #[.string (bs s), .int .i64 0] 107)).heap.size by simp, World.cell?_alloc_new]
    rfl
  have HW1 := hide hw1
  have HFW := hide hFw
  have HP1 := hide hP1
  have HBP := hide hbp
  clear hw1 hFw hP1 hE hT hbp
  obtain ⟨j0, hj0, hy0, hy1, hy2⟩ := info_parts sizeFn
  go_enter Tryd.func28, Tryd.ntmps28
  go_wp2
  go_loopw [5] (fun v wr => ∃ (m : Nat) (ac : List Fn) (q : Bs) (zq : Int) (va : Option Addr) (vc : Nat), v = .slice va ac.length vc ∧ 0 < m ∧ Hid ((zq = 0 → q.length + 1 < m ∧ ac.length + q.length ≤ 1500) ∧ Pw w w.heap.size q zq wr ∧ Fr (at_ w.heap.size) w1 wr ∧ Row 113 3 encG FnOk2 w1.heap.size (.slice va ac.length vc) ac wr ∧ fnsP N n s 0 = (fnsP N m q zq).after ac)) (fun _ wr => leftOf wr w.heap.size)
  case atStart =>
    refine ⟨n, [], s, 0, none, 0, rfl, by omega, ?_⟩
    rw [← HW1.out]
    exact ⟨fun _ => ⟨by omega, by simpa using hs⟩, HP1.out, Fr.refl _ _, Row.nil _ (Nat.le_refl _), (after_nil _).symm⟩
  case round =>
    obtain ⟨m, ac, q, zq, va, vc, rfl, hm0, hR⟩ := hrel
    obtain ⟨hle, hPq, hFq, hrow, hfns⟩ := hR.out
    have hbpr : wr.cell? ⟨w.heap.size + 1, 0, none⟩ = some (.pointer (some ⟨w.heap.size, 0, none⟩)) := (hFq.cell (p := ⟨w.heap.size + 1, 0, none⟩) (by show w.heap.size + 1 < _; omega) (by show ¬ w.heap.size + 1 = w.heap.size; omega)).trans HBP.out
    have hszr := hFq.size
    have hbl : w.heap.size + 1 < wr.heap.size := by omega
    have hc1 := hPq.pr.e
    have hrl := hPq.pr.lt
    have HFQ := hide hFq
    by_cases hz : zq = 0
    · subst hz
      obtain ⟨hle1, hle2⟩ := hle rfl
      have HPK := hide (peek_any w.heap.size q 0 wr hPq.pr hPq.len)
      cases hsk : skip q with
      | nil =>
        rw [hsk, show ((peekC []).toNat : Int) = 0 from rfl] at HPK
        have hres : fnsP N n s 0 = ⟨ac, [], 0⟩ := by rw [hfns, fns_end N hm0 hsk]; simp [Rd.after]
        have HRES := hide hres
        have HROW := hide hrow
        clear hR hPq hFq hrow hfns hle hres
        go_wp2_with (go_at_call 41; refine HPK.out.mono ?_; rintro e w2 ⟨rfl, hp, hf⟩; have hbp2 := (hf.cell (p := ⟨w.heap.size + 1, 0, none⟩) hbl (by show ¬ w.heap.size + 1 = w.heap.size; omega)).trans hbpr; have hbl2 : w.heap.size + 1 < w2.heap.size := (Nat.lt_of_lt_of_le hbl hf.size); have hc2 := hp.e; have hrl2 := hp.lt; have HF2 := hide hf; clear hp hf)
        go_ret2
        rw [HRES.out]
        obtain ⟨rs, k1, k2, k3⟩ := (HROW.out.fr fn_stays2 HF2.out (fun k e => by have : k = w.heap.size := e; omega)).done fn_stays2 encG_len (B := 0) (Nat.zero_le _)
        refine ⟨⟨va, ac.length, vc⟩, rfl, (HFW.out.then HFQ.out (fun j hj e => by have : j = w.heap.size := e; omega)).then HF2.out (fun j hj e => by have : j = w.heap.size := e; omega), rfl, rs, k1, k3.1, fun i r x h1 h2 => fn_stays2 _ _ nothing _ _ r x (k3.2 i r x h1 h2) (Fr.refl _ _) (fun _ _ => id) (fun _ hk => hk.2)⟩
      | cons c0 t0 =>
        have hskne : skip q ≠ [] := by rw [hsk]; simp
        obtain ⟨m, rfl⟩ : ∃ k, m = k + 1 := ⟨m - 1, by omega⟩
        have HMO := hide (fns_more N m hskne)
        have n0 := peek_some hskne
        have b0 := ne_bne n0
        have hkl := skip_len q
        clear hsk
        obtain ⟨a1, ha1⟩ : ∃ a, must 40 (skip q) 0 = a := ⟨_, rfl⟩
        obtain ⟨t1, ht1⟩ : ∃ a, name a1.l a1.z = a := ⟨_, rfl⟩
        obtain ⟨a2, ha2⟩ : ∃ a, must 40 t1.l t1.z = a := ⟨_, rfl⟩
        obtain ⟨p1, hp1⟩ : ∃ a, until_ name N a2.l a2.z = a := ⟨_, rfl⟩
        obtain ⟨s1, hs1'⟩ : ∃ a, until_ (stmt N 11) N p1.l p1.z = a := ⟨_, rfl⟩
        have hfn : fn N (skip q) 0 = ⟨⟨t1.v, p1.v, s1.v⟩, s1.l, s1.z⟩ := by
          unfold fn
          simp only [ha1, ht1, ha2, hp1, hs1']
        have hql := hPq.len
        have g1 : a1.l.length ≤ (skip q).length := ha1 ▸ must_small 40 (skip q) 0
        have g2 : t1.l.length ≤ a1.l.length := ht1 ▸ name_small a1.l a1.z
        have g3 : a2.l.length ≤ t1.l.length := ha2 ▸ must_small 40 t1.l t1.z
        have g4 : p1.l.length ≤ a2.l.length := hp1 ▸ until_small name_small N a2.l a2.z
        have g5 : s1.l.length ≤ p1.l.length := hs1' ▸ until_small (stmt_small N 11) N p1.l p1.z
        have g6 : s1.z = 0 → s1.l.length < (skip q).length := fun h0 => by
          have := fn_less N (skip q) (by rw [hfn]; exact h0)
          rw [hfn] at this
          exact this
        rw [hfn] at HMO
        have M1 : Hid (∀ w', Pr w.heap.size (skip q) 0 w' → Calls Tryd.prog 42 #[.pointer (some ⟨w.heap.size, 0, none⟩), .int .u8 40] w' fun r w'' => r = .returned (.tuple #[]) ∧ Pr w.heap.size a1.l a1.z w'' ∧ Fr (at_ w.heap.size) w' w'') := fun w' hp => ha1 ▸ must_any w.heap.size (skip q) 0 40 w' hp (by omega) (by decide)
        have NM : Hid (∀ w', Pr w.heap.size a1.l a1.z w' → Calls Tryd.prog 43 #[.pointer (some ⟨w.heap.size, 0, none⟩)] w' fun e w'' => e = .returned (.string (bs t1.v)) ∧ Pr w.heap.size t1.l t1.z w'' ∧ Fr (at_ w.heap.size) w' w'') := fun w' hp => ht1 ▸ nameR_any w.heap.size a1.l a1.z w' hp (by omega)
        have M2 : Hid (∀ w', Pr w.heap.size t1.l t1.z w' → Calls Tryd.prog 42 #[.pointer (some ⟨w.heap.size, 0, none⟩), .int .u8 40] w' fun r w'' => r = .returned (.tuple #[]) ∧ Pr w.heap.size a2.l a2.z w'' ∧ Fr (at_ w.heap.size) w' w'') := fun w' hp => ha2 ▸ must_any w.heap.size t1.l t1.z 40 w' hp (by omega) (by decide)
        have UP : Hid (∀ wm bf, Pw w w.heap.size a2.l a2.z wm → B3 bf (.string (bs t1.v)) (.slice none 0 0) (.slice none 0 0) wm → wm.cell? ⟨w.heap.size + 1, 0, none⟩ = some (.pointer (some ⟨w.heap.size, 0, none⟩)) → w.heap.size + 1 < bf → Calls Tryd.prog 44 #[.pointer (some ⟨w.heap.size, 0, none⟩), .func (.func 45) #[] #[.pointer (some ⟨bf, 0, none⟩), .pointer (some ⟨w.heap.size + 1, 0, none⟩)]] wm
            fun e w' => e = .returned (.tuple #[]) ∧ JL w w.heap.size 9 1 encN NmOk wm bf 1 p1.v p1.l p1.z w') := fun wm bf hp hb hc hlt => by
          have hJ0 : JL w w.heap.size 9 1 encN NmOk wm bf 1 [] a2.l a2.z wm :=
            { pw := hp, fr := Fr.refl _ _, fz := fun _ => rfl, old := fun _ _ => rfl, le := fun _ => by have := hp.len; simpa using this, row := ⟨nilS, hb.c1, Row.nil _ (Nat.le_refl _)⟩ }
          have := until_P w.heap.size _ _ name (JL w w.heap.size 9 1 encN NmOk wm bf 1) name_less name_small (fun acc l z w h => ⟨h.pw.pr, h.pw.len⟩)
            (fun acc l l' z z' w' w'' h hp' hl hz hf => h.move nm_stays hb.lt hp.pr.lt (by omega) hp' hl hz hf)
            (fun acc l w' h => clP w w.heap.size wm (w.heap.size + 1) bf acc l w' hc hb.lt hp.pr.lt ⟨by omega, by omega, by omega⟩ ⟨by omega, hp.bel.size⟩ (hb.f 1) h)
            N [] a2.l a2.z wm hJ0 (by omega) (fun _ => by have := hp.len; omega)
          rw [hp1] at this
          exact this
        have SS : Hid (∀ w', Pw w w.heap.size p1.l p1.z w' → Calls Tryd.prog 46 #[.pointer (some ⟨w.heap.size, 0, none⟩), .int .i64 0] w' (LPost w.heap.size w' s1)) := fun w' hp => by
          have := stmts0 w w.heap.size N hN p1.l p1.z w' hp
          rw [hs1'] at this
          exact this
        have HPQ := hide hPq
        have HROW := hide hrow
        have HFNS := hide hfns
        clear hR hPq hFq hrow hfns hle ha1 ht1 ha2 hp1 hs1' hfn
        go_wp2_with (first
          | (go_at_call 41; refine HPK.out.mono ?_; rintro e w2 ⟨rfl, hp, hf⟩; have hbp2 := (hf.cell (p := ⟨w.heap.size + 1, 0, none⟩) hbl (by show ¬ w.heap.size + 1 = w.heap.size; omega)).trans hbpr; have hbl2 : w.heap.size + 1 < w2.heap.size := (Nat.lt_of_lt_of_le hbl hf.size); have HP2 := hide hp; have HF2 := hide hf; clear hp hf hbpr)
          | (go_at_call 42; first
              | (refine (M2.out _ HP5.out).mono ?_; rintro e w6 ⟨rfl, hp, hf⟩; have hbp6 := (hf.cell (p := ⟨w.heap.size + 1, 0, none⟩) (by show w.heap.size + 1 < _; omega) (by show ¬ w.heap.size + 1 = w.heap.size; omega)).trans hbp5; have hbl6 : w.heap.size + 1 < w6.heap.size := (Nat.lt_of_lt_of_le hbl5 hf.size); have HF6 := hide (HF5.out.trans hf); have HB6 := hide (HB5.out.fr hf (by show ¬ w4.heap.size = w.heap.size; omega)); have PW6 := hide (HPQ.out.of hp (by omega) HF6.out); clear hp hf hbp5)
              | (refine (M1.out _ HP2.out).mono ?_; rintro e w3 ⟨rfl, hp, hf⟩; have hbp3 := (hf.cell (p := ⟨w.heap.size + 1, 0, none⟩) hbl2 (by show ¬ w.heap.size + 1 = w.heap.size; omega)).trans hbp2; have hbl3 : w.heap.size + 1 < w3.heap.size := (Nat.lt_of_lt_of_le hbl2 hf.size); have HF3 := hide (HF2.out.trans hf); have HP3 := hide hp; clear hp hf hbp2))
          | (go_at_call 43; refine (NM.out _ HP3.out).mono ?_; rintro e w4 ⟨rfl, hp, hf⟩; have hbl4 : w.heap.size + 1 < w4.heap.size := (Nat.lt_of_lt_of_le hbl3 hf.size); have hz4 : wr.heap.size ≤ w4.heap.size := ((HF3.out.trans hf).size); have hbp4 := (hf.cell (p := ⟨w.heap.size + 1, 0, none⟩) hbl3 (by show ¬ w.heap.size + 1 = w.heap.size; omega)).trans hbp3; have hbp5 : (w4.alloc (.cells #[.string (bs t1.v), .slice none 0 0, .slice none 0 0] 113)).cell? ⟨w.heap.size + 1, 0, none⟩ = some (.pointer (some ⟨w.heap.size, 0, none⟩)) := (World.cell?_alloc_past _ _ _ hbl4).trans hbp4; have hbl5 : w.heap.size + 1 < (w4.alloc (.cells #[.string (bs t1.v), .slice none 0 0, .slice none 0 0] 113)).heap.size := (by simp; omega); have HB5 := hide (B3.made w4 (.string (bs t1.v)) (.slice none 0 0) (.slice none 0 0) 113); have HF5 := hide ((HF3.out.trans hf).alloc (.cells #[.string (bs t1.v), .slice none 0 0, .slice none 0 0] 113)); have HP5 := hide (hp.fr ((Fr.refl nothing w4).alloc (.cells #[.string (bs t1.v), .slice none 0 0, .slice none 0 0] 113)) id); clear hp hf hbp3)
          | (go_at_call 44; refine (UP.out _ w4.heap.size PW6.out HB6.out hbp6 hbl4).mono ?_; rintro e w7 ⟨rfl, hj⟩; have hbp7 := (hj.fr.cell (p := ⟨w.heap.size + 1, 0, none⟩) hbl6 (by show ¬ (w.heap.size + 1 = w.heap.size ∨ w.heap.size + 1 = w4.heap.size); omega)).trans hbp6; have hbl7 : w.heap.size + 1 < w7.heap.size := (Nat.lt_of_lt_of_le hbl6 hj.fr.size); obtain ⟨sp, hsp, -⟩ := hj.row; have hB7 : B3 w4.heap.size (.string (bs t1.v)) (.slice sp.a sp.n sp.c) (.slice none 0 0) w7 := ⟨(hj.old 0 (by decide)).trans HB6.out.c0, hsp, (hj.old 2 (by decide)).trans HB6.out.c2, fun j => (hj.fz j).trans (HB6.out.f j), Nat.lt_of_lt_of_le HB6.out.lt hj.fr.size⟩; have HJ7 := hide hj; have HB7 := hide hB7; have HSP := hide hsp; clear hj hB7 hbp6 hsp)
          | (go_at_call 46; refine (SS.out _ HJ7.out.pw).mono ?_; rintro e w8 ⟨st, rfl, hf, hp, hn8, hls⟩; have hB8 := HB7.out.fr hf (by show ¬ w4.heap.size = w.heap.size; omega); have HB8 := hide hB8; obtain ⟨x0, x1, x2, xf, xl⟩ := hB8; have xf2 := xf 2; have HF8 := hide hf; have HP8 := hide hp; have HL8 : Hid (GOk encS 5 StOk w7.heap.size w8 st s1.v) := hls; have hbp8 := (hf.cell (p := ⟨w.heap.size + 1, 0, none⟩) hbl7 (by show ¬ w.heap.size + 1 = w.heap.size; omega)).trans hbp7; have hbl8 : w.heap.size + 1 < w8.heap.size := (Nat.lt_of_lt_of_le hbl7 hf.size); have F7 : Fr (at_ w.heap.size) wr w7 := (HF6.out.then HJ7.out.fr (fun j hj e => by rcases e with e | e; exact e; omega)); have FS := hide ((F7.trans hf).setCell (p := ⟨w4.heap.size, 2, none⟩) (.inr hz4) (.slice st.a st.n st.c)); have FA := hide (FS.out.alloc (.cells #[.string (bs t1.v), .slice sp.a sp.n sp.c, .slice st.a st.n st.c] 113)); obtain ⟨rs, hown, -, -⟩ := HROW.out; have hownA := (owns_fr hown FA.out (fun k hk e => by have := (hown.lt k hk).1; have : k = w.heap.size := e; omega)); have HOA := hide hownA; have hbA : w1.heap.size ≤ ((w8.setCell ⟨w4.heap.size, 2, none⟩ (.slice st.a st.n st.c)).alloc (.cells #[.string (bs t1.v), .slice sp.a sp.n sp.c, .slice st.a st.n st.c] 113)).heap.size := (Nat.le_trans hszr FA.out.size); have NW : Hid (∀ j u, (encG ⟨t1.v, sp, st⟩)[j]? = some u → ((w8.setCell ⟨w4.heap.size, 2, none⟩ (.slice st.a st.n st.c)).alloc (.cells #[.string (bs t1.v), .slice sp.a sp.n sp.c, .slice st.a st.n st.c] 113)).cell? ((⟨w8.heap.size, 0, none⟩ : Addr).add j) = some u) := (by have := World.news_of_block (cs := #[.string (bs t1.v), .slice sp.a sp.n sp.c, .slice st.a st.n st.c]) (t := 113) (fr := (0, 0)) (heap_new (w8.setCell ⟨w4.heap.size, 2, none⟩ (.slice st.a st.n st.c)) (.cells #[.string (bs t1.v), .slice sp.a sp.n sp.c, .slice st.a st.n st.c] 113)); rw [show (w8.setCell ⟨w4.heap.size, 2, none⟩ (.slice st.a st.n st.c)).heap.size = w8.heap.size by simp [World.setCell]] at this; exact this); have hac : ac.length ≤ 1500 := (by omega); clear hf hp hls hbp7 xf hn8 hown hownA F7)
          | (at_builtin; go_must (refine wpList_append_lies _ rfl _ _ 85 rfl w1.heap.size 113 j0 _ 3 64 Tryd.underlying85 hj0 hy0 hy1 hy2 rfl (by decide) (.slice va ac.length vc) ac.length _ rfl HOA.out ⟨w8.heap.size, 0, none⟩ 1 1 (encG ⟨t1.v, sp, st⟩) rfl rfl NW.out (by simp [encG, Value.oneCell']) (by decide) (by unfold maxLen; omega) (by omega) hbA _ rfl ?_); intro g cp w9 hr9 hg9 hat9 hlt9))
        have hfnA : FnOk2 ((w8.setCell ⟨w4.heap.size, 2, none⟩ (.slice st.a st.n st.c)).alloc (.cells #[.string (bs t1.v), .slice sp.a sp.n sp.c, .slice st.a st.n st.c] 113)) (fun k => wr.heap.size ≤ k ∧ k < ((w8.setCell ⟨w4.heap.size, 2, none⟩ (.slice st.a st.n st.c)).alloc (.cells #[.string (bs t1.v), .slice sp.a sp.n sp.c, .slice st.a st.n st.c] 113)).heap.size) ⟨t1.v, sp, st⟩ ⟨t1.v, p1.v, s1.v⟩ := by
          have h1 := fn_ok (nm := t1.v) (B := wr.heap.size) HJ7.out HSP.out HF8.out (by omega) (by have := HF6.out.size; omega) HB6.out.lt HL8.out ((Fr.refl (fun k => k = w4.heap.size) w8).setCell (p := ⟨w4.heap.size, 2, none⟩) (.inl rfl) (.slice st.a st.n st.c))
          exact fn_stays2 _ _ nothing _ _ _ _ h1 ((Fr.refl nothing _).alloc _) (fun _ _ => id) (fun k hk => ⟨hk.1, by have := hk.2; simp [World.setCell] at this ⊢; omega⟩)
        have hPA : Pr w.heap.size s1.l s1.z ((w8.setCell ⟨w4.heap.size, 2, none⟩ (.slice st.a st.n st.c)).alloc (.cells #[.string (bs t1.v), .slice sp.a sp.n sp.c, .slice st.a st.n st.c] 113)) := (HP8.out.fr ((Fr.refl (fun k => k = w4.heap.size) w8).setCell (p := ⟨w4.heap.size, 2, none⟩) (.inl rfl) (.slice st.a st.n st.c)) (by show ¬ w.heap.size = w4.heap.size; omega)).fr ((Fr.refl nothing _).alloc _) id
        have hF9 : Fr (fun k => (Value.slice va ac.length vc).ownBlock = some k) ((w8.setCell ⟨w4.heap.size, 2, none⟩ (.slice st.a st.n st.c)).alloc (.cells #[.string (bs t1.v), .slice sp.a sp.n sp.c, .slice st.a st.n st.c] 113)) w9 := (Fr.refl _ _).grown hg9 (fun k hk => .inl hk)
        have hown9 : ∀ k, (Value.slice va ac.length vc).ownBlock = some k → w1.heap.size ≤ k := fun k hk => (HOA.out.lt k hk).1
        have hP9 : Pr w.heap.size s1.l s1.z w9 := hPA.fr hF9 (fun e => by have := hown9 _ e; omega)
        have hFr9 : Fr (at_ w.heap.size) w1 w9 := (HFQ.out.trans FA.out).then hF9 (fun j hj e => by have := hown9 _ e; omega)
        have hrow9 : Row 113 3 encG FnOk2 w1.heap.size (.slice (some ⟨g, 0, none⟩) (ac.length + 1) cp) (ac ++ [⟨t1.v, p1.v, s1.v⟩]) w9 :=
          HROW.out.push fn_stays2 FA.out (fun k e => by have : k = w.heap.size := e; omega) (Nat.le_refl _) hfnA hF9 (fun k e => .inr e) (fun rs2 hrs => by
            have h2 : ((w8.setCell ⟨w4.heap.size, 2, none⟩ (.slice st.a st.n st.c)).alloc (.cells #[.string (bs t1.v), .slice sp.a sp.n sp.c, .slice st.a st.n st.c] 113)).ownsRow w1.heap.size 113 3 (.slice va ac.length vc) ac.length (rs2.flatMap encG) := owns_fr hrs FA.out (fun k hk e => by have := (hrs.lt k hk).1; have : k = w.heap.size := e; omega)
            rw [owns_same h2 HOA.out]
            exact hr9) (by
            rcases hat9 with e | e
            · exact .inl e.symm
            · exact .inr ⟨g, rfl, by omega⟩)
        have hP9w : Pw w w.heap.size s1.l s1.z w9 := ⟨hP9, by omega, (HFW.out.then hFr9 (fun j hj e => by have : j = w.heap.size := e; omega)).below (Nat.le_refl _) (fun k _ e => e), Nat.le_refl _, HPQ.out.tab, HPQ.out.er⟩
        refine ⟨⟨m, ac ++ [⟨t1.v, p1.v, s1.v⟩], s1.l, s1.z, some ⟨g, 0, none⟩, cp, by simp, by omega, fun h0 => ?_, hP9w, hFr9, by simpa using hrow9, ?_⟩, ?_⟩
        · have := g6 h0
          simp
          omega
        · rw [HFNS.out, HMO.out, after_after]
        · rw [HPQ.out.pr.leftOf0]
          by_cases h0 : s1.z = 0
          · have := g6 h0
            rw [h0] at hP9
            rw [hP9.leftOf0]
            omega
          · rw [hP9.leftOf1 h0]
            omega
    · have hres : fnsP N n s 0 = ⟨ac, q, zq⟩ := by rw [hfns, fns_bad N q hz]; simp [Rd.after]
      have HRES := hide hres
      have hz1 : (zq == 0) = false := by simpa using hz
      have hz2 := ne_bne hz
      clear hR hPq hFq hrow hfns hle hres
      go_wp2_with fail
      go_region
      all_goals go_wp2
      all_goals go_ret2
      all_goals rw [HRES.out, show finP ⟨ac, q, zq⟩ = ([], zq) by simp [finP, hz]]
      all_goals exact ppost_nil zq (HFW.out.then HFQ.out (fun j hj e => by have : j = w.heap.size := e; omega)).drew
end Go.Proofs.YtpemfikdmkmgbaaDoor
end
section
/- Elements of lists in memory. -/
namespace Go.Proofs.YtpemfikdmkmgbaaDoor
open Go.RowKit

theorem sl_elem4 {w : World} {s : Slc} {rs : List RawE} (h : Sl encE 4 w s.v rs) {i : Nat} {r : RawE} (hi : rs[i]? = some r) : ∃ b off, s.a = some ⟨b, off, none⟩ ∧ s.n = rs.length ∧ b < w.heap.size ∧ w.cell? ⟨b, off + i * 4, none⟩ = some (.int .i64 r.k) ∧ w.cell? ⟨b, off + i * 4 + 1, none⟩ = some (.int .i64 r.n) ∧ w.cell? ⟨b, off + i * 4 + 2, none⟩ = some (.string (bs r.t)) ∧ w.cell? ⟨b, off + i * 4 + 3, none⟩ = some (.slice r.s.a r.s.n r.s.c) := by
  obtain ⟨ao, cap, he, _, hc⟩ := h
  obtain ⟨b, off, rfl, hb, hcell⟩ := hc i r hi
  simp only [Value.slice.injEq] at he
  obtain ⟨h1, h2, _⟩ := he
  exact ⟨b, off, h1, h2, hb, hcell 0 _ rfl, hcell 1 _ rfl, hcell 2 _ rfl, hcell 3 _ rfl⟩
theorem sl_elem5 {w : World} {s : Slc} {rs : List RawS} (h : Sl encS 5 w s.v rs) {i : Nat} {r : RawS} (hi : rs[i]? = some r) : ∃ b off, s.a = some ⟨b, off, none⟩ ∧ b < w.heap.size ∧ w.cell? ⟨b, off + i * 5, none⟩ = some (.int .i64 r.k) ∧ w.cell? ⟨b, off + i * 5 + 1, none⟩ = some (.string (bs r.t)) ∧ w.cell? ⟨b, off + i * 5 + 2, none⟩ = some (.slice r.a.a r.a.n r.a.c) ∧ w.cell? ⟨b, off + i * 5 + 3, none⟩ = some (.slice r.x.a r.x.n r.x.c) ∧ w.cell? ⟨b, off + i * 5 + 4, none⟩ = some (.slice r.y.a r.y.n r.y.c) := by
  obtain ⟨ao, cap, he, _, hc⟩ := h
  obtain ⟨b, off, rfl, hb, hcell⟩ := hc i r hi
  simp only [Value.slice.injEq] at he
  exact ⟨b, off, he.1, hb, hcell 0 _ rfl, hcell 1 _ rfl, hcell 2 _ rfl, hcell 3 _ rfl, hcell 4 _ rfl⟩
theorem sl_elem3 {w : World} {s : Slc} {rs : List RawF} (h : Sl encG 3 w s.v rs) {i : Nat} {r : RawF} (hi : rs[i]? = some r) : ∃ b off, s.a = some ⟨b, off, none⟩ ∧ b < w.heap.size ∧ w.cell? ⟨b, off + i * 3, none⟩ = some (.string (bs r.t)) ∧ w.cell? ⟨b, off + i * 3 + 1, none⟩ = some (.slice r.p.a r.p.n r.p.c) ∧ w.cell? ⟨b, off + i * 3 + 2, none⟩ = some (.slice r.b.a r.b.n r.b.c) := by
  obtain ⟨ao, cap, he, _, hc⟩ := h
  obtain ⟨b, off, rfl, hb, hcell⟩ := hc i r hi
  simp only [Value.slice.injEq] at he
  exact ⟨b, off, he.1, hb, hcell 0 _ rfl, hcell 1 _ rfl, hcell 2 _ rfl⟩
abbrev eo (a : RawE) : Obj := .cells #[.int .i64 a.k, .int .i64 a.n, .string (bs a.t), .slice a.s.a a.s.n a.s.c] 131
theorem step_append_more {P : Program} (w : World) {ops : Array Oper} {o : Oper} {a : Act} {K : Act → World → Prop} {Q : Exit → Act → World → Prop} {E : Prop} (hgd : o.guard = none) (s x : Operand) (t : TypeId)
    (ho : o.op = .call { callee := .builtin .append, args := #[s, x], argTypes := #[t, t] })
    (base : Nat) (e : TypeId) (i : TypeInfo) (z : Value) (size bytes : Nat) (ht : P.underlying t = some (.slice e)) (hi : P.info? e = some i) (hz : i.zero = some z)
    (hsize : i.size = size) (hby : i.bytes = bytes) (hzs : z.cells.size = size) (hsz : 0 < size)
    (g0 : Nat) (hs : a.eval s = .slice (some ⟨g0, 0, none⟩) 0 0) (hown : w.ownsRow base e size (.slice (some ⟨g0, 0, none⟩) 0 0) 0 [])
    (la : Option Addr) (m c : Nat) (news : List Value) (hx : a.eval x = .slice la m c) (hl : news.length = m * size) (hnews : ∀ j u, news[j]? = some u → ∃ ad, la = some ad ∧ w.cell? (ad.add j) = some u) (h1 : ∀ u ∈ news, u.oneCell' = true)
    (h63 : 0 + m ≤ maxLen) (hbytes : (0 + m) * bytes ≤ 140737488355328) (hbase : base ≤ w.heap.size)
    (h : ∀ g cap w', w'.ownsRow base e size (.slice (some ⟨g, 0, none⟩) (0 + m) cap) (0 + m) ([] ++ news) → w.grownBy w' (Value.slice (some ⟨g0, 0, none⟩) 0 0).ownBlock → K (a.put o.dst (.slice (some ⟨g, 0, none⟩) (0 + m) cap)) w') :
    if Region.wanted o (yielded ops a.tmps) = true then Oper.wp P o a w K Q else E := by
  rcases Nat.eq_zero_or_pos m with h0 | hm
  · subst h0
    have hn : news = [] := List.length_eq_zero_iff.1 (by simpa using hl)
    subst hn
    have hw : Region.wanted o (yielded ops a.tmps) = true := by simp [Region.wanted, hgd]
    rw [if_pos hw]
    have hsrc : Src P i.size t (.slice la 0 c) 0 [] w := by
      cases la with
      | none => exact Src.ofNil w ht c
      | some ad => exact Src.ofSlice w ht ad 0 c [] (by simp) (by simp) (by simp)
    have hr := run_append_nothing w t t o.type e i ht hi (some ⟨g0, 0, none⟩) 0 0 (Nat.le_refl _) (.slice la 0 c) hsrc
    unfold Oper.wp execOp
    simp only [ho, resolve, invoke, builtin, Sem.run_bind, Sem.run_pure, Result.andThen_ok, List.map_toArray, List.map_cons, List.map_nil, hs, hx, hr]
    exact h g0 0 w hown (World.grownBy.refl _ _)
  · have hlen : 0 < news.length := by rw [hl]; exact Nat.mul_pos hm hsz
    obtain ⟨ad, rfl, _⟩ := hnews 0 _ (List.getElem?_eq_getElem hlen)
    exact step_append_lies w hgd s x t ho base e i z size bytes ht hi hz hsize hby hzs hsz _ 0 [] hs hown ad m c news hx hl (fun j u hj => by
      obtain ⟨ad', he, hc⟩ := hnews j u hj
      obtain rfl : ad = ad' := by simpa using he
      exact hc) h1 hm h63 hbytes hbase _ rfl fun g cap w' h2 h3 _ _ => h g cap w' h2 h3
theorem sl_strs {w : World} {la : Option Addr} {c : Nat} {nm : List Bs} (hs : Sl encN 1 w (.slice la nm.length c) nm) : ∀ j u, (nm.flatMap encN)[j]? = some u → ∃ ad, la = some ad ∧ w.cell? (ad.add j) = some u := by
  intro j u hj
  have hl : j < nm.length := by
    have := (List.getElem?_eq_some_iff.1 hj).1
    rwa [flat_length encN 1 encN_len, Nat.mul_one] at this
  obtain ⟨b, off, he, hb, hc⟩ := sl_elem1 (s := ⟨la, nm.length, c⟩) hs (List.getElem?_eq_getElem hl)
  simp only at he
  refine ⟨_, he, ?_⟩
  rw [add_eq, hc]
  have h2 := flat_get encN 1 encN_len nm j nm[j] 0 (.string (bs nm[j])) (List.getElem?_eq_getElem hl) rfl
  rw [Nat.mul_one, Nat.add_zero, hj] at h2
  exact h2.symm
theorem strs_one (nm : List Bs) : ∀ u ∈ nm.flatMap encN, u.oneCell' = true := by
  intro u hu
  obtain ⟨x, _, hx⟩ := List.mem_flatMap.1 hu
  simp only [encN, List.mem_singleton] at hx
  subst hx
  rfl
abbrev so (a : RawS) : Obj := .cells #[.int .i64 a.k, .string (bs a.t), .slice a.a.a a.a.n a.a.c, .slice a.x.a a.x.n a.x.c, .slice a.y.a a.y.n a.y.c] 128
theorem so_cells {w w' : World} {r : RawS} {S : Nat → Prop} (hf : Fr S (w.alloc (so r)) w') (hs : ¬ S w.heap.size) : B5 w.heap.size (.int .i64 r.k) (.string (bs r.t)) (.slice r.a.a r.a.n r.a.c) (.slice r.x.a r.x.n r.x.c) (.slice r.y.a r.y.n r.y.c) w' := (B5.made w _ _ _ _ _ 128).fr hf hs
theorem own_eq {g k n c : Nat} (h : (Value.slice (some ⟨g, 0, none⟩) n c).ownBlock = some k) : g = k := by simpa [Value.ownBlock] using h
theorem names_sl {w : World} {base g cp : Nat} {nm : List Bs} {t : Bs} (hr : w.ownsRow base 9 1 (.slice (some ⟨g, 0, none⟩) (0 + nm.length + 1) cp) (0 + nm.length + 1) (([] ++ nm.flatMap encN) ++ [.string (bs t)])) :
    Sl encN 1 w (.slice (some ⟨g, 0, none⟩) (nm ++ [t]).length cp) (nm ++ [t]) ∧ base ≤ g := by
  have e : (nm ++ [t]).flatMap encN = ([] ++ nm.flatMap encN) ++ [.string (bs t)] := by simp [encN]
  have h2 : w.ownsRow base 9 1 (.slice (some ⟨g, 0, none⟩) (nm ++ [t]).length cp) (nm ++ [t]).length ((nm ++ [t]).flatMap encN) := by
    rw [e]
    have : (nm ++ [t]).length = 0 + nm.length + 1 := by simp
    rw [this]
    exact hr
  exact ⟨sl_of_owns encN_len h2, (hr.lt g rfl).1⟩
theorem exsN_drop_le {l : List Ex} {j : Nat} (h : j ≤ l.length) : j + exsN (l.drop j) ≤ exsN l := by
  induction l generalizing j with
  | nil => simp at h; subst h; simp [exsN]
  | cons x l ih =>
    cases j with
    | zero => simp
    | succ j =>
      have := ih (j := j) (by simpa using h)
      have := exN_pos x
      rw [List.drop_succ_cons, exsN]
      omega
end Go.Proofs.YtpemfikdmkmgbaaDoor
end
section
/- Small ones that both makers of code want. -/
set_option maxHeartbeats 0
set_option maxRecDepth 100000
namespace Go.Proofs.YtpemfikdmkmgbaaDoor
open Go Go.RowKit
/-- Where the trees lie. -/
abbrev ap (T : Nat → Prop) (w : World) : Nat → Prop := fun k => ¬ T k ∧ k < w.heap.size
theorem ap_next {T T' : Nat → Prop} {w w' : World} (hf : Fr T w w') (h : ∀ k, T' k → T k ∨ w.heap.size ≤ k) : ∀ k, ap T w k → ap T' w' k := fun k hk => ⟨fun e => (h k e).elim hk.1 (fun e => by have := hk.2; omega), Nat.lt_of_lt_of_le hk.2 hf.size⟩
/-- Three cells of a block are written. -/
theorem set3 {w : World} {b : Nat} {u0 u1 u2 : Value} (v0 v1 v2 : Value) (m0 : w.cell? ⟨b, 0, none⟩ = some u0) (m1 : w.cell? ⟨b, 1, none⟩ = some u1) (m2 : w.cell? ⟨b, 2, none⟩ = some u2) :
    ∃ w', w' = ((w.setCell ⟨b, 0, none⟩ v0).setCell ⟨b, 1, none⟩ v1).setCell ⟨b, 2, none⟩ v2 ∧ w'.cell? ⟨b, 0, none⟩ = some v0 ∧ w'.cell? ⟨b, 1, none⟩ = some v1 ∧ w'.cell? ⟨b, 2, none⟩ = some v2 ∧ Fr (fun k => k = b) w w' := by
  refine ⟨_, rfl, ?_, ?_, ?_, ?_⟩
  · rw [World.cell?_setCell_other _ ⟨b, 2, none⟩ ⟨b, 0, none⟩ _ (by simp), World.cell?_setCell_other _ ⟨b, 1, none⟩ ⟨b, 0, none⟩ _ (by simp)]
    exact World.cell?_setCell_same _ _ _ m0
  · rw [World.cell?_setCell_other _ ⟨b, 2, none⟩ ⟨b, 1, none⟩ _ (by simp)]
    exact World.cell?_setCell_same _ _ _ (by rw [World.cell?_setCell_other _ ⟨b, 0, none⟩ ⟨b, 1, none⟩ _ (by simp)]; exact m1)
  · exact World.cell?_setCell_same _ _ _ (by rw [World.cell?_setCell_other _ ⟨b, 1, none⟩ ⟨b, 2, none⟩ _ (by simp), World.cell?_setCell_other _ ⟨b, 0, none⟩ ⟨b, 2, none⟩ _ (by simp)]; exact m2)
  · exact (((Fr.refl (fun k => k = b) w).setCell (p := ⟨b, 0, none⟩) (.inl rfl) _).setCell (p := ⟨b, 1, none⟩) (.inl rfl) _).setCell (p := ⟨b, 2, none⟩) (.inl rfl) _
/-- Two cells of a block are written. -/
theorem set2 {w : World} {b : Nat} {u0 u1 : Value} (v0 v1 : Value) (m0 : w.cell? ⟨b, 0, none⟩ = some u0) (m1 : w.cell? ⟨b, 1, none⟩ = some u1) :
    ∃ w', w' = (w.setCell ⟨b, 0, none⟩ v0).setCell ⟨b, 1, none⟩ v1 ∧ w'.cell? ⟨b, 0, none⟩ = some v0 ∧ w'.cell? ⟨b, 1, none⟩ = some v1 ∧ Fr (fun k => k = b) w w' := by
  refine ⟨_, rfl, ?_, ?_, ?_⟩
  · rw [World.cell?_setCell_other _ ⟨b, 1, none⟩ ⟨b, 0, none⟩ _ (by simp)]
    exact World.cell?_setCell_same _ _ _ m0
  · exact World.cell?_setCell_same _ _ _ (by rw [World.cell?_setCell_other _ ⟨b, 0, none⟩ ⟨b, 1, none⟩ _ (by simp)]; exact m1)
  · exact ((Fr.refl (fun k => k = b) w).setCell (p := ⟨b, 0, none⟩) (.inl rfl) _).setCell (p := ⟨b, 1, none⟩) (.inl rfl) _
theorem idx_step {A : AMap} {G : Bs → Int} (h : ∀ t, (A.f t).getD 0 = G t) (t : Bs) (i : Nat) : ∀ x, ((A.put t i).f x).getD 0 = upd G t i x := by
  intro x
  unfold AMap.put upd
  dsimp only
  by_cases e : x = t
  · simp [e]
  · rw [if_neg e, if_neg e]; exact h x
theorem wput_in {ws : List Bs} {t : Bs} (h : ws.contains t = true) : wput ws t = ws := by unfold wput; rw [if_pos h]
theorem wput_new {ws : List Bs} {t : Bs} (h : ws.contains t = false) : wput ws t = ws ++ [t] ∧ wnum ws t = ws.length := by
  refine ⟨by unfold wput; rw [if_neg (by rw [h]; decide)], ?_⟩
  unfold wnum
  have : t ∉ ws := by simpa using h
  exact List.idxOf_eq_length this
theorem sizeStr : (Tryd.prog.info? 9).map (fun i => (i.zero, i.size, i.bytes)) = some (some (.string ⟨#[]⟩), 1, 16) := by kernel_rfl
abbrev fo (a : RawF) : Obj := .cells #[.string (bs a.t), .slice a.p.a a.p.n a.p.c, .slice a.b.a a.b.n a.b.c] 113
theorem fo_cells {w w' : World} {r : RawF} {S : Nat → Prop} (hf : Fr S (w.alloc (fo r)) w') (hs : ¬ S w.heap.size) : w'.cell? ⟨w.heap.size, 0, none⟩ = some (.string (bs r.t)) ∧ w'.cell? ⟨w.heap.size, 1, none⟩ = some (.slice r.p.a r.p.n r.p.c) ∧ w'.cell? ⟨w.heap.size, 2, none⟩ = some (.slice r.b.a r.b.n r.b.c) ∧ w.heap.size < w'.heap.size := by
  have hn := made_cells hf hs
  exact ⟨hn.1 0, hn.1 1, hn.1 2, hn.2.2⟩
end Go.Proofs.YtpemfikdmkmgbaaDoor
end
