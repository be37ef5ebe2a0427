/- ExprW; StmtB; StmtZero. -/
import Derived.Lib.AtoiAllCases
import Derived.Test.YtpemfikdmkmgbaaDoorPartB10
section
/- An expression of one word. -/
namespace Go.Proofs.YtpemfikdmkmgbaaDoor
open Go.RowKit

theorem atoi_ok (v : Bs) (n : Int) (hA : Lib.atoiAll v = .ok n) (w : World) (hv : v.length ≤ 1500) :
    Calls Tryd.prog 71 #[.string (bs v)] w fun e w' => e = .returned (.tuple #[.int .i64 n, .nilIface]) ∧ Fr nothing w w' :=
  (Tryd.strconv_Atoi_ok (bs v) (by rw [bs_size]; omega) n hA w).mono fun e w' hh => by
    obtain ⟨h1, h2 | ⟨t, h2⟩⟩ := hh
    · subst h2; exact ⟨h1, Fr.refl _ _⟩
    · subst h2; exact ⟨h1, Fr.of_below (Lib.bytesWorld_below _ _ _) (Nat.le_refl _) nothing⟩
theorem atoi_fails (v : Bs) (w : World) (hE : Er w) (hv : v.length ≤ 1500) (h : ∀ n, Lib.atoiAll v ≠ .ok n) :
    Calls Tryd.prog 71 #[.string (bs v)] w fun e w' => ∃ n N, e = .returned (.tuple #[.int .i64 n, .iface 161 (.pointer (some ⟨N, 0, none⟩))]) ∧ Fr nothing w w' := by
  have hs := bs_size v
  cases hA : Lib.atoiAll v with
  | ok n => exact absurd hA (h n)
  | «syntax» =>
    obtain ⟨ev, h1, h2⟩ := hE.s
    exact (Tryd.strconv_Atoi_syntax (bs v) (by omega) hA ev w h1 h2).mono fun e w' ⟨N, k, _, _, b⟩ => ⟨_, N, k, Fr.of_below b (Nat.le_refl _) nothing⟩
  | range =>
    obtain ⟨ev, h1, h2⟩ := hE.r
    exact (Tryd.strconv_Atoi_range (bs v) (by omega) hA ev w h1 h2).mono fun e w' ⟨N, k, _, _, b⟩ => ⟨_, N, k, Fr.of_below b (Nat.le_refl _) nothing⟩
theorem itoa_any (n : Int) (h0 : -9223372036854775808 ≤ n) (h1 : n ≤ 9223372036854775807) (w : World) (ht : Tab w) :
    Calls Tryd.prog 40 #[.int .i64 n] w fun e w' => e = .returned (.string (bs (Lib.itoa n))) ∧ Fr nothing w w' :=
  (Tryd.strconv_Itoa n h0 h1 w ht).mono fun e w' ⟨k1, k, os, h⟩ => by
    subst h
    exact ⟨k1, grow_fr _ _ _⟩
theorem numOf_ok {v : Bs} {n : Int} (hA : Lib.atoiAll v = .ok n) : numOf v = if Lib.itoa n = v then some n else none := by
  unfold numOf; rw [hA]
theorem numOf_no {v : Bs} (hA : ∀ n, Lib.atoiAll v ≠ .ok n) : numOf v = none := by
  unfold numOf
  split
  · rename_i n h; exact absurd h (hA n)
  · rfl
theorem w0_fr {w w' : World} (h : Fr nothing w w') (rb : Nat) : Fr (at_ rb) w w' := h.mono (fun _ _ e => e.elim)
theorem peek_no {l : Bs} {c : UInt8} (hc : c ≠ 0 ∧ c ≠ 1) (h : l.head? ≠ some c) : ¬ ((peekC l).toNat : Int) = (c.toNat : Int) := by
  intro e
  have e2 : peekC l = c := UInt8.toNat_inj.1 (by omega)
  cases l with
  | nil => exact hc.1 (by rw [← e2]; rfl)
  | cons x t =>
    rw [peekC_is hc] at e2
    subst e2
    exact h rfl
set_option maxHeartbeats 1000000 in
set_option maxRecDepth 20000 in
theorem expr_word_int (w0 : World) (rb : Nat) (l : Bs) (d : Int) (w : World) (h : Pw w0 rb l 0 w) (hd : d ≤ 10) (h39 : (skip l).head? ≠ some 39) (h40 : (skip l).head? ≠ some 40) {v l' : Bs} {z : Int} (hw : word (skip l) 0 = ⟨v, l', z⟩) {n : Int} (hA : Lib.atoiAll v = .ok n) (hI : Lib.itoa n = v) (hin : inInt n = true) :
    Calls Tryd.prog 65 #[.pointer (some ⟨rb, 0, none⟩), .int .i64 d] w (XPost ev ExOk rb w ⟨.mk 1 n [] [], l', z⟩) := by
  have HD := hide (deep_any rb l 0 d _ (h.pr.fr (fr3 w rb d) (S := nothing) id))
  have hrb := h.pr.lt
  have e0 : deepZ d 0 = 0 := by simp [deepZ]; omega
  rw [e0] at HD
  have hl := h.len
  have hsl := skip_len l
  have hvl : v.length ≤ 1500 := by
    have : v = (word (skip l) 0).v := by rw [hw]
    rw [this]
    exact Nat.le_trans (List.takeWhile_sublist _).length_le (Nat.le_trans (skip_len _) (by omega))
  have n39 : ¬ ((peekC (skip l)).toNat : Int) = 39 := peek_no (c := 39) (by decide) h39
  have n40 : ¬ ((peekC (skip l)).toNat : Int) = 40 := peek_no (c := 40) (by decide) h40
  have q39 : (((peekC (skip l)).toNat : Int) == 39) = false := by simpa using n39
  have b40 := ne_bne n40
  have HW := hide hw
  have HH := hide h
  have HN := hide (fun w => name_any v w hvl)
  have TAB : Hid (∀ w', Fr (at_ rb) (w3of w rb d) w' → Tab w') := fun w' hf => Lib.tabBelow_of_tabIs HH.out.tab w' (HH.out.bel.trans (((fr3 w rb d).trans hf).below HH.out.bel.size (fun k hk e => by have := HH.out.ge; have : k = rb := e; omega)))
  have hb := Lib.atoiAll_bounds hA
  have hr : -1073741824 ≤ n ∧ n ≤ 1073741824 := by simpa [inInt] using hin
  have r1 : ¬ n < -1073741824 := by omega
  have r2 : ¬ 1073741824 < n := by omega
  have HI := hide hI
  clear hI hin
  clear h e0 hw h39 h40
  go_enter Tryd.func65, Tryd.ntmps65
  go_wp2_with (first
    | (go_at_call 64; refine HD.out.mono ?_; rintro e w2 ⟨rfl, hp, hf⟩; have hpk := peek_any rb l 0 w2 hp hl; have HPK := hide hpk; obtain ⟨b0, b1, -, -, -, -, -, -, -, -, hlt⟩ := boxes hrb hf; have HF := hide hf; clear hp hf hpk)
    | (go_at_call 41; refine HPK.out.mono ?_; rintro e w4 ⟨rfl, hp, hf⟩; have hf4 := HF.out.trans hf; clear b0 b1 hlt; obtain ⟨b0, b1, -, -, -, -, -, -, -, -, hlt⟩ := boxes hrb hf4; have hwd := word_any rb (skip l) 0 w4 hp (by omega); rw [HW.out] at hwd; have HWD := hide hwd; have HF4 := hide hf4; clear hp hf hf4 hwd)
    | (go_at_call 55; refine HWD.out.mono ?_; rintro e w5 ⟨rfl, hp, hf⟩; have hf5 := HF4.out.trans hf; clear b0 b1 hlt; obtain ⟨b0, b1, c0, c1, c2, c3, f0, f1, f2, f3, hlt⟩ := boxes hrb hf5; have HP5 := hide hp; have HF5 := hide hf5; clear hp hf hf5)
    | (go_at_call 71; refine (atoi_ok v n hA _ hvl).mono ?_; rintro e w6 ⟨rfl, hfa⟩; have hf6 := HF5.out.trans (w0_fr hfa rb); clear b0 b1 c0 c1 c2 c3 f0 f1 f2 f3 hlt; obtain ⟨b0, b1, c0, c1, c2, c3, f0, f1, f2, f3, hlt⟩ := boxes hrb hf6; have HP6 := hide (HP5.out.fr hfa id); have HF6 := hide hf6; clear hfa hf6)
    | (go_at_call 40; refine (itoa_any n hb.1 hb.2 _ (TAB.out _ HF6.out)).mono ?_; rintro e w7 ⟨rfl, hfi⟩; rw [HI.out]; have hf7 := HF6.out.trans (w0_fr hfi rb); clear b0 b1 c0 c1 c2 c3 f0 f1 f2 f3 hlt; obtain ⟨b0, b1, c0, c1, c2, c3, f0, f1, f2, f3, hlt⟩ := boxes hrb hf7; have HP7 := hide (HP6.out.fr hfi id); have HF7 := hide hf7; clear hfi hf7)
    )
  refine bodyPost_ret (v := ev ⟨1, n, [], nilS⟩) (by simp [results, Tryd.results65, go_sem, c0, c1, c2, c3, bs]) rfl ?_
  exact ex_fin (res := ⟨.mk 1 n [] [], l', z⟩) hrb HF7.out HP7.out (ex_leaf _ _ _ _ _) _ _ _ _
set_option maxHeartbeats 1000000 in
set_option maxRecDepth 20000 in
theorem expr_word_big (w0 : World) (rb : Nat) (l : Bs) (d : Int) (w : World) (h : Pw w0 rb l 0 w) (hd : d ≤ 10) (h39 : (skip l).head? ≠ some 39) (h40 : (skip l).head? ≠ some 40) {v l' : Bs} {z : Int} (hw : word (skip l) 0 = ⟨v, l', z⟩) {n : Int} (hA : Lib.atoiAll v = .ok n) (hI : Lib.itoa n = v) (hin : inInt n = false) :
    Calls Tryd.prog 65 #[.pointer (some ⟨rb, 0, none⟩), .int .i64 d] w (XPost ev ExOk rb w ⟨.mk 1 n [] [], l', bad z 3⟩) := by
  have HD := hide (deep_any rb l 0 d _ (h.pr.fr (fr3 w rb d) (S := nothing) id))
  have hrb := h.pr.lt
  have e0 : deepZ d 0 = 0 := by simp [deepZ]; omega
  rw [e0] at HD
  have hl := h.len
  have hsl := skip_len l
  have hvl : v.length ≤ 1500 := by
    have : v = (word (skip l) 0).v := by rw [hw]
    rw [this]
    exact Nat.le_trans (List.takeWhile_sublist _).length_le (Nat.le_trans (skip_len _) (by omega))
  have n39 : ¬ ((peekC (skip l)).toNat : Int) = 39 := peek_no (c := 39) (by decide) h39
  have n40 : ¬ ((peekC (skip l)).toNat : Int) = 40 := peek_no (c := 40) (by decide) h40
  have q39 : (((peekC (skip l)).toNat : Int) == 39) = false := by simpa using n39
  have b40 := ne_bne n40
  have HW := hide hw
  have HH := hide h
  have HN := hide (fun w => name_any v w hvl)
  have TAB : Hid (∀ w', Fr (at_ rb) (w3of w rb d) w' → Tab w') := fun w' hf => Lib.tabBelow_of_tabIs HH.out.tab w' (HH.out.bel.trans (((fr3 w rb d).trans hf).below HH.out.bel.size (fun k hk e => by have := HH.out.ge; have : k = rb := e; omega)))
  have hb := Lib.atoiAll_bounds hA
  have hr : 1073741824 < n ∨ (¬ 1073741824 < n ∧ n < -1073741824) := by
    have : ¬ (-1073741824 ≤ n ∧ n ≤ 1073741824) := by intro h; rw [show inInt n = true by simp [inInt, h]] at hin; cases hin
    omega
  have HI := hide hI
  clear hI hin
  rcases hr with hr | hr
  all_goals
  clear h e0 hw h39 h40
  go_enter Tryd.func65, Tryd.ntmps65
  go_wp2_with (first
    | (go_at_call 64; refine HD.out.mono ?_; rintro e w2 ⟨rfl, hp, hf⟩; have hpk := peek_any rb l 0 w2 hp hl; have HPK := hide hpk; obtain ⟨b0, b1, -, -, -, -, -, -, -, -, hlt⟩ := boxes hrb hf; have HF := hide hf; clear hp hf hpk)
    | (go_at_call 41; refine HPK.out.mono ?_; rintro e w4 ⟨rfl, hp, hf⟩; have hf4 := HF.out.trans hf; clear b0 b1 hlt; obtain ⟨b0, b1, -, -, -, -, -, -, -, -, hlt⟩ := boxes hrb hf4; have hwd := word_any rb (skip l) 0 w4 hp (by omega); rw [HW.out] at hwd; have HWD := hide hwd; have HF4 := hide hf4; clear hp hf hf4 hwd)
    | (go_at_call 55; refine HWD.out.mono ?_; rintro e w5 ⟨rfl, hp, hf⟩; have hf5 := HF4.out.trans hf; clear b0 b1 hlt; obtain ⟨b0, b1, c0, c1, c2, c3, f0, f1, f2, f3, hlt⟩ := boxes hrb hf5; have HP5 := hide hp; have HF5 := hide hf5; clear hp hf hf5)
    | (go_at_call 71; refine (atoi_ok v n hA _ hvl).mono ?_; rintro e w6 ⟨rfl, hfa⟩; have hf6 := HF5.out.trans (w0_fr hfa rb); clear b0 b1 c0 c1 c2 c3 f0 f1 f2 f3 hlt; obtain ⟨b0, b1, c0, c1, c2, c3, f0, f1, f2, f3, hlt⟩ := boxes hrb hf6; have HP6 := hide (HP5.out.fr hfa id); have HF6 := hide hf6; clear hfa hf6)
    | (go_at_call 40; refine (itoa_any n hb.1 hb.2 _ (TAB.out _ HF6.out)).mono ?_; rintro e w7 ⟨rfl, hfi⟩; rw [HI.out]; have hf7 := HF6.out.trans (w0_fr hfi rb); clear b0 b1 c0 c1 c2 c3 f0 f1 f2 f3 hlt; obtain ⟨b0, b1, c0, c1, c2, c3, f0, f1, f2, f3, hlt⟩ := boxes hrb hf7; have HP7 := hide (HP6.out.fr hfi id); have HF7 := hide hf7; clear hfi hf7)
    | (go_at_call 54; refine (bad_any rb l' z 3 _ HP7.out).mono ?_; rintro e w9 ⟨rfl, hp, hf⟩; have hf9 := HF7.out.trans hf; clear b0 b1 c0 c1 c2 c3 f0 f1 f2 f3 hlt; obtain ⟨b0, b1, c0, c1, c2, c3, f0, f1, f2, f3, hlt⟩ := boxes hrb hf9; have HP9 := hide hp; have HF9 := hide hf9; clear hp hf hf9)
    )
  refine bodyPost_ret (v := ev ⟨1, n, [], nilS⟩) (by simp [results, Tryd.results65, go_sem, c0, c1, c2, c3, bs]) rfl ?_
  exact ex_fin (res := ⟨.mk 1 n [] [], l', bad z 3⟩) hrb HF9.out HP9.out (ex_leaf _ _ _ _ _) _ _ _ _
set_option maxHeartbeats 1000000 in
set_option maxRecDepth 20000 in
theorem expr_word_odd_yes (w0 : World) (rb : Nat) (l : Bs) (d : Int) (w : World) (h : Pw w0 rb l 0 w) (hd : d ≤ 10) (h39 : (skip l).head? ≠ some 39) (h40 : (skip l).head? ≠ some 40) {v l' : Bs} {z : Int} (hw : word (skip l) 0 = ⟨v, l', z⟩) {n : Int} (hA : Lib.atoiAll v = .ok n) (hI : ¬ Lib.itoa n = v) (hn : isName v = true) :
    Calls Tryd.prog 65 #[.pointer (some ⟨rb, 0, none⟩), .int .i64 d] w (XPost ev ExOk rb w ⟨.mk 3 0 v [], l', z⟩) := by
  have HD := hide (deep_any rb l 0 d _ (h.pr.fr (fr3 w rb d) (S := nothing) id))
  have hrb := h.pr.lt
  have e0 : deepZ d 0 = 0 := by simp [deepZ]; omega
  rw [e0] at HD
  have hl := h.len
  have hsl := skip_len l
  have hvl : v.length ≤ 1500 := by
    have : v = (word (skip l) 0).v := by rw [hw]
    rw [this]
    exact Nat.le_trans (List.takeWhile_sublist _).length_le (Nat.le_trans (skip_len _) (by omega))
  have n39 : ¬ ((peekC (skip l)).toNat : Int) = 39 := peek_no (c := 39) (by decide) h39
  have n40 : ¬ ((peekC (skip l)).toNat : Int) = 40 := peek_no (c := 40) (by decide) h40
  have q39 : (((peekC (skip l)).toNat : Int) == 39) = false := by simpa using n39
  have b40 := ne_bne n40
  have HW := hide hw
  have HH := hide h
  have HN := hide (fun w => name_any v w hvl)
  have TAB : Hid (∀ w', Fr (at_ rb) (w3of w rb d) w' → Tab w') := fun w' hf => Lib.tabBelow_of_tabIs HH.out.tab w' (HH.out.bel.trans (((fr3 w rb d).trans hf).below HH.out.bel.size (fun k hk e => by have := HH.out.ge; have : k = rb := e; omega)))
  have hb := Lib.atoiAll_bounds hA
  have q1 := bs_ne hI
  rw [hn] at HN
  clear hI
  clear h e0 hw h39 h40
  go_enter Tryd.func65, Tryd.ntmps65
  go_wp2_with (first
    | (go_at_call 64; refine HD.out.mono ?_; rintro e w2 ⟨rfl, hp, hf⟩; have hpk := peek_any rb l 0 w2 hp hl; have HPK := hide hpk; obtain ⟨b0, b1, -, -, -, -, -, -, -, -, hlt⟩ := boxes hrb hf; have HF := hide hf; clear hp hf hpk)
    | (go_at_call 41; refine HPK.out.mono ?_; rintro e w4 ⟨rfl, hp, hf⟩; have hf4 := HF.out.trans hf; clear b0 b1 hlt; obtain ⟨b0, b1, -, -, -, -, -, -, -, -, hlt⟩ := boxes hrb hf4; have hwd := word_any rb (skip l) 0 w4 hp (by omega); rw [HW.out] at hwd; have HWD := hide hwd; have HF4 := hide hf4; clear hp hf hf4 hwd)
    | (go_at_call 55; refine HWD.out.mono ?_; rintro e w5 ⟨rfl, hp, hf⟩; have hf5 := HF4.out.trans hf; clear b0 b1 hlt; obtain ⟨b0, b1, c0, c1, c2, c3, f0, f1, f2, f3, hlt⟩ := boxes hrb hf5; have HP5 := hide hp; have HF5 := hide hf5; clear hp hf hf5)
    | (go_at_call 71; refine (atoi_ok v n hA _ hvl).mono ?_; rintro e w6 ⟨rfl, hfa⟩; have hf6 := HF5.out.trans (w0_fr hfa rb); clear b0 b1 c0 c1 c2 c3 f0 f1 f2 f3 hlt; obtain ⟨b0, b1, c0, c1, c2, c3, f0, f1, f2, f3, hlt⟩ := boxes hrb hf6; have HP6 := hide (HP5.out.fr hfa id); have HF6 := hide hf6; clear hfa hf6)
    | (go_at_call 40; refine (itoa_any n hb.1 hb.2 _ (TAB.out _ HF6.out)).mono ?_; rintro e w7 ⟨rfl, hfi⟩; have hf7 := HF6.out.trans (w0_fr hfi rb); clear b0 b1 c0 c1 c2 c3 f0 f1 f2 f3 hlt; obtain ⟨b0, b1, c0, c1, c2, c3, f0, f1, f2, f3, hlt⟩ := boxes hrb hf7; have HP7 := hide (HP6.out.fr hfi id); have HF7 := hide hf7; clear hfi hf7)
    | (go_at_call 56; refine (HN.out _).mono ?_; rintro e w8 ⟨rfl, hfn⟩; have hf8 := HF7.out.trans (w0_fr hfn rb); clear b0 b1 c0 c1 c2 c3 f0 f1 f2 f3 hlt; obtain ⟨b0, b1, c0, c1, c2, c3, f0, f1, f2, f3, hlt⟩ := boxes hrb hf8; have HP8 := hide (HP7.out.fr hfn id); have HF8 := hide hf8; clear hfn hf8)
    )
  refine bodyPost_ret (v := ev ⟨3, 0, v, nilS⟩) (by simp [results, Tryd.results65, go_sem, c0, c1, c2, c3, bs]) rfl ?_
  exact ex_fin (res := ⟨.mk 3 0 v [], l', z⟩) hrb HF8.out HP8.out (ex_leaf _ _ _ _ _) _ _ _ _
set_option maxHeartbeats 1000000 in
set_option maxRecDepth 20000 in
theorem expr_word_name_yes (w0 : World) (rb : Nat) (l : Bs) (d : Int) (w : World) (h : Pw w0 rb l 0 w) (hd : d ≤ 10) (h39 : (skip l).head? ≠ some 39) (h40 : (skip l).head? ≠ some 40) {v l' : Bs} {z : Int} (hw : word (skip l) 0 = ⟨v, l', z⟩) (hA : ∀ n, Lib.atoiAll v ≠ .ok n) (hn : isName v = true) :
    Calls Tryd.prog 65 #[.pointer (some ⟨rb, 0, none⟩), .int .i64 d] w (XPost ev ExOk rb w ⟨.mk 3 0 v [], l', z⟩) := by
  have HD := hide (deep_any rb l 0 d _ (h.pr.fr (fr3 w rb d) (S := nothing) id))
  have hrb := h.pr.lt
  have e0 : deepZ d 0 = 0 := by simp [deepZ]; omega
  rw [e0] at HD
  have hl := h.len
  have hsl := skip_len l
  have hvl : v.length ≤ 1500 := by
    have : v = (word (skip l) 0).v := by rw [hw]
    rw [this]
    exact Nat.le_trans (List.takeWhile_sublist _).length_le (Nat.le_trans (skip_len _) (by omega))
  have n39 : ¬ ((peekC (skip l)).toNat : Int) = 39 := peek_no (c := 39) (by decide) h39
  have n40 : ¬ ((peekC (skip l)).toNat : Int) = 40 := peek_no (c := 40) (by decide) h40
  have q39 : (((peekC (skip l)).toNat : Int) == 39) = false := by simpa using n39
  have b40 := ne_bne n40
  have HW := hide hw
  have HH := hide h
  have HN := hide (fun w => name_any v w hvl)
  have ER : Hid (∀ w', Fr (at_ rb) (w3of w rb d) w' → Er w') := fun w' hf => HH.out.er.fr (Fr.of_below (HH.out.bel.trans (((fr3 w rb d).trans hf).below HH.out.bel.size (fun k hk e => by have := HH.out.ge; have : k = rb := e; omega))) (Nat.le_refl _) nothing) id id
  rw [hn] at HN
  clear h e0 hw h39 h40
  go_enter Tryd.func65, Tryd.ntmps65
  go_wp2_with (first
    | (go_at_call 64; refine HD.out.mono ?_; rintro e w2 ⟨rfl, hp, hf⟩; have hpk := peek_any rb l 0 w2 hp hl; have HPK := hide hpk; obtain ⟨b0, b1, -, -, -, -, -, -, -, -, hlt⟩ := boxes hrb hf; have HF := hide hf; clear hp hf hpk)
    | (go_at_call 41; refine HPK.out.mono ?_; rintro e w4 ⟨rfl, hp, hf⟩; have hf4 := HF.out.trans hf; clear b0 b1 hlt; obtain ⟨b0, b1, -, -, -, -, -, -, -, -, hlt⟩ := boxes hrb hf4; have hwd := word_any rb (skip l) 0 w4 hp (by omega); rw [HW.out] at hwd; have HWD := hide hwd; have HF4 := hide hf4; clear hp hf hf4 hwd)
    | (go_at_call 55; refine HWD.out.mono ?_; rintro e w5 ⟨rfl, hp, hf⟩; have hf5 := HF4.out.trans hf; clear b0 b1 hlt; obtain ⟨b0, b1, c0, c1, c2, c3, f0, f1, f2, f3, hlt⟩ := boxes hrb hf5; have HP5 := hide hp; have HF5 := hide hf5; clear hp hf hf5)
    | (go_at_call 71; refine (atoi_fails v _ (ER.out _ HF5.out) hvl hA).mono ?_; rintro e w6 ⟨n, N, rfl, hfa⟩; have hf6 := HF5.out.trans (w0_fr hfa rb); clear b0 b1 c0 c1 c2 c3 f0 f1 f2 f3 hlt; obtain ⟨b0, b1, c0, c1, c2, c3, f0, f1, f2, f3, hlt⟩ := boxes hrb hf6; have HP6 := hide (HP5.out.fr hfa id); have HF6 := hide hf6; clear hfa hf6)
    | (go_at_call 56; refine (HN.out _).mono ?_; rintro e w8 ⟨rfl, hfn⟩; have hf8 := HF6.out.trans (w0_fr hfn rb); clear b0 b1 c0 c1 c2 c3 f0 f1 f2 f3 hlt; obtain ⟨b0, b1, c0, c1, c2, c3, f0, f1, f2, f3, hlt⟩ := boxes hrb hf8; have HP8 := hide (HP6.out.fr hfn id); have HF8 := hide hf8; clear hfn hf8)
    )
  refine bodyPost_ret (v := ev ⟨3, 0, v, nilS⟩) (by simp [results, Tryd.results65, go_sem, c0, c1, c2, c3, bs]) rfl ?_
  exact ex_fin (res := ⟨.mk 3 0 v [], l', z⟩) hrb HF8.out HP8.out (ex_leaf _ _ _ _ _) _ _ _ _
set_option maxHeartbeats 1000000 in
set_option maxRecDepth 20000 in
theorem expr_word_odd_no (w0 : World) (rb : Nat) (l : Bs) (d : Int) (w : World) (h : Pw w0 rb l 0 w) (hd : d ≤ 10) (h39 : (skip l).head? ≠ some 39) (h40 : (skip l).head? ≠ some 40) {v l' : Bs} {z : Int} (hw : word (skip l) 0 = ⟨v, l', z⟩) {n : Int} (hA : Lib.atoiAll v = .ok n) (hI : ¬ Lib.itoa n = v) (hn : isName v = false) :
    Calls Tryd.prog 65 #[.pointer (some ⟨rb, 0, none⟩), .int .i64 d] w (XPost ev ExOk rb w ⟨.mk 3 0 v [], l', bad z 7⟩) := by
  have HD := hide (deep_any rb l 0 d _ (h.pr.fr (fr3 w rb d) (S := nothing) id))
  have hrb := h.pr.lt
  have e0 : deepZ d 0 = 0 := by simp [deepZ]; omega
  rw [e0] at HD
  have hl := h.len
  have hsl := skip_len l
  have hvl : v.length ≤ 1500 := by
    have : v = (word (skip l) 0).v := by rw [hw]
    rw [this]
    exact Nat.le_trans (List.takeWhile_sublist _).length_le (Nat.le_trans (skip_len _) (by omega))
  have n39 : ¬ ((peekC (skip l)).toNat : Int) = 39 := peek_no (c := 39) (by decide) h39
  have n40 : ¬ ((peekC (skip l)).toNat : Int) = 40 := peek_no (c := 40) (by decide) h40
  have q39 : (((peekC (skip l)).toNat : Int) == 39) = false := by simpa using n39
  have b40 := ne_bne n40
  have HW := hide hw
  have HH := hide h
  have HN := hide (fun w => name_any v w hvl)
  have TAB : Hid (∀ w', Fr (at_ rb) (w3of w rb d) w' → Tab w') := fun w' hf => Lib.tabBelow_of_tabIs HH.out.tab w' (HH.out.bel.trans (((fr3 w rb d).trans hf).below HH.out.bel.size (fun k hk e => by have := HH.out.ge; have : k = rb := e; omega)))
  have hb := Lib.atoiAll_bounds hA
  have q1 := bs_ne hI
  rw [hn] at HN
  clear hI
  clear h e0 hw h39 h40
  go_enter Tryd.func65, Tryd.ntmps65
  go_wp2_with (first
    | (go_at_call 64; refine HD.out.mono ?_; rintro e w2 ⟨rfl, hp, hf⟩; have hpk := peek_any rb l 0 w2 hp hl; have HPK := hide hpk; obtain ⟨b0, b1, -, -, -, -, -, -, -, -, hlt⟩ := boxes hrb hf; have HF := hide hf; clear hp hf hpk)
    | (go_at_call 41; refine HPK.out.mono ?_; rintro e w4 ⟨rfl, hp, hf⟩; have hf4 := HF.out.trans hf; clear b0 b1 hlt; obtain ⟨b0, b1, -, -, -, -, -, -, -, -, hlt⟩ := boxes hrb hf4; have hwd := word_any rb (skip l) 0 w4 hp (by omega); rw [HW.out] at hwd; have HWD := hide hwd; have HF4 := hide hf4; clear hp hf hf4 hwd)
    | (go_at_call 55; refine HWD.out.mono ?_; rintro e w5 ⟨rfl, hp, hf⟩; have hf5 := HF4.out.trans hf; clear b0 b1 hlt; obtain ⟨b0, b1, c0, c1, c2, c3, f0, f1, f2, f3, hlt⟩ := boxes hrb hf5; have HP5 := hide hp; have HF5 := hide hf5; clear hp hf hf5)
    | (go_at_call 71; refine (atoi_ok v n hA _ hvl).mono ?_; rintro e w6 ⟨rfl, hfa⟩; have hf6 := HF5.out.trans (w0_fr hfa rb); clear b0 b1 c0 c1 c2 c3 f0 f1 f2 f3 hlt; obtain ⟨b0, b1, c0, c1, c2, c3, f0, f1, f2, f3, hlt⟩ := boxes hrb hf6; have HP6 := hide (HP5.out.fr hfa id); have HF6 := hide hf6; clear hfa hf6)
    | (go_at_call 40; refine (itoa_any n hb.1 hb.2 _ (TAB.out _ HF6.out)).mono ?_; rintro e w7 ⟨rfl, hfi⟩; have hf7 := HF6.out.trans (w0_fr hfi rb); clear b0 b1 c0 c1 c2 c3 f0 f1 f2 f3 hlt; obtain ⟨b0, b1, c0, c1, c2, c3, f0, f1, f2, f3, hlt⟩ := boxes hrb hf7; have HP7 := hide (HP6.out.fr hfi id); have HF7 := hide hf7; clear hfi hf7)
    | (go_at_call 56; refine (HN.out _).mono ?_; rintro e w8 ⟨rfl, hfn⟩; have hf8 := HF7.out.trans (w0_fr hfn rb); clear b0 b1 c0 c1 c2 c3 f0 f1 f2 f3 hlt; obtain ⟨b0, b1, c0, c1, c2, c3, f0, f1, f2, f3, hlt⟩ := boxes hrb hf8; have HP8 := hide (HP7.out.fr hfn id); have HF8 := hide hf8; clear hfn hf8)
    | (go_at_call 54; refine (bad_any rb l' z 7 _ HP8.out).mono ?_; rintro e w9 ⟨rfl, hp, hf⟩; have hf9 := HF8.out.trans hf; clear b0 b1 c0 c1 c2 c3 f0 f1 f2 f3 hlt; obtain ⟨b0, b1, c0, c1, c2, c3, f0, f1, f2, f3, hlt⟩ := boxes hrb hf9; have HP9 := hide hp; have HF9 := hide hf9; clear hp hf hf9)
    )
  refine bodyPost_ret (v := ev ⟨3, 0, v, nilS⟩) (by simp [results, Tryd.results65, go_sem, c0, c1, c2, c3, bs]) rfl ?_
  exact ex_fin (res := ⟨.mk 3 0 v [], l', bad z 7⟩) hrb HF9.out HP9.out (ex_leaf _ _ _ _ _) _ _ _ _
set_option maxHeartbeats 1000000 in
set_option maxRecDepth 20000 in
theorem expr_word_name_no (w0 : World) (rb : Nat) (l : Bs) (d : Int) (w : World) (h : Pw w0 rb l 0 w) (hd : d ≤ 10) (h39 : (skip l).head? ≠ some 39) (h40 : (skip l).head? ≠ some 40) {v l' : Bs} {z : Int} (hw : word (skip l) 0 = ⟨v, l', z⟩) (hA : ∀ n, Lib.atoiAll v ≠ .ok n) (hn : isName v = false) :
    Calls Tryd.prog 65 #[.pointer (some ⟨rb, 0, none⟩), .int .i64 d] w (XPost ev ExOk rb w ⟨.mk 3 0 v [], l', bad z 7⟩) := by
  have HD := hide (deep_any rb l 0 d _ (h.pr.fr (fr3 w rb d) (S := nothing) id))
  have hrb := h.pr.lt
  have e0 : deepZ d 0 = 0 := by simp [deepZ]; omega
  rw [e0] at HD
  have hl := h.len
  have hsl := skip_len l
  have hvl : v.length ≤ 1500 := by
    have : v = (word (skip l) 0).v := by rw [hw]
    rw [this]
    exact Nat.le_trans (List.takeWhile_sublist _).length_le (Nat.le_trans (skip_len _) (by omega))
  have n39 : ¬ ((peekC (skip l)).toNat : Int) = 39 := peek_no (c := 39) (by decide) h39
  have n40 : ¬ ((peekC (skip l)).toNat : Int) = 40 := peek_no (c := 40) (by decide) h40
  have q39 : (((peekC (skip l)).toNat : Int) == 39) = false := by simpa using n39
  have b40 := ne_bne n40
  have HW := hide hw
  have HH := hide h
  have HN := hide (fun w => name_any v w hvl)
  have ER : Hid (∀ w', Fr (at_ rb) (w3of w rb d) w' → Er w') := fun w' hf => HH.out.er.fr (Fr.of_below (HH.out.bel.trans (((fr3 w rb d).trans hf).below HH.out.bel.size (fun k hk e => by have := HH.out.ge; have : k = rb := e; omega))) (Nat.le_refl _) nothing) id id
  rw [hn] at HN
  clear h e0 hw h39 h40
  go_enter Tryd.func65, Tryd.ntmps65
  go_wp2_with (first
    | (go_at_call 64; refine HD.out.mono ?_; rintro e w2 ⟨rfl, hp, hf⟩; have hpk := peek_any rb l 0 w2 hp hl; have HPK := hide hpk; obtain ⟨b0, b1, -, -, -, -, -, -, -, -, hlt⟩ := boxes hrb hf; have HF := hide hf; clear hp hf hpk)
    | (go_at_call 41; refine HPK.out.mono ?_; rintro e w4 ⟨rfl, hp, hf⟩; have hf4 := HF.out.trans hf; clear b0 b1 hlt; obtain ⟨b0, b1, -, -, -, -, -, -, -, -, hlt⟩ := boxes hrb hf4; have hwd := word_any rb (skip l) 0 w4 hp (by omega); rw [HW.out] at hwd; have HWD := hide hwd; have HF4 := hide hf4; clear hp hf hf4 hwd)
    | (go_at_call 55; refine HWD.out.mono ?_; rintro e w5 ⟨rfl, hp, hf⟩; have hf5 := HF4.out.trans hf; clear b0 b1 hlt; obtain ⟨b0, b1, c0, c1, c2, c3, f0, f1, f2, f3, hlt⟩ := boxes hrb hf5; have HP5 := hide hp; have HF5 := hide hf5; clear hp hf hf5)
    | (go_at_call 71; refine (atoi_fails v _ (ER.out _ HF5.out) hvl hA).mono ?_; rintro e w6 ⟨n, N, rfl, hfa⟩; have hf6 := HF5.out.trans (w0_fr hfa rb); clear b0 b1 c0 c1 c2 c3 f0 f1 f2 f3 hlt; obtain ⟨b0, b1, c0, c1, c2, c3, f0, f1, f2, f3, hlt⟩ := boxes hrb hf6; have HP6 := hide (HP5.out.fr hfa id); have HF6 := hide hf6; clear hfa hf6)
    | (go_at_call 56; refine (HN.out _).mono ?_; rintro e w8 ⟨rfl, hfn⟩; have hf8 := HF6.out.trans (w0_fr hfn rb); clear b0 b1 c0 c1 c2 c3 f0 f1 f2 f3 hlt; obtain ⟨b0, b1, c0, c1, c2, c3, f0, f1, f2, f3, hlt⟩ := boxes hrb hf8; have HP8 := hide (HP6.out.fr hfn id); have HF8 := hide hf8; clear hfn hf8)
    | (go_at_call 54; refine (bad_any rb l' z 7 _ HP8.out).mono ?_; rintro e w9 ⟨rfl, hp, hf⟩; have hf9 := HF8.out.trans hf; clear b0 b1 c0 c1 c2 c3 f0 f1 f2 f3 hlt; obtain ⟨b0, b1, c0, c1, c2, c3, f0, f1, f2, f3, hlt⟩ := boxes hrb hf9; have HP9 := hide hp; have HF9 := hide hf9; clear hp hf hf9)
    )
  refine bodyPost_ret (v := ev ⟨3, 0, v, nilS⟩) (by simp [results, Tryd.results65, go_sem, c0, c1, c2, c3, bs]) rfl ?_
  exact ex_fin (res := ⟨.mk 3 0 v [], l', bad z 7⟩) hrb HF9.out HP9.out (ex_leaf _ _ _ _ _) _ _ _ _
end Go.Proofs.YtpemfikdmkmgbaaDoor
end
section
/- What a statement's walk leans on. -/
namespace Go.Proofs.YtpemfikdmkmgbaaDoor
open Go.RowKit

/-- A block of five cells. -/
structure B5 (b : Nat) (v0 v1 v2 v3 v4 : Value) (w : World) : Prop where
  c0 : w.cell? ⟨b, 0, none⟩ = some v0
  c1 : w.cell? ⟨b, 1, none⟩ = some v1
  c2 : w.cell? ⟨b, 2, none⟩ = some v2
  c3 : w.cell? ⟨b, 3, none⟩ = some v3
  c4 : w.cell? ⟨b, 4, none⟩ = some v4
  f : ∀ j, w.frozen? ⟨b, j, none⟩ = false
  lt : b < w.heap.size
theorem B5.fr {b : Nat} {v0 v1 v2 v3 v4 : Value} {w w' : World} {S : Nat → Prop} (h : B5 b v0 v1 v2 v3 v4 w) (hf : Fr S w w') (hs : ¬ S b) : B5 b v0 v1 v2 v3 v4 w' :=
  ⟨(hf.cell (p := ⟨b, 0, none⟩) h.lt hs).trans h.c0, (hf.cell (p := ⟨b, 1, none⟩) h.lt hs).trans h.c1, (hf.cell (p := ⟨b, 2, none⟩) h.lt hs).trans h.c2, (hf.cell (p := ⟨b, 3, none⟩) h.lt hs).trans h.c3, (hf.cell (p := ⟨b, 4, none⟩) h.lt hs).trans h.c4, fun j => (hf.frozen (p := ⟨b, j, none⟩) h.lt hs).trans (h.f j), Nat.lt_of_lt_of_le h.lt hf.size⟩
theorem B5.made (w : World) (v0 v1 v2 v3 v4 : Value) (t : TypeId) : B5 w.heap.size v0 v1 v2 v3 v4 (w.alloc (.cells #[v0, v1, v2, v3, v4] t)) := by
  have hn := made_cells (Fr.refl nothing (w.alloc (.cells #[v0, v1, v2, v3, v4] t))) id
  exact ⟨hn.1 0, hn.1 1, hn.1 2, hn.1 3, hn.1 4, hn.2.1, hn.2.2⟩
theorem B5.set1 {b : Nat} {v0 v1 v2 v3 v4 : Value} {w : World} (h : B5 b v0 v1 v2 v3 v4 w) (u : Value) : B5 b v0 u v2 v3 v4 (w.setCell ⟨b, 1, none⟩ u) :=
  ⟨(World.cell?_setCell_other w ⟨b, 1, none⟩ ⟨b, 0, none⟩ _ (by simp)).trans h.c0, World.cell?_setCell_same _ _ _ h.c1, (World.cell?_setCell_other w ⟨b, 1, none⟩ ⟨b, 2, none⟩ _ (by simp)).trans h.c2, (World.cell?_setCell_other w ⟨b, 1, none⟩ ⟨b, 3, none⟩ _ (by simp)).trans h.c3, (World.cell?_setCell_other w ⟨b, 1, none⟩ ⟨b, 4, none⟩ _ (by simp)).trans h.c4, fun j => by rw [World.frozen?_setCell]; exact h.f j, by have := h.lt; simpa [World.setCell] using this⟩
theorem B5.set3 {b : Nat} {v0 v1 v2 v3 v4 : Value} {w : World} (h : B5 b v0 v1 v2 v3 v4 w) (u : Value) : B5 b v0 v1 v2 u v4 (w.setCell ⟨b, 3, none⟩ u) :=
  ⟨(World.cell?_setCell_other w ⟨b, 3, none⟩ ⟨b, 0, none⟩ _ (by simp)).trans h.c0, (World.cell?_setCell_other w ⟨b, 3, none⟩ ⟨b, 1, none⟩ _ (by simp)).trans h.c1, (World.cell?_setCell_other w ⟨b, 3, none⟩ ⟨b, 2, none⟩ _ (by simp)).trans h.c2, World.cell?_setCell_same _ _ _ h.c3, (World.cell?_setCell_other w ⟨b, 3, none⟩ ⟨b, 4, none⟩ _ (by simp)).trans h.c4, fun j => by rw [World.frozen?_setCell]; exact h.f j, by have := h.lt; simpa [World.setCell] using this⟩
theorem B5.set4 {b : Nat} {v0 v1 v2 v3 v4 : Value} {w : World} (h : B5 b v0 v1 v2 v3 v4 w) (u : Value) : B5 b v0 v1 v2 v3 u (w.setCell ⟨b, 4, none⟩ u) :=
  ⟨(World.cell?_setCell_other w ⟨b, 4, none⟩ ⟨b, 0, none⟩ _ (by simp)).trans h.c0, (World.cell?_setCell_other w ⟨b, 4, none⟩ ⟨b, 1, none⟩ _ (by simp)).trans h.c1, (World.cell?_setCell_other w ⟨b, 4, none⟩ ⟨b, 2, none⟩ _ (by simp)).trans h.c2, (World.cell?_setCell_other w ⟨b, 4, none⟩ ⟨b, 3, none⟩ _ (by simp)).trans h.c3, World.cell?_setCell_same _ _ _ h.c4, fun j => by rw [World.frozen?_setCell]; exact h.f j, by have := h.lt; simpa [World.setCell] using this⟩
/-- A list whose blocks lie from B on. -/
def GOk {ρ α : Type} (enc : ρ → List Value) (sz : Nat) (ok : World → (Nat → Prop) → ρ → α → Prop) (B : Nat) (w : World) (s : Slc) (xs : List α) : Prop :=
  ∃ rs : List ρ, Sl enc sz w s.v rs ∧ (∀ b, s.v.ownBlock = some b → B ≤ b ∧ b < w.heap.size) ∧ Each (ok w (fun k => B ≤ k ∧ k < w.heap.size)) rs xs
theorem GOk.nil {ρ α : Type} {enc : ρ → List Value} {sz : Nat} {ok : World → (Nat → Prop) → ρ → α → Prop} {B : Nat} {w : World} : GOk enc sz ok B w nilS ([] : List α) :=
  ⟨[], ⟨none, 0, rfl, by unfold maxLen; simp, fun i x h => by simp at h⟩, fun b h => (by cases h), rfl, fun i r x h => (by simp at h)⟩
theorem GOk.fr {ρ α : Type} {enc : ρ → List Value} {sz : Nat} {ok : World → (Nat → Prop) → ρ → α → Prop} (hst : Stays ok) {B : Nat} {w w' : World} {s : Slc} {xs : List α} {S : Nat → Prop} (h : GOk enc sz ok B w s xs) (hf : Fr S w w') (hs : ∀ k, S k → k < B) : GOk enc sz ok B w' s xs := by
  obtain ⟨rs, h1, h2, h3⟩ := h
  refine ⟨rs, h1.keep hf h2 (fun k hk e => by have := hs k e; omega), fun b hb => ?_, h3.1, fun i r x a b => hst w w' S _ _ r x (h3.2 i r x a b) hf (fun k hk e => by have := hs k e; omega) (fun k hk => ⟨hk.1, Nat.lt_of_lt_of_le hk.2 hf.size⟩)⟩
  have := h2 b hb
  have := hf.size
  omega
theorem GOk.since {ρ α : Type} {enc : ρ → List Value} {sz : Nat} {ok : World → (Nat → Prop) → ρ → α → Prop} (hst : Stays ok) {B B' : Nat} {w : World} {s : Slc} {xs : List α} (h : GOk enc sz ok B w s xs) (hB : B' ≤ B) : GOk enc sz ok B' w s xs := by
  obtain ⟨rs, h1, h2, h3⟩ := h
  exact ⟨rs, h1, fun b hb => by have := h2 b hb; omega, h3.1, fun i r x a b => hst w w nothing _ _ r x (h3.2 i r x a b) (Fr.refl _ _) (fun _ _ => id) (fun k hk => ⟨by omega, hk.2⟩)⟩
/-- The answer is laid in its own block. -/
theorem st_fin {rb B : Nat} {w w' : World} {res : Rd St} {c : Int} {nm : Bs} {sa sx sy : Slc} {la : List Ex} {lx ly : List St} (hrb : rb < w.heap.size) (hf : Fr (at_ rb) w w') (hp : Pr rb res.l res.z w') (hv : res.v = .mk c nm la lx ly) (hB : w.heap.size < B)
    (ha : GOk encE 4 ExOk B w' sa la) (hx : GOk encS 5 StOk B w' sx lx) (hy : GOk encS 5 StOk B w' sy ly) (u0 u1 u2 u3 u4 : Value) :
    XPost sv StOk rb w res (.returned (sv ⟨c, nm, sa, sx, sy⟩)) (((((w'.setCell ⟨w.heap.size, 0, none⟩ u0).setCell ⟨w.heap.size, 1, none⟩ u1).setCell ⟨w.heap.size, 2, none⟩ u2).setCell ⟨w.heap.size, 3, none⟩ u3).setCell ⟨w.heap.size, 4, none⟩ u4) := by
  have hf9 : Fr (fun k => k = w.heap.size) w' (((((w'.setCell ⟨w.heap.size, 0, none⟩ u0).setCell ⟨w.heap.size, 1, none⟩ u1).setCell ⟨w.heap.size, 2, none⟩ u2).setCell ⟨w.heap.size, 3, none⟩ u3).setCell ⟨w.heap.size, 4, none⟩ u4) := Fr.putAll (us := [u0, u1, u2, u3, u4]) (o := 0) (g := w.heap.size) (Fr.refl _ w') (.inl rfl)
  have ha9 := ha.fr ex_stays hf9 (fun k e => by omega)
  have hx9 := hx.fr st_stays hf9 (fun k e => by omega)
  have hy9 := hy.fr st_stays hf9 (fun k e => by omega)
  obtain ⟨ra, a1, a2, a3⟩ := ha9.since ex_stays (Nat.le_of_lt hB)
  obtain ⟨rx, x1, x2, x3⟩ := hx9.since st_stays (Nat.le_of_lt hB)
  obtain ⟨ry, y1, y2, y3⟩ := hy9.since st_stays (Nat.le_of_lt hB)
  refine ⟨⟨c, nm, sa, sx, sy⟩, rfl, hf.then hf9 (fun j hj e => by omega), hp.fr hf9 (by omega), ?_⟩
  rw [hv]
  exact .mk _ _ _ _ _ ra rx ry la lx ly a1 a2 a3 x1 x2 x3.1 x3.2 y1 y2 y3.1 y3.2
theorem times_step {α : Type} (one : Reader α) {n j : Nat} (h : j < n) (l : Bs) (z : Int) : times one (n - j) l z = (times one (n - (j + 1)) (one l z).l (one l z).z).after [(one l z).v] := by
  obtain ⟨m, hm⟩ : ∃ m, n - j = m + 1 := ⟨n - j - 1, by omega⟩
  rw [hm, show n - (j + 1) = m by omega]
  rfl
theorem argsV_get : ∀ c, c < 10 → (#[Value.int .i64 0, .int .i64 1, .int .i64 1, .int .i64 1, .int .i64 1, .int .i64 1, .int .i64 1, .int .i64 2, .int .i64 2, .int .i64 1] : Array Value)[c]? = some (.int .i64 (argsOf c))
  | 0, _ => rfl
  | 1, _ => rfl
  | 2, _ => rfl
  | 3, _ => rfl
  | 4, _ => rfl
  | 5, _ => rfl
  | 6, _ => rfl
  | 7, _ => rfl
  | 8, _ => rfl
  | 9, _ => rfl
  | n + 10, h => by omega
theorem argsOf_le (c : Nat) : argsOf c ≤ 2 := by unfold argsOf; split; omega; split <;> omega
end Go.Proofs.YtpemfikdmkmgbaaDoor
end
section
/- A statement: no word of a statement. -/
namespace Go.Proofs.YtpemfikdmkmgbaaDoor
open Go.RowKit

set_option maxHeartbeats 4000000 in
set_option maxRecDepth 20000 in
theorem stmt_zero (w0 : World) (rb : Nat) (l : Bs) (d : Int) (w : World) (h : Pw w0 rb l 0 w) (hd0 : 0 ≤ d) (hd : d ≤ 10) (one : Reader Ex) (hsmall : Small one) (hless : Less one) (hkeeps : Keeps one)
    (hone : ∀ l z w, Pw w0 rb l z w → Calls Tryd.prog 65 #[.pointer (some ⟨rb, 0, none⟩), .int .i64 (d + 1)] w (XPost ev ExOk rb w (one l z)))
    {l1 l2 v : Bs} {z1 z2 : Int} (hm : must 40 l 0 = ⟨(), l1, z1⟩) (hw : word l1 z1 = ⟨v, l2, z2⟩) {c : Nat} (hc : kindOf v = c) (h0 : c = 0)
    {q : Rd (List Ex)} (hq : times one (argsOf c) l2 (bad z2 1) = q)  :
    Calls Tryd.prog 58 #[.pointer (some ⟨rb, 0, none⟩), .int .i64 d] w (XPost sv StOk rb w ⟨.mk c [] q.v [] [], (must 41 q.l q.z).l, (must 41 q.l q.z).z⟩) := by
  have hrb := h.pr.lt
  have hge := h.ge
  have hF1 : Fr nothing w (w.alloc (.cells #[.int .i64 0, .string ⟨#[]⟩, .slice none 0 0, .slice none 0 0, .slice none 0 0] 128)) := (Fr.refl _ w).alloc _
  have HRES : Hid (∀ w', Fr (at_ rb) (w.alloc (.cells #[.int .i64 0, .string ⟨#[]⟩, .slice none 0 0, .slice none 0 0, .slice none 0 0] 128)) w' → B5 w.heap.size (.int .i64 0) (.string ⟨#[]⟩) (.slice none 0 0) (.slice none 0 0) (.slice none 0 0) w') := fun w' hf => (B5.made w _ _ _ _ _ 128).fr hf (by show ¬ w.heap.size = rb; omega)
  have HD := hide (deep_any rb l 0 d _ (h.pr.fr hF1 id))
  have e0 : deepZ d 0 = 0 := by simp [deepZ]; omega
  rw [e0] at HD
  have hl := h.len
  have hl1 : l1.length ≤ l.length := by have := must_small 40 l 0; rw [hm] at this; exact this
  have hl2 : l2.length ≤ l1.length := by have := word_small l1 z1; rw [hw] at this; exact this
  have hvl : v.length ≤ 1500 := by
    have : v = (word l1 z1).v := by rw [hw]
    rw [this]
    exact Nat.le_trans (List.takeWhile_sublist _).length_le (Nat.le_trans (skip_len _) (by omega))
  have HMU : Hid (∀ w', Pr rb l 0 w' → Calls Tryd.prog 42 #[.pointer (some ⟨rb, 0, none⟩), .int .u8 40] w' fun r w'' => r = .returned (.tuple #[]) ∧ Pr rb l1 z1 w'' ∧ Fr (at_ rb) w' w'') := fun w' hp => by
    have := must_any rb l 0 40 w' hp hl (by decide)
    rw [hm] at this
    exact this
  have HWD : Hid (∀ w', Pr rb l1 z1 w' → Calls Tryd.prog 55 #[.pointer (some ⟨rb, 0, none⟩)] w' fun e w'' => e = .returned (.string (bs v)) ∧ Pr rb l2 z2 w'' ∧ Fr (at_ rb) w' w'') := fun w' hp => by
    have := word_any rb l1 z1 w' hp (by omega)
    rw [hw] at this
    exact this
  have HH := hide h
  have HONE := hide hone
  have HQ := hide hq
  have hwr : IntKind.i64.wrap (d + 1) = d + 1 := wrap_in _ (by omega) (by omega)
  obtain ⟨j0, hj0, hy0, hy1, hy2⟩ := info_parts sizeEx
  have i0 : (0 : Int) ≤ (c : Int) := by omega
  have i9 : (c : Int) < 10 := by omega
  have hc10 : c < 10 := by omega
  have hg2 : ([.int .i64 0, .int .i64 1, .int .i64 1, .int .i64 1, .int .i64 1, .int .i64 1, .int .i64 1, .int .i64 2, .int .i64 2, .int .i64 1] : List Value)[c]'(by simp; omega) = .int .i64 (argsOf c) := by
    have := argsV_get c hc10
    rw [List.getElem?_toArray, List.getElem?_eq_getElem (by simp; omega)] at this
    exact Option.some.inj this
  have q0 : (c : Int) = 0 := by omega
  have p0 : ((c : Int) == 0) = true := by simpa using q0
  clear q0
  have q1 : ¬ (c : Int) = 1 := by omega
  have p1 : ((c : Int) == 1) = false := by simpa using q1
  have q2 : ¬ (c : Int) = 2 := by omega
  have p2 : ((c : Int) == 2) = false := by simpa using q2
  have q3 : ¬ (c : Int) = 3 := by omega
  have p3 : ((c : Int) == 3) = false := by simpa using q3
  have q4 : ¬ (c : Int) = 4 := by omega
  have p4 : ((c : Int) == 4) = false := by simpa using q4
  clear h0
  clear h e0 hm hw hone hq hF1
  go_enter Tryd.func58, Tryd.ntmps58
  go_wp2_with (first
    | (go_at_call 64; refine HD.out.mono ?_; rintro e wd ⟨rfl, hp, hf⟩; have HPD := hide hp; have HFD := hide hf; clear hp hf)
    | (go_at_call 42; refine (HMU.out _ HPD.out).mono ?_; rintro e wm ⟨rfl, hp, hf⟩; have HPM := hide hp; have HFM := hide (HFD.out.trans hf); clear hp hf)
    | (go_at_call 55; refine (HWD.out _ HPM.out).mono ?_; rintro e w5 ⟨rfl, hp, hf⟩; have HP5 := hide hp; have HF5 := hide (HFM.out.trans hf); obtain ⟨m1, m2, m3, m4, m5, m6, m7, m8, m9, r1, r2, r3, r4, r5, r6, r7, r8, r9, rl, hfm, hlm⟩ := kinds_run w5 v hvl; rw [hc] at rl; have hmm := @run_makeMap Tryd.prog; have HFM9 := hide (HF5.out.trans (w0_fr hfm rb)); have HPM9 := hide (hp.fr hfm id); have hbm : w.heap.size < m9.heap.size := (by have := HFM9.out.size; simp at this; omega); clear hp hf hfm)
    | (go_at_call 54; refine (bad_any rb l2 z2 1 (m9.alloc (.cells #[.int .i64 c, .string ⟨#[]⟩, .slice none 0 0, .slice none 0 0, .slice none 0 0] 128)) (HPM9.out.fr ((Fr.refl nothing m9).alloc _) id)).mono ?_; rintro e wb ⟨rfl, hp, hf⟩; have hix : (wb.alloc (.cells #[.int .i64 0, .int .i64 1, .int .i64 1, .int .i64 1, .int .i64 1, .int .i64 1, .int .i64 1, .int .i64 2, .int .i64 2, .int .i64 1] 3)).cell? ⟨wb.heap.size, c, none⟩ = some (.int .i64 (argsOf c)) := (by first | (rw [World.cell?_alloc_new]; exact argsV_get c hc10) | (rw [show wb.heap.size = wb.heap.size by first | (simp; done) | simp [World.setCell], World.cell?_alloc_new]; exact argsV_get c hc10)); have HBS := hide ((B5.made m9 (.int .i64 c) (.string (bs [])) (.slice none 0 0) (.slice none 0 0) (.slice none 0 0) 128).fr hf (by show ¬ m9.heap.size = rb; omega)); have HFS := hide ((HFM9.out.alloc (.cells #[.int .i64 c, .string ⟨#[]⟩, .slice none 0 0, .slice none 0 0, .slice none 0 0] 128)).trans hf); have HPS := hide hp; clear hp hf)
    )
  have HBW : Hid (w.heap.size < m9.heap.size) := hbm
  have hB0 : B5 m9.heap.size (.int .i64 c) (.string (bs [])) (.slice none 0 0) (.slice none 0 0) (.slice none 0 0) (wb.alloc (.cells #[.int .i64 0, .int .i64 1, .int .i64 1, .int .i64 1, .int .i64 1, .int .i64 1, .int .i64 1, .int .i64 2, .int .i64 2, .int .i64 1] 3)) := HBS.out.fr (S := nothing) ((Fr.refl nothing _).alloc _) id
  have hF0 : Fr (at_ rb) (w.alloc (.cells #[.int .i64 0, .string ⟨#[]⟩, .slice none 0 0, .slice none 0 0, .slice none 0 0] 128)) (wb.alloc (.cells #[.int .i64 0, .int .i64 1, .int .i64 1, .int .i64 1, .int .i64 1, .int .i64 1, .int .i64 1, .int .i64 2, .int .i64 2, .int .i64 1] 3)) := HFS.out.alloc _
  have hP0 : Pw w0 rb l2 (bad z2 1) (wb.alloc (.cells #[.int .i64 0, .int .i64 1, .int .i64 1, .int .i64 1, .int .i64 1, .int .i64 1, .int .i64 1, .int .i64 2, .int .i64 2, .int .i64 1] 3)) := HH.out.of (HPS.out.fr ((Fr.refl nothing _).alloc _) id) (by omega) (((Fr.refl (at_ rb) w).alloc _).trans hF0)
  have hJ0 : JL w0 rb 131 4 encE ExOk (wb.alloc (.cells #[.int .i64 0, .int .i64 1, .int .i64 1, .int .i64 1, .int .i64 1, .int .i64 1, .int .i64 1, .int .i64 2, .int .i64 2, .int .i64 1] 3)) m9.heap.size 2 [] l2 (bad z2 1) (wb.alloc (.cells #[.int .i64 0, .int .i64 1, .int .i64 1, .int .i64 1, .int .i64 1, .int .i64 1, .int .i64 1, .int .i64 2, .int .i64 2, .int .i64 1] 3)) :=
    { pw := hP0, fr := Fr.refl _ _, fz := fun _ => rfl, old := fun _ _ => rfl, le := fun _ => by have := hP0.len; simpa using this, row := ⟨nilS, hB0.c2, Row.nil _ (Nat.le_refl _)⟩ }
  have hrb1 : rb < (wb.alloc (.cells #[.int .i64 0, .int .i64 1, .int .i64 1, .int .i64 1, .int .i64 1, .int .i64 1, .int .i64 1, .int .i64 2, .int .i64 2, .int .i64 1] 3)).heap.size := hP0.pr.lt
  have hbx : m9.heap.size < (wb.alloc (.cells #[.int .i64 0, .int .i64 1, .int .i64 1, .int .i64 1, .int .i64 1, .int .i64 1, .int .i64 1, .int .i64 2, .int .i64 2, .int .i64 1] 3)).heap.size := hB0.lt
  have hbw : w.heap.size < m9.heap.size := HBW.out
  have hfz1 := hB0.f 2
  have hw01 : w0.heap.size ≤ m9.heap.size ∧ w0.heap.size ≤ (wb.alloc (.cells #[.int .i64 0, .int .i64 1, .int .i64 1, .int .i64 1, .int .i64 1, .int .i64 1, .int .i64 1, .int .i64 2, .int .i64 2, .int .i64 1] 3)).heap.size := ⟨by omega, hP0.bel.size⟩
  have hne : m9.heap.size ≠ rb := by omega
  have HJ0 := hide hJ0
  have HB1 := hide hB0
  have HF1 := hide hF0
  clear hJ0 hB0 hF0 hP0
  generalize hw1 : (wb.alloc (.cells #[.int .i64 0, .int .i64 1, .int .i64 1, .int .i64 1, .int .i64 1, .int .i64 1, .int .i64 1, .int .i64 2, .int .i64 2, .int .i64 1] 3)) = w1 at *
  clear hw1
  generalize hbs : m9.heap.size = bs1 at *
  clear hbs
  go_loopw [40] (fun i wr => ∃ (j : Nat) (acc : List Ex) (lq : Bs) (zq : Int), j ≤ argsOf c ∧ i = .int .i64 j ∧ acc.length = j ∧ Hid (JL w0 rb 131 4 encE ExOk w1 bs1 2 acc lq zq wr ∧ q = (times one (argsOf c - j) lq zq).after acc)) (fun i _ => argsOf c - (intOf i).toNat)
  case atStart => exact ⟨0, [], _, _, Nat.zero_le _, rfl, rfl, HJ0.out, by rw [after_nil]; exact HQ.out.symm⟩
  case round =>
    obtain ⟨j, acc, lq, zq, hj, rfl, hacc, hR⟩ := hrel
    subst hacc
    by_cases hjn : acc.length < argsOf c
    · have hJ := hR.out.1
      obtain ⟨⟨va, vn, vc⟩, hx3, hrow⟩ := hJ.row
      obtain rfl : vn = acc.length := by
        obtain ⟨a, c, h⟩ := hrow.shape
        cases h; rfl
      have hsz1 := hJ.fr.size
      have l3 : bs1 < wr.heap.size := by omega
      have fx : wr.frozen? ⟨bs1, 2, none⟩ = false := (hJ.fz 2).trans hfz1
      have HC := hide (HONE.out lq zq wr.drew (hJ.pw.fr (Fr.refl nothing wr).drew id (fun k e => e.elim)))
      have HJ := hide hJ
      have HR := hide hrow
      have HTS := hide (times_step one hjn lq zq)
      have HLE : Hid ((one lq zq).z = 0 → acc.length + 1 + (one lq zq).l.length ≤ 1500) := fun h0 => by
        by_cases hz : zq = 0
        · subst hz
          have h1 := hJ.le rfl
          have h2 := hless lq h0
          omega
        · exact absurd ((hkeeps lq zq hz).symm.trans h0) hz
      have frame : ∀ w', Fr (at_ rb) wr w' → w'.cell? ⟨bs1, 2, none⟩ = some (.slice va acc.length vc) := fun w' hf => (hf.cell (p := ⟨bs1, 2, none⟩) l3 (by show ¬ bs1 = rb; omega)).trans hx3
      have HFR := hide frame
      have hac2 : acc.length ≤ 2 := by have := argsOf_le c; omega
      clear hJ hrow frame
      go_wp2_with fail
      refine wp_region_T (S := fun w' => w'.cell? ⟨bs1, 2, none⟩ = some (.slice va acc.length vc)) (by kernel_rfl) [9] ?_ (fun hHeld => ?_)
      · exact hx3
      refine wpAnyT_take (i := 0) (oi := { dst := some 42, op := Op.fieldAddr 128 (Operand.tmp 7) 2, type := 0, pos := "ref.go:445", after := #[], guard := none }) (v := ?v1) rfl (by kernel_rfl) (by kernel_rfl) (by kernel_rfl) (by kernel_rfl) (by kernel_rfl) (fun _ _ _ h => h) (Or.inl ⟨by rfl, ?hy1⟩) (by assumption) ?rest1
      case hy1 => (intro w hSw; (try dsimp only at hSw); go_simp; try with_reducible rfl)
      try simp only [Act.put, List.setIfInBounds_toArray, List.set_cons_zero, List.set_cons_succ]
      refine wpAnyT_take (i := 1) (oi := { dst := some 43, op := Op.load 126 (Operand.tmp 42), type := 126, pos := "ref.go:445", after := #[{ on := 0, ground := Ground.data }], guard := none }) (v := ?v2) rfl (by kernel_rfl) (by kernel_rfl) (by kernel_rfl) (by kernel_rfl) (by kernel_rfl) (fun _ _ _ h => h) (Or.inl ⟨by rfl, ?hy2⟩) (by assumption) ?rest2
      case hy2 => (intro w hSw; (try dsimp only at hSw); go_simp; try with_reducible rfl)
      try simp only [Act.put, List.setIfInBounds_toArray, List.set_cons_zero, List.set_cons_succ]
      refine wpAnyT_take (i := 2) (oi := { dst := some 44, op := Op.move (Operand.tmp 0), type := 105, pos := "ref.go:445", after := #[], guard := none }) (v := ?v3) rfl (by kernel_rfl) (by kernel_rfl) (by kernel_rfl) (by kernel_rfl) (by kernel_rfl) (fun _ _ _ h => h) (Or.inl ⟨by rfl, ?hy3⟩) (by assumption) ?rest3
      case hy3 => (intro w hSw; (try dsimp only at hSw); go_simp; try with_reducible rfl)
      try simp only [Act.put, List.setIfInBounds_toArray, List.set_cons_zero, List.set_cons_succ]
      refine wpAnyT_take (i := 3) (oi := { dst := some 45, op := Op.move (Operand.tmp 1), type := 3, pos := "ref.go:445", after := #[], guard := none }) (v := ?v4) rfl (by kernel_rfl) (by kernel_rfl) (by kernel_rfl) (by kernel_rfl) (by kernel_rfl) (fun _ _ _ h => h) (Or.inl ⟨by rfl, ?hy4⟩) (by assumption) ?rest4
      case hy4 => (intro w hSw; (try dsimp only at hSw); go_simp; try with_reducible rfl)
      try simp only [Act.put, List.setIfInBounds_toArray, List.set_cons_zero, List.set_cons_succ]
      refine wpAnyT_take (i := 4) (oi := { dst := some 46, op := Op.binOp BinOp.add 3 (Operand.tmp 45) (Operand.const (Value.int IntKind.i64 1)) 3, type := 3, pos := "ref.go:445", after := #[{ on := 3, ground := Ground.data }], guard := none }) (v := ?v5) rfl (by kernel_rfl) (by kernel_rfl) (by kernel_rfl) (by kernel_rfl) (by kernel_rfl) (fun _ _ _ h => h) (Or.inl ⟨by rfl, ?hy5⟩) (by assumption) ?rest5
      case hy5 => (intro w hSw; (try dsimp only at hSw); go_simp; try with_reducible rfl)
      try simp only [Act.put, List.setIfInBounds_toArray, List.set_cons_zero, List.set_cons_succ]
      refine wpAnyT_ready (rs := [5]) (by kernel_rfl) (by simp) ?_
      refine AllReadyT.cons (o := { dst := some 47, op := Op.call { callee := Callee.value (Operand.func 65), args := #[Operand.tmp 44, Operand.tmp 46], argTypes := #[105, 3] }, type := 131, pos := "ref.go:445", after := #[{ on := 2, ground := Ground.data }, { on := 4, ground := Ground.data }], guard := none }) rfl (fun K hK => ?_) AllReadyT.nil
      refine step_call rfl 65 Tryd.f65 #[.tmp 44, .tmp 46] #[105, 3] rfl Tryd.func65 (by kernel_rfl) (by kernel_rfl) #[.pointer (some ⟨rb, 0, none⟩), .int .i64 (d + 1)] (by simp [Act.eval]) _ HC.out ?_
      rintro e w2 ⟨r, rfl, hF2, hP2, hx2⟩
      have F2 : Fr (at_ rb) wr w2 := ((Fr.refl _ wr).drew).trans hF2
      refine ⟨_, rfl, hK.out _ _ (HFR.out _ F2) ?_⟩
      clear hK K hHeld
      have hHeld := HFR.out _ F2
      try simp only [Act.put, List.setIfInBounds_toArray, List.set_cons_zero, List.set_cons_succ]
      refine wpAnyT_ready (rs := [6]) (by kernel_rfl) (by simp) ?_
      refine AllReadyT.cons (o := { dst := some 48, op := Op.buildSlice 126 1 #[(0, Operand.tmp 47)], type := 126, pos := "ref.go:445", after := #[{ on := 5, ground := Ground.data }], guard := none }) rfl (fun K hK => ?_) AllReadyT.nil
      go_simp
      refine hK.out _ _ (HFR.out _ (F2.alloc _)) ?_
      clear hK K hHeld
      have FA : Fr (at_ rb) wr (w2.alloc (.cells #[.int .i64 r.k, .int .i64 r.n, .string (bs r.t), .slice r.s.a r.s.n r.s.c] 131)) := F2.alloc _
      have hHeld := HFR.out _ FA
      try simp only [Act.put, List.setIfInBounds_toArray, List.set_cons_zero, List.set_cons_succ]
      have PA : Pr rb (one lq zq).l (one lq zq).z (w2.alloc (.cells #[.int .i64 r.k, .int .i64 r.n, .string (bs r.t), .slice r.s.a r.s.n r.s.c] 131)) := hP2.fr ((Fr.refl nothing w2).alloc _) id
      have XA : ExOk (w2.alloc (.cells #[.int .i64 r.k, .int .i64 r.n, .string (bs r.t), .slice r.s.a r.s.n r.s.c] 131)) (fun k => wr.heap.size ≤ k ∧ k < (w2.alloc (.cells #[.int .i64 r.k, .int .i64 r.n, .string (bs r.t), .slice r.s.a r.s.n r.s.c] 131)).heap.size) r (one lq zq).v := ex_stays _ _ nothing _ _ _ _ hx2 ((Fr.refl nothing w2).alloc _) (fun _ _ => id) (fun k hk => ⟨hk.1, by have := hk.2; simp; omega⟩)
      have NW : ∀ j u, ([.int .i64 r.k, .int .i64 r.n, .string (bs r.t), .slice r.s.a r.s.n r.s.c] : List Value)[j]? = some u → (w2.alloc (.cells #[.int .i64 r.k, .int .i64 r.n, .string (bs r.t), .slice r.s.a r.s.n r.s.c] 131)).cell? ((⟨w2.heap.size, 0, none⟩ : Addr).add j) = some u := World.news_of_block (cs := #[.int .i64 r.k, .int .i64 r.n, .string (bs r.t), .slice r.s.a r.s.n r.s.c]) (t := 131) (fr := (0, 0)) (heap_new _ _)
      have PW : Pw w0 rb (one lq zq).l (one lq zq).z (w2.alloc (.cells #[.int .i64 r.k, .int .i64 r.n, .string (bs r.t), .slice r.s.a r.s.n r.s.c] 131)) := HJ.out.pw.of PA (hsmall lq zq) FA
      obtain ⟨rs, hown, hbase, heach⟩ := HR.out
      have hownA : (w2.alloc (.cells #[.int .i64 r.k, .int .i64 r.n, .string (bs r.t), .slice r.s.a r.s.n r.s.c] 131)).ownsRow w1.heap.size 131 4 (.slice va acc.length vc) acc.length (rs.flatMap encE) := owns_fr hown FA (fun k hk e => by have := (hown.lt k hk).1; have : k = rb := e; omega)
      have hbA : w1.heap.size ≤ (w2.alloc (.cells #[.int .i64 r.k, .int .i64 r.n, .string (bs r.t), .slice r.s.a r.s.n r.s.c] 131)).heap.size := Nat.le_trans hsz1 FA.size
      have OF := owns_far hownA (b := bs1) hbx
      have gx : bs1 < (w2.alloc (.cells #[.int .i64 r.k, .int .i64 r.n, .string (bs r.t), .slice r.s.a r.s.n r.s.c] 131)).heap.size := by omega
      have fxA : (w2.alloc (.cells #[.int .i64 r.k, .int .i64 r.n, .string (bs r.t), .slice r.s.a r.s.n r.s.c] 131)).frozen? ⟨bs1, 2, none⟩ = false := (FA.frozen (p := ⟨bs1, 2, none⟩) l3 (by show ¬ bs1 = rb; omega)).trans fx
      have HOA := hide hownA
      have HPW := hide PW
      have HXA := hide XA
      have HFA := hide FA
      clear heach hown hownA PW XA FA PA
      refine wpAnyT_ready (rs := [7]) (by kernel_rfl) (by simp) ?_
      refine AllReadyT.cons (o := { dst := some 49, op := Op.call { callee := Callee.builtin Builtin.append, args := #[Operand.tmp 43, Operand.tmp 48], argTypes := #[126, 126] }, type := 126, pos := "ref.go:445", after := #[{ on := 1, ground := Ground.data }, { on := 6, ground := Ground.data }, { on := 5, ground := Ground.chain }], guard := none }) rfl (fun K hK => ?_) AllReadyT.nil
      refine step_append_lies _ (by rfl) (.tmp 43) (.tmp 48) 126 (by rfl) w1.heap.size 131 j0 _ 4 56 Tryd.underlying126 hj0 hy0 hy1 hy2 rfl (by decide) (.slice va acc.length vc) acc.length _ (by simp [Act.eval]) HOA.out ⟨w2.heap.size, 0, none⟩ 1 1 [.int .i64 r.k, .int .i64 r.n, .string (bs r.t), .slice r.s.a r.s.n r.s.c] (by simp [Act.eval]) rfl NW (by simp [Value.oneCell']) (by decide) (by unfold maxLen; omega) (by omega) hbA _ rfl ?_
      intro g cp w6 hr6 hg6 hat6 hlt6
      have k3 : w6.cell? ⟨bs1, 2, none⟩ = some (.slice va acc.length vc) := (hg6.cell_far ⟨bs1, 2, none⟩ gx OF).trans hHeld
      have kz : w6.frozen? ⟨bs1, 2, none⟩ = false := (hg6.frozen_far ⟨bs1, 2, none⟩ gx OF).trans fxA
      have k6 : bs1 < w6.heap.size := by have := hg6.size; omega
      have HR6 := hide hr6
      have HG6 := hide hg6
      have HAT := hide hat6
      clear hr6 hg6 hat6 NW
      refine hK.out _ _ k3 ?_
      clear hK K hHeld
      have hHeld : w6.cell? ⟨bs1, 2, none⟩ = some (.slice va acc.length vc) := k3
      try simp only [Act.put, List.setIfInBounds_toArray, List.set_cons_zero, List.set_cons_succ]
      refine wpAnyT_take (i := 8) (oi := { dst := some 50, op := Op.fieldAddr 128 (Operand.tmp 7) 2, type := 0, pos := "ref.go:445", after := #[{ on := 0, ground := Ground.phase }, { on := 1, ground := Ground.phase }, { on := 2, ground := Ground.phase }, { on := 3, ground := Ground.phase }, { on := 4, ground := Ground.phase }, { on := 5, ground := Ground.phase }, { on := 6, ground := Ground.phase }, { on := 7, ground := Ground.phase }], guard := none }) (v := ?v6) rfl (by kernel_rfl) (by kernel_rfl) (by kernel_rfl) (by kernel_rfl) (by kernel_rfl) (fun _ _ _ h => h) (Or.inl ⟨by rfl, ?hy6⟩) (by assumption) ?rest6
      case hy6 => (intro w hSw; (try dsimp only at hSw); go_simp; try with_reducible rfl)
      try simp only [Act.put, List.setIfInBounds_toArray, List.set_cons_zero, List.set_cons_succ]
      refine wpAnyT_ready (rs := [9]) (by kernel_rfl) (by simp) ?_
      refine AllReadyT.last (o := { dst := none, op := Op.store 126 (Operand.tmp 50) (Operand.tmp 49), type := 0, pos := "ref.go:445", after := #[{ on := 8, ground := Ground.data }, { on := 7, ground := Ground.data }, { on := 7, ground := Ground.chain }, { on := 0, ground := Ground.phase }, { on := 1, ground := Ground.phase }, { on := 2, ground := Ground.phase }, { on := 3, ground := Ground.phase }, { on := 4, ground := Ground.phase }, { on := 5, ground := Ground.phase }, { on := 6, ground := Ground.phase }, { on := 7, ground := Ground.phase }], guard := none }) rfl (by kernel_rfl) (fun K hK => ?_) AllReadyT.nil
      go_simp
      refine hK.out _ _ ?_
      clear hK K
      try simp only [Act.put, List.setIfInBounds_toArray, List.set_cons_zero, List.set_cons_succ]
      refine wpAny_done (by kernel_rfl) ?_ _
      have HPU := hide (JL.pushz ex_stays encE_len hbx hrb1 hne hw01 (us := [.int .i64 r.k, .int .i64 r.n, .string (bs r.t), .slice r.s.a r.s.n r.s.c]) HJ.out HR.out HFA.out HPW.out HXA.out HLE.out HOA.out HR6.out HG6.out HAT.out (Nat.le_refl _) rfl rfl k3 (.inr (.inr ⟨rfl, rfl⟩)))
      go_wp2
      go_roundw
      case rel => exact ⟨acc.length + 1, acc ++ [(one lq zq).v], _, _, by omega, by go_num, by simp, HPU.out, by rw [hR.out.2, HTS.out, after_after]⟩
      case measure => simp [intOf]; omega
    · have hjn2 : argsOf c = acc.length := by omega
      have hJ := hR.out.1
      have hQ2 : q = ⟨acc, lq, zq⟩ := by
        have := hR.out.2
        rw [hjn2, Nat.sub_self] at this
        rw [this]
        simp [times, Rd.after]
      subst hQ2
      clear hjn2
      obtain ⟨⟨va, vn, vc⟩, hx3, hrow⟩ := hJ.row
      obtain ⟨rs, k1, k2, k3⟩ := hrow.done ex_stays encE_len (B := w1.heap.size) (Nat.le_refl _)
      have hGA : GOk encE 4 ExOk w1.heap.size wr ⟨va, vn, vc⟩ acc := ⟨rs, k1, k2, k3⟩
      have hsz1 := hJ.fr.size
      have hB1 : B5 bs1 (.int .i64 c) (.string (bs [])) (.slice va vn vc) (.slice none 0 0) (.slice none 0 0) wr :=
        ⟨(hJ.old 0 (by decide)).trans HB1.out.c0, (hJ.old 1 (by decide)).trans HB1.out.c1, hx3, (hJ.old 3 (by decide)).trans HB1.out.c3, (hJ.old 4 (by decide)).trans HB1.out.c4, fun j => (hJ.fz j).trans (HB1.out.f j), by omega⟩
      have hFR : Fr (at_ rb) (w.alloc (.cells #[.int .i64 0, .string ⟨#[]⟩, .slice none 0 0, .slice none 0 0, .slice none 0 0] 128)) wr := HF1.out.then hJ.fr (fun j hj e => by
        simp at hj
        rcases e with e | e
        · exact e
        · omega)
      have hPW := hJ.pw
      have HGA := hide hGA
      have HBB := hide hB1
      have HFR := hide hFR
      have HPW := hide hPW
      clear hR hx3 hrow k1 k2 k3 hGA hB1 hFR hPW hJ
      go_wp2_with (first
        | (go_at_call 42; refine (must_any rb lq zq 41 _ HPW.out.pr HPW.out.len (by decide)).mono ?_; rintro e wz ⟨rfl, hp, hf⟩; have hfz := HFR.out.trans hf; obtain ⟨y0, y1, y2, y3, y4, yf, yl⟩ := HRES.out _ hfz; obtain ⟨x0, x1, x2, x3, x4, xf, xl⟩ := HBB.out.fr hf (by show ¬ bs1 = rb; omega); have HPZ := hide hp; have HFZ := hide (((Fr.refl (at_ rb) w).alloc _).trans hfz); have HGZ := hide (HGA.out.fr ex_stays hf (fun k e => by have : k = rb := e; omega)); clear hp hf hfz))
      refine bodyPost_ret (v := sv ⟨c, [], ⟨va, vn, vc⟩, nilS, nilS⟩) (by simp [results, Tryd.results58, go_sem, y0, y1, y2, y3, y4, bs]) rfl ?_
      exact st_fin (B := w1.heap.size) hrb HFZ.out HPZ.out rfl (by omega) HGZ.out GOk.nil GOk.nil _ _ _ _ _
end Go.Proofs.YtpemfikdmkmgbaaDoor
end
