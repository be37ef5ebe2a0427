/- An expression of one word. -/
import Derived.Test.YtkmdamljhagogaaDoorExpr0
import Derived.Lib.AtoiAllCases
namespace Go.Proofs.YtkmdamljhagogaaDoor
open Go.RowKit

theorem atoi_ok (v : Bs) (n : Int) (hA : Lib.atoiAll v = .ok n) (w : World) (hv : v.length ≤ 1500) :
    Calls Tryd.prog 56 #[.string (bs v)] w fun e w' => e = .returned (.tuple #[.int .i64 n, .nilIface]) ∧ Fr nothing w w' :=
  (Tryd.strconv_Atoi_ok (bs v) (by rw [bs_size]; omega) n hA w).mono fun e w' hh => by
    obtain ⟨h1, h2 | ⟨t, h2⟩⟩ := hh
    · subst h2; exact ⟨h1, Fr.refl _ _⟩
    · subst h2; exact ⟨h1, Fr.of_below (Lib.bytesWorld_below _ _ _) (Nat.le_refl _) nothing⟩
theorem atoi_fails (v : Bs) (w : World) (hE : Er w) (hv : v.length ≤ 1500) (h : ∀ n, Lib.atoiAll v ≠ .ok n) :
    Calls Tryd.prog 56 #[.string (bs v)] w fun e w' => ∃ n N, e = .returned (.tuple #[.int .i64 n, .iface 125 (.pointer (some ⟨N, 0, none⟩))]) ∧ Fr nothing w w' := by
  have hs := bs_size v
  cases hA : Lib.atoiAll v with
  | ok n => exact absurd hA (h n)
  | «syntax» =>
    obtain ⟨ev, h1, h2⟩ := hE.s
    exact (Tryd.strconv_Atoi_syntax (bs v) (by omega) hA ev w h1 h2).mono fun e w' ⟨N, k, _, _, b⟩ => ⟨_, N, k, Fr.of_below b (Nat.le_refl _) nothing⟩
  | range =>
    obtain ⟨ev, h1, h2⟩ := hE.r
    exact (Tryd.strconv_Atoi_range (bs v) (by omega) hA ev w h1 h2).mono fun e w' ⟨N, k, _, _, b⟩ => ⟨_, N, k, Fr.of_below b (Nat.le_refl _) nothing⟩
theorem itoa_any (n : Int) (h0 : -9223372036854775808 ≤ n) (h1 : n ≤ 9223372036854775807) (w : World) (ht : Tab w) :
    Calls Tryd.prog 57 #[.int .i64 n] w fun e w' => e = .returned (.string (bs (Lib.itoa n))) ∧ Fr nothing w w' :=
  (Tryd.strconv_Itoa n h0 h1 w ht).mono fun e w' ⟨k1, k, os, h⟩ => by
    subst h
    exact ⟨k1, grow_fr _ _ _⟩
theorem numOf_ok {v : Bs} {n : Int} (hA : Lib.atoiAll v = .ok n) : numOf v = if Lib.itoa n = v then some n else none := by
  unfold numOf; rw [hA]
theorem numOf_no {v : Bs} (hA : ∀ n, Lib.atoiAll v ≠ .ok n) : numOf v = none := by
  unfold numOf
  split
  · rename_i n h; exact absurd h (hA n)
  · rfl
theorem w0_fr {w w' : World} (h : Fr nothing w w') (rb : Nat) : Fr (at_ rb) w w' := h.mono (fun _ _ e => e.elim)
theorem peek_no {l : Bs} {c : UInt8} (hc : c ≠ 0 ∧ c ≠ 1) (h : l.head? ≠ some c) : ¬ ((peekC l).toNat : Int) = (c.toNat : Int) := by
  intro e
  have e2 : peekC l = c := UInt8.toNat_inj.1 (by omega)
  cases l with
  | nil => exact hc.1 (by rw [← e2]; rfl)
  | cons x t =>
    rw [peekC_is hc] at e2
    subst e2
    exact h rfl
set_option maxHeartbeats 1000000 in
set_option maxRecDepth 20000 in
theorem expr_word_int (w0 : World) (rb : Nat) (l : Bs) (d : Int) (w : World) (h : Pw w0 rb l 0 w) (hd : d ≤ 10) (h39 : (skip l).head? ≠ some 39) (h40 : (skip l).head? ≠ some 40) {v l' : Bs} {z : Int} (hw : word (skip l) 0 = ⟨v, l', z⟩) {n : Int} (hA : Lib.atoiAll v = .ok n) (hI : Lib.itoa n = v) (hin : inInt n = true) :
    Calls Tryd.prog 51 #[.pointer (some ⟨rb, 0, none⟩), .int .i64 d] w (XPost ev ExOk rb w ⟨.mk 1 n [] [], l', z⟩) := by
  have HD := hide (deep_any rb l 0 d _ (h.pr.fr (fr3 w rb d) (S := nothing) id))
  have hrb := h.pr.lt
  have e0 : deepZ d 0 = 0 := by simp [deepZ]; omega
  rw [e0] at HD
  have hl := h.len
  have hsl := skip_len l
  have hvl : v.length ≤ 1500 := by
    have : v = (word (skip l) 0).v := by rw [hw]
    rw [this]
    exact Nat.le_trans (List.takeWhile_sublist _).length_le (Nat.le_trans (skip_len _) (by omega))
  have n39 : ¬ ((peekC (skip l)).toNat : Int) = 39 := peek_no (c := 39) (by decide) h39
  have n40 : ¬ ((peekC (skip l)).toNat : Int) = 40 := peek_no (c := 40) (by decide) h40
  have q39 : (((peekC (skip l)).toNat : Int) == 39) = false := by simpa using n39
  have b40 := ne_bne n40
  have HW := hide hw
  have HH := hide h
  have HN := hide (fun w => name_any v w hvl)
  have TAB : Hid (∀ w', Fr (at_ rb) (w3of w rb d) w' → Tab w') := fun w' hf => Lib.tabBelow_of_tabIs HH.out.tab w' (HH.out.bel.trans (((fr3 w rb d).trans hf).below HH.out.bel.size (fun k hk e => by have := HH.out.ge; have : k = rb := e; omega)))
  have hb := Lib.atoiAll_bounds hA
  have hr : -1073741824 ≤ n ∧ n ≤ 1073741824 := by simpa [inInt] using hin
  have r1 : ¬ n < -1073741824 := by omega
  have r2 : ¬ 1073741824 < n := by omega
  have HI := hide hI
  clear hI hin
  clear h e0 hw h39 h40
  go_enter Tryd.func51, Tryd.ntmps51
  go_wp2_with (first
    | (go_at_call 50; refine HD.out.mono ?_; rintro e w2 ⟨rfl, hp, hf⟩; have hpk := peek_any rb l 0 w2 hp hl; have HPK := hide hpk; obtain ⟨b0, b1, -, -, -, -, -, -, -, -, hlt⟩ := boxes hrb hf; have HF := hide hf; clear hp hf hpk)
    | (go_at_call 18; refine HPK.out.mono ?_; rintro e w4 ⟨rfl, hp, hf⟩; have hf4 := HF.out.trans hf; clear b0 b1 hlt; obtain ⟨b0, b1, -, -, -, -, -, -, -, -, hlt⟩ := boxes hrb hf4; have hwd := word_any rb (skip l) 0 w4 hp (by omega); rw [HW.out] at hwd; have HWD := hide hwd; have HF4 := hide hf4; clear hp hf hf4 hwd)
    | (go_at_call 36; refine HWD.out.mono ?_; rintro e w5 ⟨rfl, hp, hf⟩; have hf5 := HF4.out.trans hf; clear b0 b1 hlt; obtain ⟨b0, b1, c0, c1, c2, c3, f0, f1, f2, f3, hlt⟩ := boxes hrb hf5; have HP5 := hide hp; have HF5 := hide hf5; clear hp hf hf5)
    | (go_at_call 56; refine (atoi_ok v n hA _ hvl).mono ?_; rintro e w6 ⟨rfl, hfa⟩; have hf6 := HF5.out.trans (w0_fr hfa rb); clear b0 b1 c0 c1 c2 c3 f0 f1 f2 f3 hlt; obtain ⟨b0, b1, c0, c1, c2, c3, f0, f1, f2, f3, hlt⟩ := boxes hrb hf6; have HP6 := hide (HP5.out.fr hfa id); have HF6 := hide hf6; clear hfa hf6)
    | (go_at_call 57; refine (itoa_any n hb.1 hb.2 _ (TAB.out _ HF6.out)).mono ?_; rintro e w7 ⟨rfl, hfi⟩; rw [HI.out]; have hf7 := HF6.out.trans (w0_fr hfi rb); clear b0 b1 c0 c1 c2 c3 f0 f1 f2 f3 hlt; obtain ⟨b0, b1, c0, c1, c2, c3, f0, f1, f2, f3, hlt⟩ := boxes hrb hf7; have HP7 := hide (HP6.out.fr hfi id); have HF7 := hide hf7; clear hfi hf7)
    )
  refine bodyPost_ret (v := ev ⟨1, n, [], nilS⟩) (by simp [results, Tryd.results51, go_sem, c0, c1, c2, c3, bs]) rfl ?_
  exact ex_fin (res := ⟨.mk 1 n [] [], l', z⟩) hrb HF7.out HP7.out (ex_leaf _ _ _ _ _) _ _ _ _
set_option maxHeartbeats 1000000 in
set_option maxRecDepth 20000 in
theorem expr_word_big (w0 : World) (rb : Nat) (l : Bs) (d : Int) (w : World) (h : Pw w0 rb l 0 w) (hd : d ≤ 10) (h39 : (skip l).head? ≠ some 39) (h40 : (skip l).head? ≠ some 40) {v l' : Bs} {z : Int} (hw : word (skip l) 0 = ⟨v, l', z⟩) {n : Int} (hA : Lib.atoiAll v = .ok n) (hI : Lib.itoa n = v) (hin : inInt n = false) :
    Calls Tryd.prog 51 #[.pointer (some ⟨rb, 0, none⟩), .int .i64 d] w (XPost ev ExOk rb w ⟨.mk 1 n [] [], l', bad z 3⟩) := by
  have HD := hide (deep_any rb l 0 d _ (h.pr.fr (fr3 w rb d) (S := nothing) id))
  have hrb := h.pr.lt
  have e0 : deepZ d 0 = 0 := by simp [deepZ]; omega
  rw [e0] at HD
  have hl := h.len
  have hsl := skip_len l
  have hvl : v.length ≤ 1500 := by
    have : v = (word (skip l) 0).v := by rw [hw]
    rw [this]
    exact Nat.le_trans (List.takeWhile_sublist _).length_le (Nat.le_trans (skip_len _) (by omega))
  have n39 : ¬ ((peekC (skip l)).toNat : Int) = 39 := peek_no (c := 39) (by decide) h39
  have n40 : ¬ ((peekC (skip l)).toNat : Int) = 40 := peek_no (c := 40) (by decide) h40
  have q39 : (((peekC (skip l)).toNat : Int) == 39) = false := by simpa using n39
  have b40 := ne_bne n40
  have HW := hide hw
  have HH := hide h
  have HN := hide (fun w => name_any v w hvl)
  have TAB : Hid (∀ w', Fr (at_ rb) (w3of w rb d) w' → Tab w') := fun w' hf => Lib.tabBelow_of_tabIs HH.out.tab w' (HH.out.bel.trans (((fr3 w rb d).trans hf).below HH.out.bel.size (fun k hk e => by have := HH.out.ge; have : k = rb := e; omega)))
  have hb := Lib.atoiAll_bounds hA
  have hr : 1073741824 < n ∨ (¬ 1073741824 < n ∧ n < -1073741824) := by
    have : ¬ (-1073741824 ≤ n ∧ n ≤ 1073741824) := by intro h; rw [show inInt n = true by simp [inInt, h]] at hin; cases hin
    omega
  have HI := hide hI
  clear hI hin
  rcases hr with hr | hr
  all_goals
  clear h e0 hw h39 h40
  go_enter Tryd.func51, Tryd.ntmps51
  go_wp2_with (first
    | (go_at_call 50; refine HD.out.mono ?_; rintro e w2 ⟨rfl, hp, hf⟩; have hpk := peek_any rb l 0 w2 hp hl; have HPK := hide hpk; obtain ⟨b0, b1, -, -, -, -, -, -, -, -, hlt⟩ := boxes hrb hf; have HF := hide hf; clear hp hf hpk)
    | (go_at_call 18; refine HPK.out.mono ?_; rintro e w4 ⟨rfl, hp, hf⟩; have hf4 := HF.out.trans hf; clear b0 b1 hlt; obtain ⟨b0, b1, -, -, -, -, -, -, -, -, hlt⟩ := boxes hrb hf4; have hwd := word_any rb (skip l) 0 w4 hp (by omega); rw [HW.out] at hwd; have HWD := hide hwd; have HF4 := hide hf4; clear hp hf hf4 hwd)
    | (go_at_call 36; refine HWD.out.mono ?_; rintro e w5 ⟨rfl, hp, hf⟩; have hf5 := HF4.out.trans hf; clear b0 b1 hlt; obtain ⟨b0, b1, c0, c1, c2, c3, f0, f1, f2, f3, hlt⟩ := boxes hrb hf5; have HP5 := hide hp; have HF5 := hide hf5; clear hp hf hf5)
    | (go_at_call 56; refine (atoi_ok v n hA _ hvl).mono ?_; rintro e w6 ⟨rfl, hfa⟩; have hf6 := HF5.out.trans (w0_fr hfa rb); clear b0 b1 c0 c1 c2 c3 f0 f1 f2 f3 hlt; obtain ⟨b0, b1, c0, c1, c2, c3, f0, f1, f2, f3, hlt⟩ := boxes hrb hf6; have HP6 := hide (HP5.out.fr hfa id); have HF6 := hide hf6; clear hfa hf6)
    | (go_at_call 57; refine (itoa_any n hb.1 hb.2 _ (TAB.out _ HF6.out)).mono ?_; rintro e w7 ⟨rfl, hfi⟩; rw [HI.out]; have hf7 := HF6.out.trans (w0_fr hfi rb); clear b0 b1 c0 c1 c2 c3 f0 f1 f2 f3 hlt; obtain ⟨b0, b1, c0, c1, c2, c3, f0, f1, f2, f3, hlt⟩ := boxes hrb hf7; have HP7 := hide (HP6.out.fr hfi id); have HF7 := hide hf7; clear hfi hf7)
    | (go_at_call 35; refine (bad_any rb l' z 3 _ HP7.out).mono ?_; rintro e w9 ⟨rfl, hp, hf⟩; have hf9 := HF7.out.trans hf; clear b0 b1 c0 c1 c2 c3 f0 f1 f2 f3 hlt; obtain ⟨b0, b1, c0, c1, c2, c3, f0, f1, f2, f3, hlt⟩ := boxes hrb hf9; have HP9 := hide hp; have HF9 := hide hf9; clear hp hf hf9)
    )
  refine bodyPost_ret (v := ev ⟨1, n, [], nilS⟩) (by simp [results, Tryd.results51, go_sem, c0, c1, c2, c3, bs]) rfl ?_
  exact ex_fin (res := ⟨.mk 1 n [] [], l', bad z 3⟩) hrb HF9.out HP9.out (ex_leaf _ _ _ _ _) _ _ _ _
set_option maxHeartbeats 1000000 in
set_option maxRecDepth 20000 in
theorem expr_word_odd_yes (w0 : World) (rb : Nat) (l : Bs) (d : Int) (w : World) (h : Pw w0 rb l 0 w) (hd : d ≤ 10) (h39 : (skip l).head? ≠ some 39) (h40 : (skip l).head? ≠ some 40) {v l' : Bs} {z : Int} (hw : word (skip l) 0 = ⟨v, l', z⟩) {n : Int} (hA : Lib.atoiAll v = .ok n) (hI : ¬ Lib.itoa n = v) (hn : isName v = true) :
    Calls Tryd.prog 51 #[.pointer (some ⟨rb, 0, none⟩), .int .i64 d] w (XPost ev ExOk rb w ⟨.mk 3 0 v [], l', z⟩) := by
  have HD := hide (deep_any rb l 0 d _ (h.pr.fr (fr3 w rb d) (S := nothing) id))
  have hrb := h.pr.lt
  have e0 : deepZ d 0 = 0 := by simp [deepZ]; omega
  rw [e0] at HD
  have hl := h.len
  have hsl := skip_len l
  have hvl : v.length ≤ 1500 := by
    have : v = (word (skip l) 0).v := by rw [hw]
    rw [this]
    exact Nat.le_trans (List.takeWhile_sublist _).length_le (Nat.le_trans (skip_len _) (by omega))
  have n39 : ¬ ((peekC (skip l)).toNat : Int) = 39 := peek_no (c := 39) (by decide) h39
  have n40 : ¬ ((peekC (skip l)).toNat : Int) = 40 := peek_no (c := 40) (by decide) h40
  have q39 : (((peekC (skip l)).toNat : Int) == 39) = false := by simpa using n39
  have b40 := ne_bne n40
  have HW := hide hw
  have HH := hide h
  have HN := hide (fun w => name_any v w hvl)
  have TAB : Hid (∀ w', Fr (at_ rb) (w3of w rb d) w' → Tab w') := fun w' hf => Lib.tabBelow_of_tabIs HH.out.tab w' (HH.out.bel.trans (((fr3 w rb d).trans hf).below HH.out.bel.size (fun k hk e => by have := HH.out.ge; have : k = rb := e; omega)))
  have hb := Lib.atoiAll_bounds hA
  have q1 := bs_ne hI
  rw [hn] at HN
  clear hI
  clear h e0 hw h39 h40
  go_enter Tryd.func51, Tryd.ntmps51
  go_wp2_with (first
    | (go_at_call 50; refine HD.out.mono ?_; rintro e w2 ⟨rfl, hp, hf⟩; have hpk := peek_any rb l 0 w2 hp hl; have HPK := hide hpk; obtain ⟨b0, b1, -, -, -, -, -, -, -, -, hlt⟩ := boxes hrb hf; have HF := hide hf; clear hp hf hpk)
    | (go_at_call 18; refine HPK.out.mono ?_; rintro e w4 ⟨rfl, hp, hf⟩; have hf4 := HF.out.trans hf; clear b0 b1 hlt; obtain ⟨b0, b1, -, -, -, -, -, -, -, -, hlt⟩ := boxes hrb hf4; have hwd := word_any rb (skip l) 0 w4 hp (by omega); rw [HW.out] at hwd; have HWD := hide hwd; have HF4 := hide hf4; clear hp hf hf4 hwd)
    | (go_at_call 36; refine HWD.out.mono ?_; rintro e w5 ⟨rfl, hp, hf⟩; have hf5 := HF4.out.trans hf; clear b0 b1 hlt; obtain ⟨b0, b1, c0, c1, c2, c3, f0, f1, f2, f3, hlt⟩ := boxes hrb hf5; have HP5 := hide hp; have HF5 := hide hf5; clear hp hf hf5)
    | (go_at_call 56; refine (atoi_ok v n hA _ hvl).mono ?_; rintro e w6 ⟨rfl, hfa⟩; have hf6 := HF5.out.trans (w0_fr hfa rb); clear b0 b1 c0 c1 c2 c3 f0 f1 f2 f3 hlt; obtain ⟨b0, b1, c0, c1, c2, c3, f0, f1, f2, f3, hlt⟩ := boxes hrb hf6; have HP6 := hide (HP5.out.fr hfa id); have HF6 := hide hf6; clear hfa hf6)
    | (go_at_call 57; refine (itoa_any n hb.1 hb.2 _ (TAB.out _ HF6.out)).mono ?_; rintro e w7 ⟨rfl, hfi⟩; have hf7 := HF6.out.trans (w0_fr hfi rb); clear b0 b1 c0 c1 c2 c3 f0 f1 f2 f3 hlt; obtain ⟨b0, b1, c0, c1, c2, c3, f0, f1, f2, f3, hlt⟩ := boxes hrb hf7; have HP7 := hide (HP6.out.fr hfi id); have HF7 := hide hf7; clear hfi hf7)
    | (go_at_call 11; refine (HN.out _).mono ?_; rintro e w8 ⟨rfl, hfn⟩; have hf8 := HF7.out.trans (w0_fr hfn rb); clear b0 b1 c0 c1 c2 c3 f0 f1 f2 f3 hlt; obtain ⟨b0, b1, c0, c1, c2, c3, f0, f1, f2, f3, hlt⟩ := boxes hrb hf8; have HP8 := hide (HP7.out.fr hfn id); have HF8 := hide hf8; clear hfn hf8)
    )
  refine bodyPost_ret (v := ev ⟨3, 0, v, nilS⟩) (by simp [results, Tryd.results51, go_sem, c0, c1, c2, c3, bs]) rfl ?_
  exact ex_fin (res := ⟨.mk 3 0 v [], l', z⟩) hrb HF8.out HP8.out (ex_leaf _ _ _ _ _) _ _ _ _
set_option maxHeartbeats 1000000 in
set_option maxRecDepth 20000 in
theorem expr_word_name_yes (w0 : World) (rb : Nat) (l : Bs) (d : Int) (w : World) (h : Pw w0 rb l 0 w) (hd : d ≤ 10) (h39 : (skip l).head? ≠ some 39) (h40 : (skip l).head? ≠ some 40) {v l' : Bs} {z : Int} (hw : word (skip l) 0 = ⟨v, l', z⟩) (hA : ∀ n, Lib.atoiAll v ≠ .ok n) (hn : isName v = true) :
    Calls Tryd.prog 51 #[.pointer (some ⟨rb, 0, none⟩), .int .i64 d] w (XPost ev ExOk rb w ⟨.mk 3 0 v [], l', z⟩) := by
  have HD := hide (deep_any rb l 0 d _ (h.pr.fr (fr3 w rb d) (S := nothing) id))
  have hrb := h.pr.lt
  have e0 : deepZ d 0 = 0 := by simp [deepZ]; omega
  rw [e0] at HD
  have hl := h.len
  have hsl := skip_len l
  have hvl : v.length ≤ 1500 := by
    have : v = (word (skip l) 0).v := by rw [hw]
    rw [this]
    exact Nat.le_trans (List.takeWhile_sublist _).length_le (Nat.le_trans (skip_len _) (by omega))
  have n39 : ¬ ((peekC (skip l)).toNat : Int) = 39 := peek_no (c := 39) (by decide) h39
  have n40 : ¬ ((peekC (skip l)).toNat : Int) = 40 := peek_no (c := 40) (by decide) h40
  have q39 : (((peekC (skip l)).toNat : Int) == 39) = false := by simpa using n39
  have b40 := ne_bne n40
  have HW := hide hw
  have HH := hide h
  have HN := hide (fun w => name_any v w hvl)
  have ER : Hid (∀ w', Fr (at_ rb) (w3of w rb d) w' → Er w') := fun w' hf => HH.out.er.fr (Fr.of_below (HH.out.bel.trans (((fr3 w rb d).trans hf).below HH.out.bel.size (fun k hk e => by have := HH.out.ge; have : k = rb := e; omega))) (Nat.le_refl _) nothing) id id
  rw [hn] at HN
  clear h e0 hw h39 h40
  go_enter Tryd.func51, Tryd.ntmps51
  go_wp2_with (first
    | (go_at_call 50; refine HD.out.mono ?_; rintro e w2 ⟨rfl, hp, hf⟩; have hpk := peek_any rb l 0 w2 hp hl; have HPK := hide hpk; obtain ⟨b0, b1, -, -, -, -, -, -, -, -, hlt⟩ := boxes hrb hf; have HF := hide hf; clear hp hf hpk)
    | (go_at_call 18; refine HPK.out.mono ?_; rintro e w4 ⟨rfl, hp, hf⟩; have hf4 := HF.out.trans hf; clear b0 b1 hlt; obtain ⟨b0, b1, -, -, -, -, -, -, -, -, hlt⟩ := boxes hrb hf4; have hwd := word_any rb (skip l) 0 w4 hp (by omega); rw [HW.out] at hwd; have HWD := hide hwd; have HF4 := hide hf4; clear hp hf hf4 hwd)
    | (go_at_call 36; refine HWD.out.mono ?_; rintro e w5 ⟨rfl, hp, hf⟩; have hf5 := HF4.out.trans hf; clear b0 b1 hlt; obtain ⟨b0, b1, c0, c1, c2, c3, f0, f1, f2, f3, hlt⟩ := boxes hrb hf5; have HP5 := hide hp; have HF5 := hide hf5; clear hp hf hf5)
    | (go_at_call 56; refine (atoi_fails v _ (ER.out _ HF5.out) hvl hA).mono ?_; rintro e w6 ⟨n, N, rfl, hfa⟩; have hf6 := HF5.out.trans (w0_fr hfa rb); clear b0 b1 c0 c1 c2 c3 f0 f1 f2 f3 hlt; obtain ⟨b0, b1, c0, c1, c2, c3, f0, f1, f2, f3, hlt⟩ := boxes hrb hf6; have HP6 := hide (HP5.out.fr hfa id); have HF6 := hide hf6; clear hfa hf6)
    | (go_at_call 11; refine (HN.out _).mono ?_; rintro e w8 ⟨rfl, hfn⟩; have hf8 := HF6.out.trans (w0_fr hfn rb); clear b0 b1 c0 c1 c2 c3 f0 f1 f2 f3 hlt; obtain ⟨b0, b1, c0, c1, c2, c3, f0, f1, f2, f3, hlt⟩ := boxes hrb hf8; have HP8 := hide (HP6.out.fr hfn id); have HF8 := hide hf8; clear hfn hf8)
    )
  refine bodyPost_ret (v := ev ⟨3, 0, v, nilS⟩) (by simp [results, Tryd.results51, go_sem, c0, c1, c2, c3, bs]) rfl ?_
  exact ex_fin (res := ⟨.mk 3 0 v [], l', z⟩) hrb HF8.out HP8.out (ex_leaf _ _ _ _ _) _ _ _ _
set_option maxHeartbeats 1000000 in
set_option maxRecDepth 20000 in
theorem expr_word_odd_no (w0 : World) (rb : Nat) (l : Bs) (d : Int) (w : World) (h : Pw w0 rb l 0 w) (hd : d ≤ 10) (h39 : (skip l).head? ≠ some 39) (h40 : (skip l).head? ≠ some 40) {v l' : Bs} {z : Int} (hw : word (skip l) 0 = ⟨v, l', z⟩) {n : Int} (hA : Lib.atoiAll v = .ok n) (hI : ¬ Lib.itoa n = v) (hn : isName v = false) :
    Calls Tryd.prog 51 #[.pointer (some ⟨rb, 0, none⟩), .int .i64 d] w (XPost ev ExOk rb w ⟨.mk 3 0 v [], l', bad z 7⟩) := by
  have HD := hide (deep_any rb l 0 d _ (h.pr.fr (fr3 w rb d) (S := nothing) id))
  have hrb := h.pr.lt
  have e0 : deepZ d 0 = 0 := by simp [deepZ]; omega
  rw [e0] at HD
  have hl := h.len
  have hsl := skip_len l
  have hvl : v.length ≤ 1500 := by
    have : v = (word (skip l) 0).v := by rw [hw]
    rw [this]
    exact Nat.le_trans (List.takeWhile_sublist _).length_le (Nat.le_trans (skip_len _) (by omega))
  have n39 : ¬ ((peekC (skip l)).toNat : Int) = 39 := peek_no (c := 39) (by decide) h39
  have n40 : ¬ ((peekC (skip l)).toNat : Int) = 40 := peek_no (c := 40) (by decide) h40
  have q39 : (((peekC (skip l)).toNat : Int) == 39) = false := by simpa using n39
  have b40 := ne_bne n40
  have HW := hide hw
  have HH := hide h
  have HN := hide (fun w => name_any v w hvl)
  have TAB : Hid (∀ w', Fr (at_ rb) (w3of w rb d) w' → Tab w') := fun w' hf => Lib.tabBelow_of_tabIs HH.out.tab w' (HH.out.bel.trans (((fr3 w rb d).trans hf).below HH.out.bel.size (fun k hk e => by have := HH.out.ge; have : k = rb := e; omega)))
  have hb := Lib.atoiAll_bounds hA
  have q1 := bs_ne hI
  rw [hn] at HN
  clear hI
  clear h e0 hw h39 h40
  go_enter Tryd.func51, Tryd.ntmps51
  go_wp2_with (first
    | (go_at_call 50; refine HD.out.mono ?_; rintro e w2 ⟨rfl, hp, hf⟩; have hpk := peek_any rb l 0 w2 hp hl; have HPK := hide hpk; obtain ⟨b0, b1, -, -, -, -, -, -, -, -, hlt⟩ := boxes hrb hf; have HF := hide hf; clear hp hf hpk)
    | (go_at_call 18; refine HPK.out.mono ?_; rintro e w4 ⟨rfl, hp, hf⟩; have hf4 := HF.out.trans hf; clear b0 b1 hlt; obtain ⟨b0, b1, -, -, -, -, -, -, -, -, hlt⟩ := boxes hrb hf4; have hwd := word_any rb (skip l) 0 w4 hp (by omega); rw [HW.out] at hwd; have HWD := hide hwd; have HF4 := hide hf4; clear hp hf hf4 hwd)
    | (go_at_call 36; refine HWD.out.mono ?_; rintro e w5 ⟨rfl, hp, hf⟩; have hf5 := HF4.out.trans hf; clear b0 b1 hlt; obtain ⟨b0, b1, c0, c1, c2, c3, f0, f1, f2, f3, hlt⟩ := boxes hrb hf5; have HP5 := hide hp; have HF5 := hide hf5; clear hp hf hf5)
    | (go_at_call 56; refine (atoi_ok v n hA _ hvl).mono ?_; rintro e w6 ⟨rfl, hfa⟩; have hf6 := HF5.out.trans (w0_fr hfa rb); clear b0 b1 c0 c1 c2 c3 f0 f1 f2 f3 hlt; obtain ⟨b0, b1, c0, c1, c2, c3, f0, f1, f2, f3, hlt⟩ := boxes hrb hf6; have HP6 := hide (HP5.out.fr hfa id); have HF6 := hide hf6; clear hfa hf6)
    | (go_at_call 57; refine (itoa_any n hb.1 hb.2 _ (TAB.out _ HF6.out)).mono ?_; rintro e w7 ⟨rfl, hfi⟩; have hf7 := HF6.out.trans (w0_fr hfi rb); clear b0 b1 c0 c1 c2 c3 f0 f1 f2 f3 hlt; obtain ⟨b0, b1, c0, c1, c2, c3, f0, f1, f2, f3, hlt⟩ := boxes hrb hf7; have HP7 := hide (HP6.out.fr hfi id); have HF7 := hide hf7; clear hfi hf7)
    | (go_at_call 11; refine (HN.out _).mono ?_; rintro e w8 ⟨rfl, hfn⟩; have hf8 := HF7.out.trans (w0_fr hfn rb); clear b0 b1 c0 c1 c2 c3 f0 f1 f2 f3 hlt; obtain ⟨b0, b1, c0, c1, c2, c3, f0, f1, f2, f3, hlt⟩ := boxes hrb hf8; have HP8 := hide (HP7.out.fr hfn id); have HF8 := hide hf8; clear hfn hf8)
    | (go_at_call 35; refine (bad_any rb l' z 7 _ HP8.out).mono ?_; rintro e w9 ⟨rfl, hp, hf⟩; have hf9 := HF8.out.trans hf; clear b0 b1 c0 c1 c2 c3 f0 f1 f2 f3 hlt; obtain ⟨b0, b1, c0, c1, c2, c3, f0, f1, f2, f3, hlt⟩ := boxes hrb hf9; have HP9 := hide hp; have HF9 := hide hf9; clear hp hf hf9)
    )
  refine bodyPost_ret (v := ev ⟨3, 0, v, nilS⟩) (by simp [results, Tryd.results51, go_sem, c0, c1, c2, c3, bs]) rfl ?_
  exact ex_fin (res := ⟨.mk 3 0 v [], l', bad z 7⟩) hrb HF9.out HP9.out (ex_leaf _ _ _ _ _) _ _ _ _
set_option maxHeartbeats 1000000 in
set_option maxRecDepth 20000 in
theorem expr_word_name_no (w0 : World) (rb : Nat) (l : Bs) (d : Int) (w : World) (h : Pw w0 rb l 0 w) (hd : d ≤ 10) (h39 : (skip l).head? ≠ some 39) (h40 : (skip l).head? ≠ some 40) {v l' : Bs} {z : Int} (hw : word (skip l) 0 = ⟨v, l', z⟩) (hA : ∀ n, Lib.atoiAll v ≠ .ok n) (hn : isName v = false) :
    Calls Tryd.prog 51 #[.pointer (some ⟨rb, 0, none⟩), .int .i64 d] w (XPost ev ExOk rb w ⟨.mk 3 0 v [], l', bad z 7⟩) := by
  have HD := hide (deep_any rb l 0 d _ (h.pr.fr (fr3 w rb d) (S := nothing) id))
  have hrb := h.pr.lt
  have e0 : deepZ d 0 = 0 := by simp [deepZ]; omega
  rw [e0] at HD
  have hl := h.len
  have hsl := skip_len l
  have hvl : v.length ≤ 1500 := by
    have : v = (word (skip l) 0).v := by rw [hw]
    rw [this]
    exact Nat.le_trans (List.takeWhile_sublist _).length_le (Nat.le_trans (skip_len _) (by omega))
  have n39 : ¬ ((peekC (skip l)).toNat : Int) = 39 := peek_no (c := 39) (by decide) h39
  have n40 : ¬ ((peekC (skip l)).toNat : Int) = 40 := peek_no (c := 40) (by decide) h40
  have q39 : (((peekC (skip l)).toNat : Int) == 39) = false := by simpa using n39
  have b40 := ne_bne n40
  have HW := hide hw
  have HH := hide h
  have HN := hide (fun w => name_any v w hvl)
  have ER : Hid (∀ w', Fr (at_ rb) (w3of w rb d) w' → Er w') := fun w' hf => HH.out.er.fr (Fr.of_below (HH.out.bel.trans (((fr3 w rb d).trans hf).below HH.out.bel.size (fun k hk e => by have := HH.out.ge; have : k = rb := e; omega))) (Nat.le_refl _) nothing) id id
  rw [hn] at HN
  clear h e0 hw h39 h40
  go_enter Tryd.func51, Tryd.ntmps51
  go_wp2_with (first
    | (go_at_call 50; refine HD.out.mono ?_; rintro e w2 ⟨rfl, hp, hf⟩; have hpk := peek_any rb l 0 w2 hp hl; have HPK := hide hpk; obtain ⟨b0, b1, -, -, -, -, -, -, -, -, hlt⟩ := boxes hrb hf; have HF := hide hf; clear hp hf hpk)
    | (go_at_call 18; refine HPK.out.mono ?_; rintro e w4 ⟨rfl, hp, hf⟩; have hf4 := HF.out.trans hf; clear b0 b1 hlt; obtain ⟨b0, b1, -, -, -, -, -, -, -, -, hlt⟩ := boxes hrb hf4; have hwd := word_any rb (skip l) 0 w4 hp (by omega); rw [HW.out] at hwd; have HWD := hide hwd; have HF4 := hide hf4; clear hp hf hf4 hwd)
    | (go_at_call 36; refine HWD.out.mono ?_; rintro e w5 ⟨rfl, hp, hf⟩; have hf5 := HF4.out.trans hf; clear b0 b1 hlt; obtain ⟨b0, b1, c0, c1, c2, c3, f0, f1, f2, f3, hlt⟩ := boxes hrb hf5; have HP5 := hide hp; have HF5 := hide hf5; clear hp hf hf5)
    | (go_at_call 56; refine (atoi_fails v _ (ER.out _ HF5.out) hvl hA).mono ?_; rintro e w6 ⟨n, N, rfl, hfa⟩; have hf6 := HF5.out.trans (w0_fr hfa rb); clear b0 b1 c0 c1 c2 c3 f0 f1 f2 f3 hlt; obtain ⟨b0, b1, c0, c1, c2, c3, f0, f1, f2, f3, hlt⟩ := boxes hrb hf6; have HP6 := hide (HP5.out.fr hfa id); have HF6 := hide hf6; clear hfa hf6)
    | (go_at_call 11; refine (HN.out _).mono ?_; rintro e w8 ⟨rfl, hfn⟩; have hf8 := HF6.out.trans (w0_fr hfn rb); clear b0 b1 c0 c1 c2 c3 f0 f1 f2 f3 hlt; obtain ⟨b0, b1, c0, c1, c2, c3, f0, f1, f2, f3, hlt⟩ := boxes hrb hf8; have HP8 := hide (HP6.out.fr hfn id); have HF8 := hide hf8; clear hfn hf8)
    | (go_at_call 35; refine (bad_any rb l' z 7 _ HP8.out).mono ?_; rintro e w9 ⟨rfl, hp, hf⟩; have hf9 := HF8.out.trans hf; clear b0 b1 c0 c1 c2 c3 f0 f1 f2 f3 hlt; obtain ⟨b0, b1, c0, c1, c2, c3, f0, f1, f2, f3, hlt⟩ := boxes hrb hf9; have HP9 := hide hp; have HF9 := hide hf9; clear hp hf hf9)
    )
  refine bodyPost_ret (v := ev ⟨3, 0, v, nilS⟩) (by simp [results, Tryd.results51, go_sem, c0, c1, c2, c3, bs]) rfl ?_
  exact ex_fin (res := ⟨.mk 3 0 v [], l', bad z 7⟩) hrb HF9.out HP9.out (ex_leaf _ _ _ _ _) _ _ _ _
end Go.Proofs.YtkmdamljhagogaaDoor
