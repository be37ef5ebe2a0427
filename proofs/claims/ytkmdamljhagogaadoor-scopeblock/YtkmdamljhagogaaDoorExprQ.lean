/- An expression in quotes. -/
import Derived.Test.YtkmdamljhagogaaDoorExpr0
namespace Go.Proofs.YtkmdamljhagogaaDoor
open Go.RowKit

theorem noQ_yes {c : UInt8} (h : noQ c = true) : ¬ (c.toNat : Int) = 39 := u8_no (d := 39) rfl (by simpa [noQ] using h)
theorem noQ_no {c : UInt8} (h : noQ c = false) : c = 39 := by simpa [noQ] using h
theorem XPost.drew {rb : Nat} {w : World} {res : Rd Ex} {e : Ending} {w' : World} (h : XPost ev ExOk rb w res e w') : XPost ev ExOk rb w res e w'.drew := by
  obtain ⟨r, h1, h2, h3, h4⟩ := h
  exact ⟨r, h1, h2.drew, h3.drew, ex_stays _ _ nothing _ _ _ _ h4 (Fr.refl nothing w').drew (fun _ _ => id) (fun _ hk => hk)⟩
set_option maxHeartbeats 1000000 in
set_option maxRecDepth 20000 in
theorem expr_quote (rb : Nat) (l : Bs) (d : Int) (w : World) (h : Pr rb l 0 w) (hl : l.length ≤ 1500) (hd : d ≤ 10) {t : Bs} (hs : skip l = 39 :: t) :
    Calls Tryd.prog 51 #[.pointer (some ⟨rb, 0, none⟩), .int .i64 d] w (XPost ev ExOk rb w (quoted t 0)) := by
  have HD := hide (deep_any rb l 0 d _ (h.fr (fr3 w rb d) (S := nothing) id))
  have hrb := h.lt
  have e0 : deepZ d 0 = 0 := by simp [deepZ]; omega
  rw [e0] at HD
  have htl : t.length + 1 ≤ 1500 := by have := skip_len l; rw [hs] at this; simp at this; omega
  have HS := hide hs
  clear h e0 hs
  have hsz : (bs (39 :: t)).size = t.length + 1 := by rw [bs_size]; rfl
  go_enter Tryd.func51, Tryd.ntmps51
  go_wp2_with (first
    | (go_at_call 50; refine HD.out.mono ?_; rintro e w2 ⟨rfl, hp, hf⟩; have hpk := peek_any rb l 0 w2 hp hl; rw [HS.out, show ((peekC (39 :: t)).toNat : Int) = 39 from rfl] at hpk; have HPK := hide hpk; obtain ⟨b0, b1, -, -, -, -, -, -, -, -, hlt⟩ := boxes hrb hf; have HF := hide hf; clear hp hf hpk)
    | (go_at_call 18; refine HPK.out.mono ?_; rintro e w4 ⟨rfl, hp, hf⟩; have hf4 := HF.out.trans hf; clear b0 b1 hlt; obtain ⟨b0, b1, c0, c1, c2, c3, f0, f1, f2, f3, hlt⟩ := boxes hrb hf4; have s0 := hp.s; have s1 := hp.e; have g0 := hp.f0; have g1 := hp.f1; have hl4 := hp.lt; have HP4 := hide hp; have HF4 := hide hf4; clear hp hf hf4))
  have hrw : ¬ w.heap.size = rb := by omega
  go_loop [6] (fun i => ∃ j : Nat, j ≤ t.length ∧ i = .int .i64 ((1 + j : Nat) : Int) ∧ Hid ((t.take j).all noQ = true)) (fun i => t.length + 1 - (intOf i).toNat)
  case atStart => exact ⟨0, Nat.zero_le _, rfl, rfl⟩
  case round =>
    obtain ⟨j, hj, rfl, hall⟩ := hrel
    have stop : (∀ c, t[j]? = some c → noQ c = false) → t.takeWhile noQ = t.take j ∧ t.dropWhile noQ = t.drop j := while_stop hall.out
    by_cases hjl : j < t.length
    · have hz : ((1 + j : Nat) : Int) < ((bs (39 :: t)).size : Int) := by rw [hsz]; omega
      have hz' : 1 + j < (bs (39 :: t)).size := by rw [hsz]; omega
      generalize hc : (bs (39 :: t))[1 + j]'hz' = c
      have HCK : Hid (t[j] = c) := by
        have h1 : (bs (39 :: t))[1 + j]'hz' = (39 :: t)[1 + j]'(by simp; omega) := rfl
        show t[j] = c
        rw [← hc, h1]
        simp [Nat.add_comm 1 j]
      have HG : Hid (t[j]? = some c) := by show t[j]? = some c; rw [List.getElem?_eq_getElem hjl]; exact congrArg some HCK.out
      cases hw : noQ c with
      | true =>
        have n1 := noQ_yes hw
        have b1 := ne_bne n1
        have HL := hide (all_take hall.out hjl HCK.out hw)
        clear hw stop
        go_wp2
        go_round
        case rel => exact ⟨j + 1, by omega, by go_num, HL⟩
        case measure => simp [intOf]; omega
      | false =>
        have HST := hide (stop (fun c' h' => by rw [HG.out] at h'; cases h'; exact hw))
        have hq := noQ_no hw
        clear stop hw
        subst hq
        have hdj : t.drop j = 39 :: t.drop (j + 1) := by rw [List.drop_eq_getElem_cons hjl, HCK.out]
        have hQ : quoted t 0 = ⟨.mk 2 0 (t.take j) [], t.drop (j + 1), if isWord (t.take j) then 0 else bad 0 2⟩ := by
          unfold quoted
          rw [HST.out.1, HST.out.2, hdj]
        have HW := hide (fun w => isWord_any (t.take j) w (by rw [List.length_take]; omega))
        have hne : ¬ ((1 + j : Nat) : Int) = ((bs (39 :: t)).size : Int) := by omega
        have ee1 : (bs (39 :: t)).extract 1 (1 + j) = bs (t.take j) := by
          rw [bs_extract, bs_list]
          congr 1
          simp only [List.drop_succ_cons, List.drop_zero]
          congr 1
          omega
        have ee2 : ∀ b, t.length + 1 ≤ b → (bs (39 :: t)).extract (1 + j + 1) b = bs (t.drop (j + 1)) := fun b hb => by
          rw [bs_drop (39 :: t) (by simpa using hb)]
          congr 1
          rw [show 1 + j + 1 = (j + 1) + 1 by omega, List.drop_succ_cons]
        have HE2 := hide ee2
        have HQ := hide hQ
        clear hdj HST HG HCK hall hQ ee2
        generalize hv : t.take j = v at *
        cases hq : isWord v with
        | true =>
          rw [hq] at HW HQ
          have HQ2 : Hid (quoted t 0 = ⟨.mk 2 0 v [], t.drop (j + 1), 0⟩) := HQ.out
          clear HQ
          go_wp2_with (first | (go_at_call 33; refine (HW.out _).mono ?_; rintro e w5 ⟨rfl, rfl⟩))
          go_region
          all_goals go_wp2_with (first | (go_at_call 33; refine (HW.out _).mono ?_; rintro e w5 ⟨rfl, rfl⟩))
          all_goals refine bodyPost_ret (v := ev ⟨2, 0, v, nilS⟩) (by simp [results, Tryd.results51, go_sem, c0, c1, c2, c3]) rfl ?_
          all_goals rw [HQ2.out]
          all_goals exact (ex_fin (res := ⟨.mk 2 0 v [], t.drop (j + 1), 0⟩) hrb (HF4.out.setCell (p := ⟨rb, 0, none⟩) (.inl rfl) _) (HP4.out.put' (HE2.out _ (Nat.le_refl _))) (ex_leaf _ _ _ _ _) _ _ _ _).drew
        | false =>
          rw [hq] at HW HQ
          have HQ2 : Hid (quoted t 0 = ⟨.mk 2 0 v [], t.drop (j + 1), bad 0 2⟩) := HQ.out
          clear HQ
          go_wp2_with (first | (go_at_call 33; refine (HW.out _).mono ?_; rintro e w5 ⟨rfl, rfl⟩))
          go_region
          all_goals go_wp2_with (first
            | (go_at_call 33; refine (HW.out _).mono ?_; rintro e w5 ⟨rfl, rfl⟩; have HP6 := hide (HP4.out.put' (HE2.out _ (Nat.le_refl _))).drew; have FF := hide (HF4.out.setCell (p := ⟨rb, 0, none⟩) (.inl rfl) (.string ((bs (39 :: t)).extract (1 + j + 1) (t.length + 1)))).drew)
            | (go_at_call 35; refine (bad_any rb (t.drop (j + 1)) 0 2 _ HP6.out).mono ?_; rintro e w7 ⟨rfl, hp, hf⟩; have hf7 := FF.out.trans hf; clear b0 b1 c0 c1 c2 c3 f0 f1 f2 f3 hlt; obtain ⟨b0, b1, c0, c1, c2, c3, f0, f1, f2, f3, hlt⟩ := boxes hrb hf7; have HP7 := hide hp; have HF7 := hide hf7; clear hp hf hf7))
          all_goals refine bodyPost_ret (v := ev ⟨2, 0, v, nilS⟩) (by simp [results, Tryd.results51, go_sem, c0, c1, c2, c3]) rfl ?_
          all_goals rw [HQ2.out]
          all_goals exact ex_fin (res := ⟨.mk 2 0 v [], t.drop (j + 1), bad 0 2⟩) hrb HF7.out HP7.out (ex_leaf _ _ _ _ _) _ _ _ _
    · have hjt : j = t.length := by omega
      have HST := hide (stop (fun c' h' => by rw [List.getElem?_eq_none (by omega)] at h'; cases h'))
      have HQ : Hid (quoted t 0 = ⟨.mk 2 0 [] [], t, bad 0 8⟩) := by
        show quoted t 0 = _
        unfold quoted
        rw [HST.out.2, List.drop_of_length_le (by omega)]
      clear stop hall HST
      have hz : ¬ ((1 + j : Nat) : Int) < ((bs (39 :: t)).size : Int) := by rw [hsz]; omega
      have hze : ((1 + j : Nat) : Int) = ((bs (39 :: t)).size : Int) := by rw [hsz]; omega
      subst hjt
      clear hz hze
      have ha : (1 : Int) + (t.length : Int) = (t.length : Int) + 1 := by omega
      have HP6 := hide (HP4.out.put' (bs_tail 39 t (Nat.le_refl _))).drew
      have FF := hide (HF4.out.setCell (p := ⟨rb, 0, none⟩) (.inl rfl) (.string ((bs (39 :: t)).extract 1 (t.length + 1)))).drew
      go_wp2_with fail
      go_region
      all_goals go_wp2_with (first
        | (go_at_call 35; refine (bad_any rb t 0 8 _ HP6.out).mono ?_; rintro e w7 ⟨rfl, hp, hf⟩; have hf7 := FF.out.trans hf; clear b0 b1 c0 c1 c2 c3 f0 f1 f2 f3 hlt; obtain ⟨b0, b1, c0, c1, c2, c3, f0, f1, f2, f3, hlt⟩ := boxes hrb hf7; have HP7 := hide hp; have HF7 := hide hf7; clear hp hf hf7))
      all_goals refine bodyPost_ret (v := ev ⟨2, 0, [], nilS⟩) (by simp [results, Tryd.results51, go_sem, c0, c1, c2, c3, bs]) rfl ?_
      all_goals rw [HQ.out]
      all_goals exact ex_fin (res := ⟨.mk 2 0 [] [], t, bad 0 8⟩) hrb HF7.out HP7.out (ex_leaf _ _ _ _ _) _ _ _ _
end Go.Proofs.YtkmdamljhagogaaDoor
