/- Words and names, read. -/
import Derived.Test.YtkmdamljhagogaaDoorNames
namespace Go.Proofs.YtkmdamljhagogaaDoor
open Go.RowKit

theorem while_stop {f : UInt8 → Bool} : ∀ {m : Bs} {k : Nat}, (m.take k).all f = true → (∀ c, m[k]? = some c → f c = false) → m.takeWhile f = m.take k ∧ m.dropWhile f = m.drop k
  | [], k, _, _ => by simp
  | c :: t, 0, _, hs => by
    have := hs c rfl
    simp [this]
  | c :: t, k + 1, h, hs => by
    simp only [List.take_succ_cons, List.all_cons, Bool.and_eq_true] at h
    have := while_stop (f := f) (m := t) (k := k) h.2 (fun c hc => hs c (by simpa using hc))
    simp [h.1, this.1, this.2]
theorem bs_take (m : Bs) (k : Nat) : (bs m).extract 0 k = bs (m.take k) := by rw [bs_extract, bs_list]; simp
theorem bs_drop (m : Bs) {k b : Nat} (hb : m.length ≤ b) : (bs m).extract k b = bs (m.drop k) := by
  rw [bs_extract, bs_list]
  congr 1
  exact List.take_of_length_le (by simp; omega)
theorem wordZ_0 (z : Int) : wordZ [] [] z = bad z 8 := rfl
theorem wordZ_1 {m : Bs} (h : m ≠ []) (z : Int) : wordZ m [] z = bad z 2 := by
  cases m with
  | nil => exact absurd rfl h
  | cons c t => rfl
theorem wordZ_2 {m w : Bs} (h : w ≠ []) (z : Int) : wordZ m w z = z := by
  cases w with
  | nil => exact absurd rfl h
  | cons c t => rfl
/-- Behind a word. -/
theorem W_fin {rb : Nat} {m v r : Bs} {z z' : Int} {w w1 w2 : World} {S S2 : ByteArray} (hS : S = bs v) (hS2 : S2 = bs r) (hP : Pr rb m z' w2) (hF1 : Fr (at_ rb) w w1) (hF2 : Fr (at_ rb) w1 w2) (hk : m.takeWhile inW = v ∧ m.dropWhile inW = r) (hz : wordZ m v z = z') :
    Ending.returned (.string S) = Ending.returned (.string (bs (m.takeWhile inW))) ∧ Pr rb (m.dropWhile inW) (wordZ m (m.takeWhile inW) z) (w2.setCell ⟨rb, 0, none⟩ (.string S2)) ∧ Fr (at_ rb) w (w2.setCell ⟨rb, 0, none⟩ (.string S2)) := by
  rw [hk.1, hk.2, hz, hS]
  exact ⟨rfl, hP.put' hS2, (hF1.trans hF2).setCell (p := ⟨rb, 0, none⟩) (.inl rfl) _⟩
theorem u8_no {c d : UInt8} {n : Int} (hn : (d.toNat : Int) = n) (h : (c == d) = false) : ¬ (c.toNat : Int) = n := by
  intro e
  have := u8_is c d n hn
  rw [h] at this
  simp [e] at this
theorem inW_yes {c : UInt8} (h : inW c = true) : ¬ (c.toNat : Int) = 32 ∧ ¬ (c.toNat : Int) = 10 ∧ ¬ (c.toNat : Int) = 40 ∧ ¬ (c.toNat : Int) = 41 ∧ ¬ (c.toNat : Int) = 39 := by
  have hn : ends c = false := by simpa [inW] using h
  simp only [ends, Bool.or_eq_false_iff] at hn
  exact ⟨u8_no (d := 32) rfl hn.1.1.1.1, u8_no (d := 10) rfl hn.1.1.1.2, u8_no (d := 40) rfl hn.1.1.2, u8_no (d := 41) rfl hn.1.2, u8_no (d := 39) rfl hn.2⟩
theorem take_ne {m : Bs} {k : Nat} (h : ¬ k = 0) (hm : 0 < m.length) : m.take k ≠ [] := by
  intro e
  rw [List.take_eq_nil_iff] at e
  rcases e with e | e
  · exact h e
  · subst e; simp at hm
theorem ne_bne {a b : Int} (h : ¬ a = b) : (a != b) = true := by simpa using h
theorem inW_no {c : UInt8} (h : inW c = false) : c = 32 ∨ c = 10 ∨ c = 40 ∨ c = 41 ∨ c = 39 := by
  have : ends c = true := by simpa [inW] using h
  simpa [ends, or_assoc] using this
set_option maxHeartbeats 4000000 in
set_option maxRecDepth 20000 in
theorem word_any (rb : Nat) (l : Bs) (z : Int) (w : World) (h : Pr rb l z w) (hl : l.length ≤ 1500) :
    Calls Tryd.prog 36 #[.pointer (some ⟨rb, 0, none⟩)] w fun e w' => e = .returned (.string (bs (word l z).v)) ∧ Pr rb (word l z).l (word l z).z w' ∧ Fr (at_ rb) w w' := by
  have HP := hide (peek_any rb l z w h hl)
  show Calls Tryd.prog 36 #[.pointer (some ⟨rb, 0, none⟩)] w fun e w' => e = .returned (.string (bs ((skip l).takeWhile inW))) ∧ Pr rb ((skip l).dropWhile inW) (wordZ (skip l) ((skip l).takeWhile inW) z) w' ∧ Fr (at_ rb) w w'
  have hml : (skip l).length ≤ 1500 := Nat.le_trans (skip_len l) hl
  generalize skip l = m at *
  have hsz := bs_size m
  clear h hl
  go_enter Tryd.func36, Tryd.ntmps36
  go_wp2_with (go_at_call 18; refine HP.out.mono ?_; rintro e w1 ⟨rfl, hp, hf⟩; have c0 := hp.s; have c1 := hp.e; have f0 := hp.f0; have hlt := hp.lt; have HP1 := hide hp; have HF1 := hide hf; clear hp hf)
  go_loop [3] (fun i => ∃ k : Nat, k ≤ m.length ∧ i = .int .i64 k ∧ Hid ((m.take k).all inW = true)) (fun i => m.length - (intOf i).toNat)
  case atStart => exact ⟨0, Nat.zero_le _, rfl, rfl⟩
  case round =>
    obtain ⟨k, hk, rfl, hall⟩ := hrel
    have stop : (∀ c, m[k]? = some c → inW c = false) → m.takeWhile inW = m.take k ∧ m.dropWhile inW = m.drop k := while_stop hall.out
    by_cases hkl : k < m.length
    · have hz : (k : Int) < ((bs m).size : Int) := by rw [hsz]; omega
      have hz' : k < (bs m).size := by rw [hsz]; omega
      generalize hc : (bs m)[k]'hz' = c
      have HCK : Hid (m[k] = c) := hc
      have HG : Hid (m[k]? = some c) := by show m[k]? = some c; rw [List.getElem?_eq_getElem hkl]; exact congrArg some HCK.out
      cases hw : inW c with
      | true =>
        obtain ⟨n1, n2, n3, n4, n5⟩ := inW_yes hw
        have b1 := ne_bne n1
        have b2 := ne_bne n2
        have b3 := ne_bne n3
        have b4 := ne_bne n4
        have b5 := ne_bne n5
        have HL := hide (all_take hall.out hkl HCK.out hw)
        clear hw stop
        go_wp2
        go_round
        case rel => exact ⟨k + 1, by omega, by go_num, HL⟩
        case measure => simp [intOf]; omega
      | false =>
        have HST := hide (stop (fun c' h' => by rw [HG.out] at h'; cases h'; exact hw))
        clear stop
        have hmn : m ≠ [] := by intro e; subst e; simp at hkl
        have hm0 : ¬ (m.length : Int) = 0 := by omega
        have key := inW_no hw
        clear hw HG HCK
        by_cases hk0 : k = 0
        · subst hk0
          have HZ := hide (wordZ_1 hmn z)
          have HB := hide (bad_any rb m z 2 w1 HP1.out)
          clear hmn
          rcases key with rfl | rfl | rfl | rfl | rfl
          all_goals
            go_wp2_with (go_at_call 35; refine HB.out.mono ?_; rintro e w2 ⟨rfl, hp, hf⟩; have d0 := hp.s; have g0 := hp.f0; have hlt2 := hp.lt; have HP2 := hide hp; have HF2 := hide hf; clear hp hf)
            go_ret
            exact W_fin (v := []) (r := m) (by first | rfl | (rw [bs_take]; rfl)) (by first | rfl | (rw [bs_drop m (Nat.le_refl _)]; rfl)) HP2.out HF1.out HF2.out (by simpa using HST.out) HZ.out
        · have hk1 : ¬ (k : Int) = 0 := by omega
          have HZ := hide (wordZ_2 (m := m) (w := m.take k) (take_ne hk0 (by omega)) z)
          clear hmn
          rcases key with rfl | rfl | rfl | rfl | rfl
          all_goals
            go_wp2
            go_ret
            exact W_fin (v := m.take k) (r := m.drop k) (bs_take m k) (bs_drop m (Nat.le_refl _)) HP1.out HF1.out (Fr.refl _ _) HST.out HZ.out
    · have hz : ¬ (k : Int) < ((bs m).size : Int) := by rw [hsz]; omega
      have hkm : k = m.length := by omega
      have HST := hide (stop (fun c' h' => by rw [List.getElem?_eq_none (by omega)] at h'; cases h'))
      clear stop hall
      by_cases hk0 : k = 0
      · have hm : m = [] := List.length_eq_zero_iff.1 (by omega)
        subst hm
        subst hk0
        clear hkm hk
        have HB := hide (bad_any rb [] z 8 w1 HP1.out)
        go_wp2_with (go_at_call 35; refine HB.out.mono ?_; rintro e w2 ⟨rfl, hp, hf⟩; have d0 := hp.s; have g0 := hp.f0; have hlt2 := hp.lt; have HP2 := hide hp; have HF2 := hide hf; clear hp hf)
        go_ret
        exact W_fin (v := []) (r := []) (by first | rfl | (rw [bs_take]; rfl)) (by first | rfl | (rw [bs_drop [] (Nat.le_refl _)]; rfl)) HP2.out HF1.out HF2.out (by simp) (wordZ_0 z)
      · have hk1 : ¬ (k : Int) = 0 := by omega
        have hm1 : ¬ (m.length : Int) = 0 := by omega
        have HZ := hide (wordZ_2 (m := m) (w := m.take k) (take_ne hk0 (by omega)) z)
        clear hkm
        go_wp2
        go_ret
        exact W_fin (v := m.take k) (r := m.drop k) (bs_take m k) (bs_drop m (Nat.le_refl _)) HP1.out HF1.out (Fr.refl _ _) HST.out HZ.out
set_option maxHeartbeats 400000 in
theorem nameR_any (rb : Nat) (l : Bs) (z : Int) (w : World) (h : Pr rb l z w) (hl : l.length ≤ 1500) :
    Calls Tryd.prog 20 #[.pointer (some ⟨rb, 0, none⟩)] w fun e w' => e = .returned (.string (bs (name l z).v)) ∧ Pr rb (name l z).l (name l z).z w' ∧ Fr (at_ rb) w w' := by
  have HW := hide (word_any rb l z w h hl)
  have hvl : (word l z).v.length ≤ 1500 := Nat.le_trans (List.takeWhile_sublist _).length_le (Nat.le_trans (skip_len l) hl)
  show Calls Tryd.prog 20 #[.pointer (some ⟨rb, 0, none⟩)] w fun e w' => e = .returned (.string (bs (word l z).v)) ∧ Pr rb (word l z).l (if isName (word l z).v then (word l z).z else bad (word l z).z 7) w' ∧ Fr (at_ rb) w w'
  generalize word l z = q at *
  obtain ⟨v, l', z'⟩ := q
  simp only at *
  have HN := hide (fun w => name_any v w hvl)
  clear h
  cases hq : isName v with
  | true =>
    simp only [if_true]
    simp only [hq] at HN
    go_enter Tryd.func20, Tryd.ntmps20
    go_wp2_with (first
      | (go_at_call 36; refine HW.out.mono ?_; rintro e w1 ⟨rfl, hp, hf⟩; have HP1 := hide hp; have HF1 := hide hf; clear hp hf)
      | (go_at_call 11; refine (HN.out _).mono ?_; rintro e w2 ⟨rfl, hf⟩; have HF2 := hide hf; clear hf))
    go_ret
    exact ⟨rfl, HP1.out.fr HF2.out id, HF1.out.trans (HF2.out.mono (fun _ _ e => e.elim))⟩
  | false =>
    simp only [Bool.false_eq_true, if_false]
    simp only [hq] at HN
    go_enter Tryd.func20, Tryd.ntmps20
    go_wp2_with (first
      | (go_at_call 36; refine HW.out.mono ?_; rintro e w1 ⟨rfl, hp, hf⟩; have HP1 := hide hp; have HF1 := hide hf; clear hp hf)
      | (go_at_call 11; refine (HN.out _).mono ?_; rintro e w2 ⟨rfl, hf⟩; have HB := hide (bad_any rb l' z' 7 w2 (HP1.out.fr hf id)); have HF2 := hide hf; clear hf)
      | (go_at_call 35; refine HB.out.mono ?_; rintro e w3 ⟨rfl, hp, hf⟩; have HP3 := hide hp; have HF3 := hide hf; clear hp hf))
    go_ret
    exact ⟨rfl, HP3.out, (HF1.out.trans (HF2.out.mono (fun _ _ e => e.elim))).trans HF3.out⟩
end Go.Proofs.YtkmdamljhagogaaDoor
