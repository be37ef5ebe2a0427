/- The reader: names and quoted texts. -/
import Derived.Test.YtbplfhjpajkcoabDoorWord
import Derived.Test.YtbplfhjpajkcoabDoorNames
namespace Go.Proofs.YtbplfhjpajkcoabDoor
open Go.RowKit

theorem drop_len (T : ByteArray) (p : Nat) : (T.data.toList.drop p).length = T.size - p := by rw [List.length_drop, Array.length_toList]; rfl
theorem word_len {l v l' : Bs} (h : wordP l = .ok v l') : v.length ≤ l.length := by
  unfold wordP at h
  have hk := skip_len l
  cases hs : skip l with
  | nil => rw [hs] at h; cases h
  | cons x t =>
    rw [hs] at h hk
    dsimp only at h
    split at h
    · cases h
    · cases h
      exact Nat.le_trans (List.takeWhile_sublist _).length_le hk
/-- The reader, with the words of the language at hand. -/
structure Rx (T : ByteArray) (mb rb p : Nat) (w : World) : Prop where
  rd : Rd T (.map (some mb)) rb p w
  fm : FM mb w
  ne : mb ≠ rb
theorem Rx.of {T : ByteArray} {mb rb p p' : Nat} {w w' : World} (h : Rx T mb rb p w) (hr : Rd T (.map (some mb)) rb p' w') (hf : Fr (fun k => k = rb) w w') : Rx T mb rb p' w' := ⟨hr, h.fm.fr hf h.ne, h.ne⟩
set_option maxHeartbeats 400000 in
theorem name_ok (T : ByteArray) (mb rb p : Nat) (w : World) (h : Rx T mb rb p w) (hp : p ≤ T.size) (hT : T.size ≤ 1500) {v l : Bs} (hs : nameP (T.data.toList.drop p) = .ok v l) :
    Calls Tryd.prog 32 #[.pointer (some ⟨rb, 0, none⟩)] w fun e w' => ∃ p', e = .returned (.tuple #[.string (bs v), .int .i64 0]) ∧ At T p' l ∧ Rx T mb rb p' w' ∧ Fr (fun k => k = rb) w w' := by
  obtain ⟨v1, l1, h1, h2⟩ := go_ok hs
  have hvl := word_len h1
  rw [drop_len] at hvl
  split at h2
  · rename_i hn
    cases h2
    have HC := hide (word_ok T _ rb p w h.rd hp hT h1)
    have HX := hide h
    clear h h1 hs
    go_enter Tryd.func32, Tryd.ntmps32
    go_wp2_with (first
      | (go_at_call 47; refine HC.out.mono ?_; rintro e w1 ⟨p1, rfl, hat, hR1, hF1⟩; have hX1 := HX.out.of hR1 hF1; have HI := hide (isName_any v mb w1 hX1.fm (by omega)); have c2 := hR1.fms; have hb := hR1.lt; have HF := hide hF1; have HR := hide hX1; have HA := hide hat; clear hF1 hR1 hat hX1)
      | (go_at_call 30; refine HI.out.mono ?_; rintro e w2 ⟨rfl, rfl⟩))
    all_goals go_ret2
    exact ⟨p1, rfl, HA.out, HR.out, HF.out⟩
  · cases h2
set_option maxHeartbeats 400000 in
theorem name_bad (T : ByteArray) (mb rb p : Nat) (w : World) (h : Rx T mb rb p w) (hp : p ≤ T.size) (hT : T.size ≤ 1500) {z : Int} (hs : nameP (T.data.toList.drop p) = .bad z) :
    Calls Tryd.prog 32 #[.pointer (some ⟨rb, 0, none⟩)] w fun e w' => e = .returned (.tuple #[.string ⟨#[]⟩, .int .i64 z]) ∧ z ≠ 0 ∧ Fr (fun k => k = rb) w w' := by
  unfold nameP at hs
  cases h1 : wordP (T.data.toList.drop p) with
  | bad e1 =>
    rw [h1] at hs
    cases hs
    have HC := hide (word_bad T _ rb p w h.rd hp hT h1)
    clear h h1
    go_enter Tryd.func32, Tryd.ntmps32
    go_wp2_with (go_at_call 47; refine HC.out.mono ?_; rintro e w1 ⟨rfl, hz, hF1⟩; have HF := hide hF1; clear hF1)
    all_goals go_ret2
    exact ⟨rfl, hz, HF.out⟩
  | ok v l =>
    rw [h1] at hs
    have hvl := word_len h1
    rw [drop_len] at hvl
    simp only [R.go] at hs
    split at hs
    · cases hs
    · rename_i hn
      have hn0 : isName v = false := by simpa using hn
      cases hs
      have HC := hide (word_ok T _ rb p w h.rd hp hT h1)
      have HX := hide h
      clear h h1 hn
      go_enter Tryd.func32, Tryd.ntmps32
      go_wp2_with (first
        | (go_at_call 47; refine HC.out.mono ?_; rintro e w1 ⟨p1, rfl, hat, hR1, hF1⟩; have hX1 := HX.out.of hR1 hF1; have HI := hide (isName_any v mb w1 hX1.fm (by omega)); have c2 := hR1.fms; have hb := hR1.lt; have HF := hide hF1; clear hF1 hR1 hat hX1)
        | (go_at_call 30; refine HI.out.mono ?_; rintro e w2 ⟨rfl, rfl⟩))
      all_goals go_ret2
      exact ⟨rfl, by decide, HF.out⟩
/- Quotes. -/
theorem quoted_fin {T : ByteArray} {m : Value} {rb a q : Nat} {w wr : World} (hR : Upto noQ T a q ∧ Rd T m rb q wr ∧ Fr (fun k => k = rb) w wr) (he : ∀ c t, T.data.toList.drop q = c :: t → noQ c = false) :
    (T.data.toList.drop a).takeWhile noQ = (T.data.toList.drop a).take (q - a) ∧ (T.data.toList.drop a).dropWhile noQ = T.data.toList.drop q ∧ T.extract a q = bs ((T.data.toList.drop a).takeWhile noQ) := by
  have := hR.1.stop he
  exact ⟨this.1, this.2, by rw [bs_extract, this.1]⟩
set_option maxHeartbeats 400000 in
theorem quoted_any (T : ByteArray) (mb rb p : Nat) (w : World) (h : Rx T mb rb p w) (hp : p < T.size) (hT : T.size ≤ 1500) :
    Calls Tryd.prog 61 #[.pointer (some ⟨rb, 0, none⟩)] w fun e w' => Fr (fun k => k = rb) w w' ∧
      ((∃ v l p', quotedP (T.data.toList.drop (p + 1)) = .ok v l ∧ e = .returned (.tuple #[.string (bs v), .int .i64 0]) ∧ At T p' l ∧ Rx T mb rb p' w') ∨
       (∃ z, quotedP (T.data.toList.drop (p + 1)) = .bad z ∧ z ≠ 0 ∧ e = .returned (.tuple #[.string ⟨#[]⟩, .int .i64 z]))) := by
  have c0 := h.rd.txt
  have c1 := h.rd.pos
  have fz := h.rd.fz
  have hb := h.rd.lt
  have hz : (p : Int) < (T.size : Int) := by omega
  have S1 := hide h.rd.step
  have HX := hide h
  clear h
  have F1 : Hid (Fr (fun k => k = rb) w (w.setCell ⟨rb, 1, none⟩ (.int .i64 ((p : Int) + 1)))) := (Fr.refl (fun k => k = rb) w).setCell (p := ⟨rb, 1, none⟩) (.inl rfl) _
  go_enter Tryd.func61, Tryd.ntmps61
  go_wp2
  clear c0 c1 fz hb
  go_loopw [] (fun wr => ∃ q, q ≤ T.size ∧ Hid (Upto noQ T (p + 1) q ∧ Rd T (.map (some mb)) rb q wr ∧ Fr (fun k => k = rb) w wr)) (fun wr => T.size - posOf wr rb)
  case atStart => exact ⟨p + 1, by omega, Upto.start _ _ _, S1.out, F1.out⟩
  case round =>
    obtain ⟨q, hq, hR⟩ := hrel
    have d0 := hR.out.2.1.txt
    have d1 := hR.out.2.1.pos
    have dz := hR.out.2.1.fz
    have dl := hR.out.2.1.lt
    have hpq := hR.out.1.1
    by_cases he : q < T.size
    · have hz : (q : Int) < (T.size : Int) := by omega
      generalize hc : T[q]'he = c
      have h39 := is39 c
      by_cases hec : (c == 39) = true
      · rw [hec] at h39
        obtain ⟨k1, k2, k3⟩ := quoted_fin hR.out (fun c' t' h' => by
              rw [drop_cons he, hc] at h'
              obtain ⟨rfl, _⟩ := List.cons.inj h'
              simp [noQ, hec])
        have hlen : ((T.data.toList.drop (p + 1)).takeWhile noQ).length ≤ 1500 := by
          have := (List.takeWhile_sublist noQ (l := T.data.toList.drop (p + 1))).length_le
          rw [drop_len] at this
          omega
        have K2 : Hid (quotedP (T.data.toList.drop (p + 1)) = if isWord ((T.data.toList.drop (p + 1)).takeWhile noQ) then .ok ((T.data.toList.drop (p + 1)).takeWhile noQ) (T.data.toList.drop (q + 1)) else .bad 2) := by
          show quotedP _ = _
          unfold quotedP
          rw [k2, drop_cons he]
        generalize (T.data.toList.drop (p + 1)).takeWhile noQ = v at *
        have K3 := hide k3
        clear k1 k2
        by_cases hw : isWord v = true
        · go_wp2_with fail
          go_region
          go_wp2
          go_region
          go_wp2
          go_region
          go_wp2_with (first | (go_at_call 15; refine (isWord_any v _ hlen).mono ?_; rintro e w2 ⟨rfl, rfl⟩))
          go_ret2
          have hF : Fr (fun k => k = rb) w (wr.drew.drew.drew.setCell ⟨rb, 1, none⟩ (.int .i64 ((q : Int) + 1))) := hR.out.2.2.drew.drew.drew.setCell (p := ⟨rb, 1, none⟩) (.inl rfl) _
          exact ⟨hF, .inl ⟨v, _, q + 1, K2.out.trans (if_pos hw), rfl, ⟨he, rfl⟩, HX.out.of hR.out.2.1.drew.drew.drew.step hF⟩⟩
        · have hw0 : isWord v = false := by simpa using hw
          go_wp2_with fail
          go_region
          go_wp2
          go_region
          go_wp2
          go_region
          go_wp2_with (first | (go_at_call 15; refine (isWord_any v _ hlen).mono ?_; rintro e w2 ⟨rfl, rfl⟩))
          go_ret2
          exact ⟨hR.out.2.2.drew.drew.drew, .inr ⟨2, K2.out.trans (if_neg hw), by decide, rfl⟩⟩
      · have hec0 : (c == 39) = false := by simpa using hec
        rw [hec0] at h39
        go_wp2_with fail
        go_region
        go_wp2
        exact upto_step hR.out he hc (by simp [noQ, hec0])
    · have hz : ¬ (q : Int) < (T.size : Int) := by omega
      have hz2 : ((q : Int) == (T.size : Int)) = true := by rw [beq_iff_eq]; omega
      have K2 : Hid (quotedP (T.data.toList.drop (p + 1)) = .bad 8) := by
        have := quoted_fin hR.out (fun c' t' h' => by
              rw [drop_end (by omega)] at h'
              cases h')
        show quotedP _ = _
        unfold quotedP
        rw [this.2.1, drop_end (by omega)]
      go_wp2_with fail
      go_region
      go_wp2
      go_region
      go_wp2
      go_ret2
      exact ⟨hR.out.2.2.drew.drew, .inr ⟨8, K2.out, by decide, rfl⟩⟩
end Go.Proofs.YtbplfhjpajkcoabDoor
