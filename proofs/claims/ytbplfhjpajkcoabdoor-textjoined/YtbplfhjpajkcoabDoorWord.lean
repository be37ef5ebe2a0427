/- The reader: words. -/
import Derived.Test.YtbplfhjpajkcoabDoorNext
import Derived.Test.YtbplfhjpajkcoabDoorForms
namespace Go.Proofs.YtbplfhjpajkcoabDoor
open Go.RowKit
theorem bs_extract (T : ByteArray) (a b : Nat) : T.extract a b = bs ((T.data.toList.drop a).take (b - a)) := by
  apply ByteArray.ext
  apply Array.toList_inj.1
  simp [bs, ByteArray.data_extract, List.extract_eq_take_drop]
/-- Of the word at a as much is read as lies ahead of q. -/
def Upto (f : UInt8 → Bool) (T : ByteArray) (a q : Nat) : Prop :=
  a ≤ q ∧ (T.data.toList.drop a).takeWhile f = (T.data.toList.drop a).take (q - a) ++ (T.data.toList.drop q).takeWhile f ∧ (T.data.toList.drop a).dropWhile f = (T.data.toList.drop q).dropWhile f
theorem Upto.start (f : UInt8 → Bool) (T : ByteArray) (a : Nat) : Upto f T a a := ⟨Nat.le_refl _, by simp, rfl⟩
theorem Upto.step {f : UInt8 → Bool} {T : ByteArray} {a q : Nat} (h : Upto f T a q) {c : UInt8} (hq : q < T.size) (hc : T[q]'hq = c) (hf : f c = true) : Upto f T a (q + 1) := by
  obtain ⟨h1, h2, h3⟩ := h
  have hd := drop_cons hq
  rw [hc] at hd
  refine ⟨by omega, ?_, ?_⟩
  · rw [h2, hd]
    simp only [List.takeWhile_cons, hf, if_true]
    have h4 : (T.data.toList.drop a).take (q + 1 - a) = (T.data.toList.drop a).take (q - a) ++ [c] := by
      rw [show q + 1 - a = q - a + 1 by omega, List.take_add_one]
      congr 1
      rw [List.getElem?_drop, show a + (q - a) = q by omega]
      have h5 : q < T.data.toList.length := by simpa using hq
      rw [List.getElem?_eq_getElem h5]
      simp only [Option.toList]
      rw [← hc]
      rfl
    rw [h4]
    simp
  · rw [h3, hd]
    simp [hf]
theorem Upto.stop {f : UInt8 → Bool} {T : ByteArray} {a q : Nat} (h : Upto f T a q) (he : ∀ c t, T.data.toList.drop q = c :: t → f c = false) :
    (T.data.toList.drop a).takeWhile f = (T.data.toList.drop a).take (q - a) ∧ (T.data.toList.drop a).dropWhile f = T.data.toList.drop q := by
  obtain ⟨h1, h2, h3⟩ := h
  rw [h2, h3]
  cases hd : T.data.toList.drop q with
  | nil => simp
  | cons c t => simp [he c t hd]
theorem upto_step {f : UInt8 → Bool} {T : ByteArray} {m : Value} {rb a q : Nat} {w wr : World} {c : UInt8} (hR : Upto f T a q ∧ Rd T m rb q wr ∧ Fr (fun k => k = rb) w wr) (h : q < T.size)
    (hc : T[q]'h = c) (hf : f c = true) :
    (∃ q', q' ≤ T.size ∧ Hid (Upto f T a q' ∧ Rd T m rb q' (wr.setCell ⟨rb, 1, none⟩ (.int .i64 ((q : Int) + 1))).drew ∧ Fr (fun k => k = rb) w (wr.setCell ⟨rb, 1, none⟩ (.int .i64 ((q : Int) + 1))).drew)) ∧
      T.size - posOf (wr.setCell ⟨rb, 1, none⟩ (.int .i64 ((q : Int) + 1))).drew rb < T.size - posOf wr rb := by
  have h1 := hR.2.1.step.drew
  refine ⟨⟨q + 1, h, hR.1.step h hc hf, h1, (hR.2.2.setCell (p := ⟨rb, 1, none⟩) (.inl rfl) _).drew⟩, ?_⟩
  rw [h1.posOf, hR.2.1.posOf]
  omega
theorem word_fin {T : ByteArray} {m : Value} {rb p1 q : Nat} {w wr : World} {x : UInt8} {t v l : Bs} (hR : Upto inW T p1 q ∧ Rd T m rb q wr ∧ Fr (fun k => k = rb) w wr) (hq : q ≤ T.size) (hA : At T p1 (x :: t))
    (hS : R.ok ((x :: t).takeWhile inW) ((x :: t).dropWhile inW) = R.ok v l) (he : ∀ c t, T.data.toList.drop q = c :: t → inW c = false) {w' : World} (hw : w' = wr.drew.drew) :
    ∃ p', Ending.returned (.tuple #[.string (T.extract p1 q), .int .i64 0]) = Ending.returned (.tuple #[.string (bs v), .int .i64 0]) ∧ At T p' l ∧ Rd T m rb p' w' ∧ Fr (fun k => k = rb) w w' := by
  subst hw
  have := hR.1.stop he
  rw [hA.2] at this
  cases hS
  refine ⟨q, ?_, ⟨hq, this.2.symm⟩, hR.2.1.drew.drew, hR.2.2.drew.drew⟩
  rw [bs_extract, hA.2, ← this.1]
set_option maxHeartbeats 400000 in
theorem word_ok (T : ByteArray) (m : Value) (rb p : Nat) (w : World) (h : Rd T m rb p w) (hp : p ≤ T.size) (hT : T.size ≤ 1500) {v l : Bs} (hs : wordP (T.data.toList.drop p) = .ok v l) :
    Calls Tryd.prog 47 #[.pointer (some ⟨rb, 0, none⟩)] w fun e w' => ∃ p', e = .returned (.tuple #[.string (bs v), .int .i64 0]) ∧ At T p' l ∧ Rd T m rb p' w' ∧ Fr (fun k => k = rb) w w' := by
  unfold wordP at hs
  cases hk : skip (T.data.toList.drop p) with
  | nil => rw [hk] at hs; cases hs
  | cons x t =>
    rw [hk] at hs
    dsimp only at hs
    split at hs
    · cases hs
    · rename_i hx
      have hx0 : ends x = false := by simpa using hx
      have HC := hide (next_some T m rb p w h hp hT hk)
      have HS := hide hs
      clear h hk hs hx
      go_enter Tryd.func47, Tryd.ntmps47
      go_wp2_with (go_at_call 46; refine HC.out.mono ?_; rintro e w1 ⟨p1, rfl, hat, hR1, hF1⟩; have hlt := At.lt hat; have c1 := hR1.pos; have fz := hR1.fz; have hb := hR1.lt; have HF := hide hF1; have HR := hide hR1; have HA := hide hat; clear hF1 hR1 hat)
      go_loopw [] (fun wr => ∃ q, q ≤ T.size ∧ Hid (Upto inW T p1 q ∧ Rd T m rb q wr ∧ Fr (fun k => k = rb) w wr)) (fun wr => T.size - posOf wr rb)
      case atStart => exact ⟨p1, by omega, Upto.start _ _ _, HR.out, HF.out⟩
      case round =>
        obtain ⟨q, hq, hR⟩ := hrel
        have d0 := hR.out.2.1.txt
        have d1 := hR.out.2.1.pos
        have dz := hR.out.2.1.fz
        have dl := hR.out.2.1.lt
        clear c1 fz hb
        by_cases he : q < T.size
        · have hz : (q : Int) < (T.size : Int) := by omega
          generalize hc : T[q]'he = c
          by_cases hec : ends c = true
          · have hpq : p1 < q := by
              rcases Nat.lt_or_ge p1 q with h1 | h1
              · exact h1
              · exfalso
                obtain rfl : q = p1 := by have := hR.out.1.1; omega
                rw [HA.out.get.1] at hc
                subst hc
                rw [hec] at hx0
                cases hx0
            go_wp2_with fail
            first | go_region_held3 (fun w' => w'.cell? ⟨rb, 0, none⟩ = some (.string T) ∧ w'.cell? ⟨rb, 1, none⟩ = some (.int .i64 q)) (go_keep) (first | (go_at_call 54; refine (endsWord_any c _).mono ?_; rintro e w' ⟨rfl, rfl⟩)) | fail
            go_wp2
            go_region
            go_wp2
            go_ret2
            exact word_fin hR.out hq HA.out HS.out (fun c' t' h' => by
              rw [drop_cons he, hc] at h'
              obtain ⟨rfl, _⟩ := List.cons.inj h'
              simp [inW, hec]) rfl
          · have hef : ends c = false := by simpa using hec
            go_wp2_with fail
            first | go_region_held3 (fun w' => w'.cell? ⟨rb, 0, none⟩ = some (.string T) ∧ w'.cell? ⟨rb, 1, none⟩ = some (.int .i64 q)) (go_keep) (first | (go_at_call 54; refine (endsWord_any c _).mono ?_; rintro e w' ⟨rfl, rfl⟩)) | fail
            go_wp2
            exact upto_step hR.out he hc (by simp [inW, hef])
        · have hz : ¬ (q : Int) < (T.size : Int) := by omega
          have hpq : p1 < q := by omega
          go_wp2_with fail
          go_region
          go_wp2
          go_region
          go_wp2
          go_ret2
          exact word_fin hR.out hq HA.out HS.out (fun c' t' h' => by
              rw [drop_end (by omega)] at h'
              cases h') rfl
set_option maxHeartbeats 400000 in
theorem word_bad (T : ByteArray) (m : Value) (rb p : Nat) (w : World) (h : Rd T m rb p w) (hp : p ≤ T.size) (hT : T.size ≤ 1500) {z : Int} (hs : wordP (T.data.toList.drop p) = .bad z) :
    Calls Tryd.prog 47 #[.pointer (some ⟨rb, 0, none⟩)] w fun e w' => e = .returned (.tuple #[.string ⟨#[]⟩, .int .i64 z]) ∧ z ≠ 0 ∧ Fr (fun k => k = rb) w w' := by
  unfold wordP at hs
  cases hk : skip (T.data.toList.drop p) with
  | nil =>
    rw [hk] at hs
    cases hs
    have HC := hide (next_end T m rb p w h hp hT hk)
    clear h hk
    go_enter Tryd.func47, Tryd.ntmps47
    go_wp2_with (go_at_call 46; refine HC.out.mono ?_; rintro e w1 ⟨rfl, hF1⟩; have HF := hide hF1; clear hF1)
    all_goals go_ret2
    exact ⟨rfl, by decide, HF.out⟩
  | cons x t =>
    rw [hk] at hs
    dsimp only at hs
    split at hs
    · rename_i hx
      cases hs
      have HC := hide (next_some T m rb p w h hp hT hk)
      clear h hk
      go_enter Tryd.func47, Tryd.ntmps47
      go_wp2_with (go_at_call 46; refine HC.out.mono ?_; rintro e w1 ⟨p1, rfl, hat, hR1, hF1⟩; have hlt := At.lt hat; have c1 := hR1.pos; have c0 := hR1.txt; have hb := hR1.lt; have hc : T[p1]'hlt = x := hat.get.1; have HF := hide hF1; have HR := hide hR1; clear hF1 hR1 hat)
      have hz : (p1 : Int) < (T.size : Int) := by omega
      go_loopw [] (fun wr => wr = w1) (fun wr => 0)
      case atStart => rfl
      case round =>
        obtain rfl := hrel
        go_wp2_with fail
        first | go_region_held3 (fun w' => w'.cell? ⟨rb, 0, none⟩ = some (.string T) ∧ w'.cell? ⟨rb, 1, none⟩ = some (.int .i64 p1)) (go_keep) (first | (go_at_call 54; refine (endsWord_any x _).mono ?_; rintro e w' ⟨rfl, rfl⟩)) | fail
        go_wp2
        go_ret2
        exact ⟨rfl, by decide, HF.out.drew⟩
    · cases hs
end Go.Proofs.YtbplfhjpajkcoabDoor
