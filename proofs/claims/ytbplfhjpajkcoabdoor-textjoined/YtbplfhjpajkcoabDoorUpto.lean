/- Piece by piece up to a bracket. -/
import Derived.Test.YtbplfhjpajkcoabDoorSingle
namespace Go.Proofs.YtbplfhjpajkcoabDoor
open Go.RowKit

theorem At.le {T : ByteArray} {p p' : Nat} {l : Bs} (h : At T p' l) (hp : p ≤ T.size) (hl : l.length ≤ (T.data.toList.drop p).length) : p ≤ p' := by
  have := h.2
  rw [← this, drop_len, drop_len] at hl
  have := h.1
  omega
theorem At.step {T : ByteArray} {p : Nat} {c : UInt8} {t : Bs} (h : At T p (c :: t)) : p + 1 ≤ T.size := h.lt
theorem At.less' {T : ByteArray} {p p' : Nat} {l : Bs} (h : At T p' l) (hl : l.length < (T.data.toList.drop p).length) : p < p' := by
  have := h.2
  rw [← this, drop_len, drop_len] at hl
  have := h.1
  omega
def UPost {α : Type} (T : ByteArray) (K : World → Prop) (J : List α → Nat → World → Prop) (acc : List α) (res : R (List α)) (e : Ending) (w' : World) : Prop :=
  ∃ z, e = .returned (.int .i64 z) ∧ K w' ∧ ((∃ xs l p', res = .ok xs l ∧ z = 0 ∧ At T p' l ∧ J (acc ++ xs) p' w') ∨ (res = .bad z ∧ z ≠ 0))
def OPost {α : Type} (T : ByteArray) (K : World → Prop) (J : List α → Nat → World → Prop) (acc : List α) (res : R α) (e : Ending) (w' : World) : Prop :=
  ∃ z, e = .returned (.int .i64 z) ∧ K w' ∧ ((∃ x l p', res = .ok x l ∧ z = 0 ∧ At T p' l ∧ J (acc ++ [x]) p' w') ∨ (res = .bad z ∧ z ≠ 0))
set_option maxHeartbeats 400000 in
theorem upto_68 {α : Type} (T : ByteArray) (mb rb : Nat) (c0 c1 c2 : Value) (one : Bs → R α) (J : List α → Nat → World → Prop) (K : World → Prop) (hless : Less one)
    (hJ : ∀ acc p w, J acc p w → Ry T mb rb p w) (hK : ∀ acc p w, J acc p w → K w)
    (hm : ∀ acc p p' w w', J acc p w → p ≤ p' → Ry T mb rb p' w' → Fr (fun k => k = rb) w w' → J acc p' w') (hKm : ∀ w w', K w → Fr (fun k => k = rb) w w' → K w')
    (hcl : ∀ acc p w, J acc p w → Calls Tryd.prog 68 #[c0, c1, c2] w (OPost T K J acc (one (T.data.toList.drop p))))
    (n : Nat) (acc : List α) (p : Nat) (w : World) (h : J acc p w) (hn : T.size - p < n) :
    Calls Tryd.prog 48 #[.pointer (some ⟨rb, 0, none⟩), .func (.func 68) #[] #[c0, c1, c2]] w (UPost T K J acc (many one n (T.data.toList.drop p))) := by
  have HJ := hide hJ
  have HK := hide hK
  have HM := hide hm
  have HKM := hide hKm
  have HCL := hide hcl
  have hpos : ∀ acc p w, J acc p w → posOf w rb = p := fun acc p w h => (hJ acc p w h).rx.rd.posOf
  have HP := hide hpos
  have H0 := hide h
  clear hJ hK hm hKm hcl hpos h
  go_enter Tryd.func48, Tryd.ntmps48
  go_wp2
  go_loopw [5, 6, 7] (fun _ _ _ wr => ∃ (m : Nat) (ac : List α) (q : Nat), T.size - q < m ∧ Hid (J (acc ++ ac) q wr ∧ many one n (T.data.toList.drop p) = (many one m (T.data.toList.drop q)).go fun ys l => .ok (ac ++ ys) l)) (fun _ _ _ wr => T.size - posOf wr rb)
  case atStart =>
    refine ⟨n, [], p, hn, ?_, ?_⟩
    · rw [List.append_nil]; exact H0.out
    · cases many one n (T.data.toList.drop p) <;> rfl
  case round =>
    obtain ⟨m, ac, q, hq, hR⟩ := hrel
    obtain ⟨m, rfl⟩ : ∃ k, m = k + 1 := ⟨m - 1, by omega⟩
    have hY := HJ.out _ _ _ hR.out.1
    have hPW := HP.out _ _ _ hR.out.1
    cases hs : skip (T.data.toList.drop q) with
    | nil =>
      have HC := hide (next_end T _ rb q wr hY.rx.rd hY.le hY.big hs)
      have HE : Hid (many one (m + 1) (T.data.toList.drop q) = .bad 8) := by
        show many one (m + 1) _ = _
        unfold many
        rw [hs]
      clear hY hs
      go_wp2_with (go_at_call 46; refine HC.out.mono ?_; rintro e w1 ⟨rfl, hF1⟩; have HF := hide hF1; clear hF1)
      go_ret
      refine ⟨8, rfl, HKM.out _ _ (HK.out _ _ _ hR.out.1) HF.out, .inr ⟨?_, by decide⟩⟩
      rw [hR.out.2, HE.out]
      rfl
    | cons c t =>
      have HC := hide (next_some T _ rb q wr hY.rx.rd hY.le hY.big hs)
      have hsl : (c :: t).length ≤ (T.data.toList.drop q).length := hs ▸ skip_len _
      have HY := hide hY
      by_cases hc : c = 41
      · have HE : Hid (many one (m + 1) (T.data.toList.drop q) = .ok [] t) := by
          show many one (m + 1) _ = _
          unfold many
          rw [hs]
          simp [hc]
        subst hc
        clear hY hs
        go_wp2_with (go_at_call 46; refine HC.out.mono ?_; rintro e w1 ⟨p1, rfl, hat, hR1, hF1⟩; have hp1 := hat.le HY.out.le hsl; have hlt := hat.lt; have c1 := hR1.pos; have fz := hR1.fz; have hb := hR1.lt; have HF := hide hF1; have HRD := hide hR1; have HA := hide hat; have hbig := HY.out.big; clear hF1 hR1 hat)
        go_ret
        have hF9 := HF.out.setCell (p := ⟨rb, 1, none⟩) (.inl rfl) (.int .i64 ((p1 : Int) + 1))
        refine ⟨0, rfl, HKM.out _ _ (HK.out _ _ _ hR.out.1) hF9, .inl ⟨ac, t, p1 + 1, ?_, rfl, HA.out.get.2, ?_⟩⟩
        · rw [hR.out.2, HE.out]
          simp [R.go]
        · exact HM.out _ _ _ _ _ hR.out.1 (by omega) (HY.out.of HRD.out.step hlt hF9) hF9
      · have HE : Hid (many one (m + 1) (T.data.toList.drop q) = (one (c :: t)).go fun x l => (many one m l).go fun xs l => .ok (x :: xs) l) := by
          show many one (m + 1) _ = _
          rw [many]
          rw [hs]
          simp [hc]
        have h41 : ((c.toNat : Int) == 41) = false := by rw [is41]; simpa using hc
        clear hY hs
        go_wp2_with (first
          | (go_at_call 46; refine HC.out.mono ?_; rintro e w1 ⟨p1, rfl, hat, hR1, hF1⟩; have hp1 := hat.le HY.out.le hsl; have HJ1 := hide (HM.out _ _ _ _ _ hR.out.1 hp1 (HY.out.of hR1 hat.1 hF1) hF1); have HCL1 := hide (HCL.out _ _ _ HJ1.out); have HA := hide hat; clear hF1 hR1 hat)
          | (go_at_call 68; refine HCL1.out.mono ?_; rintro e w2 ⟨z, rfl, hk2, hres⟩; have HRES := hide hres; have HK2 := hide hk2; clear hres hk2))
        · rename_i hzz
          have hz : z ≠ 0 := by simpa using hzz
          go_ret
          rcases HRES.out with ⟨x, l, p', e1, e2, _⟩ | ⟨e1, _⟩
          · exact absurd e2 hz
          · refine ⟨z, rfl, HK2.out, .inr ⟨?_, hz⟩⟩
            rw [HA.out.2] at e1
            rw [hR.out.2, HE.out, e1]
            rfl
        · rename_i hzz
          have hz : z = 0 := by simpa using hzz
          rcases HRES.out with ⟨x, l, p3, e1, e2, e3, e4⟩ | ⟨_, e2⟩
          · have hlt := e3.less' (hless _ _ _ e1)
            refine ⟨⟨m, ac ++ [x], p3, ?_, ?_, ?_⟩, ?_⟩
            · have := e3.1
              omega
            · rw [← List.append_assoc]; exact e4
            · rw [HA.out.2] at e1
              rw [hR.out.2, HE.out, e1, e3.2]
              simp only [R.go]
              cases many one m l <;> simp
            · rw [HP.out _ _ _ e4, hPW]
              have := e3.1
              omega
          · exact absurd hz e2
set_option maxHeartbeats 400000 in
theorem upto_50 {α : Type} (T : ByteArray) (mb rb : Nat) (c0 c1 c2 : Value) (one : Bs → R α) (J : List α → Nat → World → Prop) (K : World → Prop) (hless : Less one)
    (hJ : ∀ acc p w, J acc p w → Ry T mb rb p w) (hK : ∀ acc p w, J acc p w → K w)
    (hm : ∀ acc p p' w w', J acc p w → p ≤ p' → Ry T mb rb p' w' → Fr (fun k => k = rb) w w' → J acc p' w') (hKm : ∀ w w', K w → Fr (fun k => k = rb) w w' → K w')
    (hcl : ∀ acc p w, J acc p w → Calls Tryd.prog 50 #[c0, c1, c2] w (OPost T K J acc (one (T.data.toList.drop p))))
    (n : Nat) (acc : List α) (p : Nat) (w : World) (h : J acc p w) (hn : T.size - p < n) :
    Calls Tryd.prog 48 #[.pointer (some ⟨rb, 0, none⟩), .func (.func 50) #[] #[c0, c1, c2]] w (UPost T K J acc (many one n (T.data.toList.drop p))) := by
  have HJ := hide hJ
  have HK := hide hK
  have HM := hide hm
  have HKM := hide hKm
  have HCL := hide hcl
  have hpos : ∀ acc p w, J acc p w → posOf w rb = p := fun acc p w h => (hJ acc p w h).rx.rd.posOf
  have HP := hide hpos
  have H0 := hide h
  clear hJ hK hm hKm hcl hpos h
  go_enter Tryd.func48, Tryd.ntmps48
  go_wp2
  go_loopw [5, 6, 7] (fun _ _ _ wr => ∃ (m : Nat) (ac : List α) (q : Nat), T.size - q < m ∧ Hid (J (acc ++ ac) q wr ∧ many one n (T.data.toList.drop p) = (many one m (T.data.toList.drop q)).go fun ys l => .ok (ac ++ ys) l)) (fun _ _ _ wr => T.size - posOf wr rb)
  case atStart =>
    refine ⟨n, [], p, hn, ?_, ?_⟩
    · rw [List.append_nil]; exact H0.out
    · cases many one n (T.data.toList.drop p) <;> rfl
  case round =>
    obtain ⟨m, ac, q, hq, hR⟩ := hrel
    obtain ⟨m, rfl⟩ : ∃ k, m = k + 1 := ⟨m - 1, by omega⟩
    have hY := HJ.out _ _ _ hR.out.1
    have hPW := HP.out _ _ _ hR.out.1
    cases hs : skip (T.data.toList.drop q) with
    | nil =>
      have HC := hide (next_end T _ rb q wr hY.rx.rd hY.le hY.big hs)
      have HE : Hid (many one (m + 1) (T.data.toList.drop q) = .bad 8) := by
        show many one (m + 1) _ = _
        unfold many
        rw [hs]
      clear hY hs
      go_wp2_with (go_at_call 46; refine HC.out.mono ?_; rintro e w1 ⟨rfl, hF1⟩; have HF := hide hF1; clear hF1)
      go_ret
      refine ⟨8, rfl, HKM.out _ _ (HK.out _ _ _ hR.out.1) HF.out, .inr ⟨?_, by decide⟩⟩
      rw [hR.out.2, HE.out]
      rfl
    | cons c t =>
      have HC := hide (next_some T _ rb q wr hY.rx.rd hY.le hY.big hs)
      have hsl : (c :: t).length ≤ (T.data.toList.drop q).length := hs ▸ skip_len _
      have HY := hide hY
      by_cases hc : c = 41
      · have HE : Hid (many one (m + 1) (T.data.toList.drop q) = .ok [] t) := by
          show many one (m + 1) _ = _
          unfold many
          rw [hs]
          simp [hc]
        subst hc
        clear hY hs
        go_wp2_with (go_at_call 46; refine HC.out.mono ?_; rintro e w1 ⟨p1, rfl, hat, hR1, hF1⟩; have hp1 := hat.le HY.out.le hsl; have hlt := hat.lt; have c1 := hR1.pos; have fz := hR1.fz; have hb := hR1.lt; have HF := hide hF1; have HRD := hide hR1; have HA := hide hat; have hbig := HY.out.big; clear hF1 hR1 hat)
        go_ret
        have hF9 := HF.out.setCell (p := ⟨rb, 1, none⟩) (.inl rfl) (.int .i64 ((p1 : Int) + 1))
        refine ⟨0, rfl, HKM.out _ _ (HK.out _ _ _ hR.out.1) hF9, .inl ⟨ac, t, p1 + 1, ?_, rfl, HA.out.get.2, ?_⟩⟩
        · rw [hR.out.2, HE.out]
          simp [R.go]
        · exact HM.out _ _ _ _ _ hR.out.1 (by omega) (HY.out.of HRD.out.step hlt hF9) hF9
      · have HE : Hid (many one (m + 1) (T.data.toList.drop q) = (one (c :: t)).go fun x l => (many one m l).go fun xs l => .ok (x :: xs) l) := by
          show many one (m + 1) _ = _
          rw [many]
          rw [hs]
          simp [hc]
        have h41 : ((c.toNat : Int) == 41) = false := by rw [is41]; simpa using hc
        clear hY hs
        go_wp2_with (first
          | (go_at_call 46; refine HC.out.mono ?_; rintro e w1 ⟨p1, rfl, hat, hR1, hF1⟩; have hp1 := hat.le HY.out.le hsl; have HJ1 := hide (HM.out _ _ _ _ _ hR.out.1 hp1 (HY.out.of hR1 hat.1 hF1) hF1); have HCL1 := hide (HCL.out _ _ _ HJ1.out); have HA := hide hat; clear hF1 hR1 hat)
          | (go_at_call 50; refine HCL1.out.mono ?_; rintro e w2 ⟨z, rfl, hk2, hres⟩; have HRES := hide hres; have HK2 := hide hk2; clear hres hk2))
        · rename_i hzz
          have hz : z ≠ 0 := by simpa using hzz
          go_ret
          rcases HRES.out with ⟨x, l, p', e1, e2, _⟩ | ⟨e1, _⟩
          · exact absurd e2 hz
          · refine ⟨z, rfl, HK2.out, .inr ⟨?_, hz⟩⟩
            rw [HA.out.2] at e1
            rw [hR.out.2, HE.out, e1]
            rfl
        · rename_i hzz
          have hz : z = 0 := by simpa using hzz
          rcases HRES.out with ⟨x, l, p3, e1, e2, e3, e4⟩ | ⟨_, e2⟩
          · have hlt := e3.less' (hless _ _ _ e1)
            refine ⟨⟨m, ac ++ [x], p3, ?_, ?_, ?_⟩, ?_⟩
            · have := e3.1
              omega
            · rw [← List.append_assoc]; exact e4
            · rw [HA.out.2] at e1
              rw [hR.out.2, HE.out, e1, e3.2]
              simp only [R.go]
              cases many one m l <;> simp
            · rw [HP.out _ _ _ e4, hPW]
              have := e3.1
              omega
          · exact absurd hz e2
set_option maxHeartbeats 400000 in
theorem upto_49 {α : Type} (T : ByteArray) (mb rb : Nat) (c0 c1 : Value) (one : Bs → R α) (J : List α → Nat → World → Prop) (K : World → Prop) (hless : Less one)
    (hJ : ∀ acc p w, J acc p w → Ry T mb rb p w) (hK : ∀ acc p w, J acc p w → K w)
    (hm : ∀ acc p p' w w', J acc p w → p ≤ p' → Ry T mb rb p' w' → Fr (fun k => k = rb) w w' → J acc p' w') (hKm : ∀ w w', K w → Fr (fun k => k = rb) w w' → K w')
    (hcl : ∀ acc p w, J acc p w → Calls Tryd.prog 49 #[c0, c1] w (OPost T K J acc (one (T.data.toList.drop p))))
    (n : Nat) (acc : List α) (p : Nat) (w : World) (h : J acc p w) (hn : T.size - p < n) :
    Calls Tryd.prog 48 #[.pointer (some ⟨rb, 0, none⟩), .func (.func 49) #[] #[c0, c1]] w (UPost T K J acc (many one n (T.data.toList.drop p))) := by
  have HJ := hide hJ
  have HK := hide hK
  have HM := hide hm
  have HKM := hide hKm
  have HCL := hide hcl
  have hpos : ∀ acc p w, J acc p w → posOf w rb = p := fun acc p w h => (hJ acc p w h).rx.rd.posOf
  have HP := hide hpos
  have H0 := hide h
  clear hJ hK hm hKm hcl hpos h
  go_enter Tryd.func48, Tryd.ntmps48
  go_wp2
  go_loopw [5, 6, 7] (fun _ _ _ wr => ∃ (m : Nat) (ac : List α) (q : Nat), T.size - q < m ∧ Hid (J (acc ++ ac) q wr ∧ many one n (T.data.toList.drop p) = (many one m (T.data.toList.drop q)).go fun ys l => .ok (ac ++ ys) l)) (fun _ _ _ wr => T.size - posOf wr rb)
  case atStart =>
    refine ⟨n, [], p, hn, ?_, ?_⟩
    · rw [List.append_nil]; exact H0.out
    · cases many one n (T.data.toList.drop p) <;> rfl
  case round =>
    obtain ⟨m, ac, q, hq, hR⟩ := hrel
    obtain ⟨m, rfl⟩ : ∃ k, m = k + 1 := ⟨m - 1, by omega⟩
    have hY := HJ.out _ _ _ hR.out.1
    have hPW := HP.out _ _ _ hR.out.1
    cases hs : skip (T.data.toList.drop q) with
    | nil =>
      have HC := hide (next_end T _ rb q wr hY.rx.rd hY.le hY.big hs)
      have HE : Hid (many one (m + 1) (T.data.toList.drop q) = .bad 8) := by
        show many one (m + 1) _ = _
        unfold many
        rw [hs]
      clear hY hs
      go_wp2_with (go_at_call 46; refine HC.out.mono ?_; rintro e w1 ⟨rfl, hF1⟩; have HF := hide hF1; clear hF1)
      go_ret
      refine ⟨8, rfl, HKM.out _ _ (HK.out _ _ _ hR.out.1) HF.out, .inr ⟨?_, by decide⟩⟩
      rw [hR.out.2, HE.out]
      rfl
    | cons c t =>
      have HC := hide (next_some T _ rb q wr hY.rx.rd hY.le hY.big hs)
      have hsl : (c :: t).length ≤ (T.data.toList.drop q).length := hs ▸ skip_len _
      have HY := hide hY
      by_cases hc : c = 41
      · have HE : Hid (many one (m + 1) (T.data.toList.drop q) = .ok [] t) := by
          show many one (m + 1) _ = _
          unfold many
          rw [hs]
          simp [hc]
        subst hc
        clear hY hs
        go_wp2_with (go_at_call 46; refine HC.out.mono ?_; rintro e w1 ⟨p1, rfl, hat, hR1, hF1⟩; have hp1 := hat.le HY.out.le hsl; have hlt := hat.lt; have c1 := hR1.pos; have fz := hR1.fz; have hb := hR1.lt; have HF := hide hF1; have HRD := hide hR1; have HA := hide hat; have hbig := HY.out.big; clear hF1 hR1 hat)
        go_ret
        have hF9 := HF.out.setCell (p := ⟨rb, 1, none⟩) (.inl rfl) (.int .i64 ((p1 : Int) + 1))
        refine ⟨0, rfl, HKM.out _ _ (HK.out _ _ _ hR.out.1) hF9, .inl ⟨ac, t, p1 + 1, ?_, rfl, HA.out.get.2, ?_⟩⟩
        · rw [hR.out.2, HE.out]
          simp [R.go]
        · exact HM.out _ _ _ _ _ hR.out.1 (by omega) (HY.out.of HRD.out.step hlt hF9) hF9
      · have HE : Hid (many one (m + 1) (T.data.toList.drop q) = (one (c :: t)).go fun x l => (many one m l).go fun xs l => .ok (x :: xs) l) := by
          show many one (m + 1) _ = _
          rw [many]
          rw [hs]
          simp [hc]
        have h41 : ((c.toNat : Int) == 41) = false := by rw [is41]; simpa using hc
        clear hY hs
        go_wp2_with (first
          | (go_at_call 46; refine HC.out.mono ?_; rintro e w1 ⟨p1, rfl, hat, hR1, hF1⟩; have hp1 := hat.le HY.out.le hsl; have HJ1 := hide (HM.out _ _ _ _ _ hR.out.1 hp1 (HY.out.of hR1 hat.1 hF1) hF1); have HCL1 := hide (HCL.out _ _ _ HJ1.out); have HA := hide hat; clear hF1 hR1 hat)
          | (go_at_call 49; refine HCL1.out.mono ?_; rintro e w2 ⟨z, rfl, hk2, hres⟩; have HRES := hide hres; have HK2 := hide hk2; clear hres hk2))
        · rename_i hzz
          have hz : z ≠ 0 := by simpa using hzz
          go_ret
          rcases HRES.out with ⟨x, l, p', e1, e2, _⟩ | ⟨e1, _⟩
          · exact absurd e2 hz
          · refine ⟨z, rfl, HK2.out, .inr ⟨?_, hz⟩⟩
            rw [HA.out.2] at e1
            rw [hR.out.2, HE.out, e1]
            rfl
        · rename_i hzz
          have hz : z = 0 := by simpa using hzz
          rcases HRES.out with ⟨x, l, p3, e1, e2, e3, e4⟩ | ⟨_, e2⟩
          · have hlt := e3.less' (hless _ _ _ e1)
            refine ⟨⟨m, ac ++ [x], p3, ?_, ?_, ?_⟩, ?_⟩
            · have := e3.1
              omega
            · rw [← List.append_assoc]; exact e4
            · rw [HA.out.2] at e1
              rw [hR.out.2, HE.out, e1, e3.2]
              simp only [R.go]
              cases many one m l <;> simp
            · rw [HP.out _ _ _ e4, hPW]
              have := e3.1
              omega
          · exact absurd hz e2
end Go.Proofs.YtbplfhjpajkcoabDoor
