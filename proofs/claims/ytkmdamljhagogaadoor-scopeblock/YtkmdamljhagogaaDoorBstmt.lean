/- Package scope: a statement. -/
import Derived.Test.YtkmdamljhagogaaDoorBody2
import Derived.Test.YtkmdamljhagogaaDoorCst0
set_option maxHeartbeats 0
set_option maxRecDepth 100000
namespace Go.Proofs.YtkmdamljhagogaaDoor
open Go Go.RowKit
def BBl (l : List St) : Prop := ∀ (bb pb wb tb : Nat) (F : AMap) (nm : List Bs) (v : Int) (W : WS) (sl : Slc) (rs : List RawS) (w : World), BI bb pb wb tb F nm v W w → Sl encS 5 w sl.v rs → (∀ b, sl.v.ownBlock = some b → ¬ bw bb wb tb b) → Each (StOk w (fun k => ¬ bw bb wb tb k)) rs l → W.n + stsN l ≤ 100000 → 0 ≤ v → v ≤ 8 → nm.length + stsN l ≤ 100000 →
  Calls Tryd.prog 26 #[.pointer (some ⟨bb, 0, none⟩), .slice sl.a sl.n sl.c] w fun e w' => e = .returned (.int .i64 (stsC F.f l nm v W).e) ∧ Fr (bw bb wb tb) w w' ∧ ((stsC F.f l nm v W).e = 0 → BI bb pb wb tb F nm (stsC F.f l nm v W).v (stsC F.f l nm v W).W w')
def BSt (s : St) : Prop := ∀ (bb pb wb tb : Nat) (F : AMap) (nm : List Bs) (v : Int) (W : WS) (r : RawS) (w : World), BI bb pb wb tb F nm v W w → StOk w (fun k => ¬ bw bb wb tb k) r s → W.n + stN s ≤ 100000 → 0 ≤ v → v ≤ 8 → nm.length + stN s ≤ 100000 →
  Calls Tryd.prog 39 #[.pointer (some ⟨bb, 0, none⟩), sv r] w fun e w' => e = .returned (.int .i64 (stC F.f s nm v W).e) ∧ Fr (bw bb wb tb) w w' ∧ ((stC F.f s nm v W).e = 0 → BI bb pb wb tb F (stC F.f s nm v W).nm (stC F.f s nm v W).v (stC F.f s nm v W).W w')
theorem stC_plain {F : Bs → Option Int} {k : Int} {t : Bs} {a : List Ex} {nm : List Bs} {v : Int} {W W1 : WS} (h : exsC F nm a W = ⟨0, W1⟩) : stC F (.mk k t a [] []) nm v W = ⟨stE nm v k t, stN1 nm k t, stV1 v k, W1⟩ := by
  rw [stC_mk, h, cr_ok rfl]
  by_cases he : stE nm v k t = 0
  · rw [cr_ok (by exact he), stsC_nil, cr_ok rfl, stsC_nil, cr_ok rfl, he]
  · rw [cr_bad (by exact he)]
theorem bstmt_step (k : Int) (t : Bs) (a : List Ex) (x y : List St) (ihE : ∀ e ∈ a, BEx e) (ihX : BBl x) (ihY : BBl y) (ht : t.length ≤ 1500) (h1 : k ≠ 3 → k ≠ 4 → x = []) (h2 : k ≠ 3 → y = []) : BSt (.mk k t a x y) := by
  intro bb pb wb tb F nm v W r w hB hOk hW hv0 hv8 hnm
  rw [stN] at hW hnm
  cases hOk with
  | mk _ _ sa sx sy ra rx ry _ _ _ ha hPa ha2 hsx hPx hx1 hx2 hsy hPy hy1 hy2 =>
  have hFA : Fr nothing w (w.alloc (so ⟨k, t, sa, sx, sy⟩)) := (Fr.refl _ _).alloc _
  have hBA := hB.fr hFA id id id id
  have hlt := hBA.lt
  have hwb : ¬ w.heap.size = wb := by obtain ⟨A, q1, _⟩ := hB.wm; have := q1.lt; omega
  have htb : ¬ w.heap.size = tb := by obtain ⟨A, q1, _⟩ := hB.tm; have := q1.lt; omega
  have hbb : ¬ w.heap.size = bb := by have := hB.lt; omega
  have HSB : Hid (¬ bw bb wb tb w.heap.size) := by rintro (e | e | e) <;> omega
  have HX := hide (fun w' (hf : Fr nothing (w.alloc (so ⟨k, t, sa, sx, sy⟩)) w') => exprs_any a ihE bb pb wb tb F nm v W sa ra w' (hBA.fr hf id id id id) (ha.fr (hFA.trans hf) (fun _ _ => id)) (fun b hb e => hPa b hb (.inr (.inl e))) ⟨ha2.1, fun i r x q1 q2 => ex_stays _ _ _ _ _ _ _ (ha2.2 i r x q1 q2) (hFA.trans hf) (fun _ _ => id) (fun _ hk e => hk (.inr (.inl e)))⟩ (by omega))
  have HM5 : Hid (∀ S w', Fr S (w.alloc (so ⟨k, t, sa, sx, sy⟩)) w' → ¬ S w.heap.size → B5 w.heap.size (.int .i64 k) (.string (bs t)) (.slice sa.a sa.n sa.c) (.slice sx.a sx.n sx.c) (.slice sy.a sy.n sy.c) w') := fun S w' hf hs => so_cells hf hs
  have hle := exsC_le F.f nm a W
  obtain ⟨m0, m1, m2, m3, m4, mf, ml⟩ := HM5.out nothing _ (Fr.refl _ _) id
  have HFA := hide hFA
  have HSX := hide hsx
  have HSY := hide hsy
  clear hFA hBA mf hlt hsx hsy ha
  generalize hwa : w.alloc (so ⟨k, t, sa, sx, sy⟩) = wa at *
  generalize hq : exsC F.f nm a W = q at HX hle
  obtain ⟨qe, W1⟩ := q
  simp only at HX hle
  by_cases hq0 : ¬ qe = 0
  · have hq2 := ne_bne hq0
    have hE := stC_ex (F := F.f) (k := k) (t := t) (a := a) (x := x) (y := y) (nm := nm) (v := v) (W := W) (by rw [hq]; exact hq0)
    rw [hq] at hE
    have HE := hide hE
    clear hE hq
    go_enter Tryd.func39, Tryd.ntmps39
    go_wp2_with (go_at_call 52; refine (HX.out _ (Fr.refl _ _)).mono ?_; rintro e w7 ⟨rfl, hf, hc⟩; have HF7 := hide ((HFA.out.mono (fun _ _ e => e.elim)).trans (hf.mono (fun _ _ e => .inr (.inl e))) : Fr (bw bb wb tb) w w7); clear hf hc)
    go_ret
    exact ⟨by rw [HE.out]; rfl, HF7.out, fun h0 => absurd (HE.out.symm.trans h0) hq0⟩
  · replace hq0 := Decidable.not_not.1 hq0
    subst hq0
    by_cases k1 : k = 1
    · have hx0 := h1 (by omega) (by omega)
      have hy0 := h2 (by omega)
      subst hx0
      subst hy0
      rw [stC_plain hq]
      subst k1
      clear hq
      have hn1 : stN1 nm 1 t = nm ++ [t] := by simp [stN1]
      have hv1 : stV1 v 1 = v + 1 := by simp [stV1]
      simp only
      rw [hn1, hv1]
      have hnn : nm.length ≤ 100000 := by omega
      go_enter Tryd.func39, Tryd.ntmps39
      go_wp2_with (first
        | (go_at_call 53; refine (let_any bb pb wb tb F nm v W1 t w7 HB7.out ht hnn hv0 hv8).mono ?_; rintro e w8 ⟨rfl, hf, hc⟩; have HB8 := hide hc; have HF8 := hide (HF7.out.trans hf); clear hf hc)
        | (go_at_call 52; refine (HX.out _ (Fr.refl _ _)).mono ?_; rintro e w7 ⟨rfl, hf, hc⟩; have HB7 := hide (hc rfl); obtain ⟨n0, n1, n2, n3, n4, nf, nl⟩ := HM5.out _ _ hf hwb; have HF7 := hide ((HFA.out.mono (fun _ _ e => e.elim)).trans (hf.mono (fun _ _ e => .inr (.inl e))) : Fr (bw bb wb tb) w w7); have HFW := hide (hf.mono (fun _ _ e => .inr (.inl e)) : Fr (bw bb wb tb) wa w7); clear hf hc nf))
      go_ret
      exact ⟨rfl, HF8.out, HB8.out⟩
    by_cases k2 : k = 2
    · have hx0 := h1 (by omega) (by omega)
      have hy0 := h2 (by omega)
      subst hx0
      subst hy0
      rw [stC_plain hq]
      subst k2
      clear hq
      have hn1 : stN1 nm 2 t = nm := by simp [stN1]
      have hv1 : stV1 v 2 = v := by simp [stV1]
      have he1 : stE nm v 2 t = knownE nm t := by simp [stE, knownE]
      simp only
      rw [hn1, hv1, he1]
      go_enter Tryd.func39, Tryd.ntmps39
      go_wp2_with (first
        | (go_at_call 54; refine (known_any bb pb wb tb F nm v W1 t w7 HB7.out ht).mono ?_; rintro e w8 ⟨rfl, hw8⟩; have hw8' := hw8.symm; subst hw8'; clear hw8)
        | (go_at_call 52; refine (HX.out _ (Fr.refl _ _)).mono ?_; rintro e w7 ⟨rfl, hf, hc⟩; have HB7 := hide (hc rfl); obtain ⟨n0, n1, n2, n3, n4, nf, nl⟩ := HM5.out _ _ hf hwb; have HF7 := hide ((HFA.out.mono (fun _ _ e => e.elim)).trans (hf.mono (fun _ _ e => .inr (.inl e))) : Fr (bw bb wb tb) w w7); have HFW := hide (hf.mono (fun _ _ e => .inr (.inl e)) : Fr (bw bb wb tb) wa w7); clear hf hc nf))
      go_ret
      exact ⟨rfl, HF7.out, fun _ => HB7.out⟩
    have p1 : (k == 1) = false := by simpa using k1
    have p2 : (k == 2) = false := by simpa using k2
    have hse : stE nm v k t = 0 := by simp [stE, k1, k2]
    have hn1 : stN1 nm k t = nm := by simp [stN1, k1]
    have hv1 : stV1 v k = v := by simp [stV1, k1]
    have HXX := hide (fun w7 (hb : BI bb pb wb tb F nm v W1 w7) (hf : Fr (bw bb wb tb) w w7) => ihX bb pb wb tb F nm v W1 sx rx w7 hb (HSX.out.keep hf hPx (fun k hk => hk)) hPx ⟨hx1, fun i r z q1 q2 => st_stays _ _ _ _ _ _ _ (hx2 i r z q1 q2) hf (fun k hk => hk) (fun _ hk => hk)⟩ (by omega) hv0 hv8 (by omega))
    have hvx := stsC_v F.f x nm v W1 hv0 hv8
    have hlx := stsC_le F.f x nm v W1
    by_cases k4 : k = 4
    · have hy0 := h2 (by omega)
      subst hy0
      subst k4
      obtain ⟨R, hR⟩ : ∃ R, stsC F.f x nm v W1 = R := ⟨_, rfl⟩
      rw [hR] at HXX
      by_cases hRe : R.e = 0
      · have hst := (stC_else (F := F.f) (k := 4) (t := t) (a := a) (x := x) (y := []) (nm := nm) (v := v) (W := W) (r := R) hq hse (by rw [hn1, hv1]; exact hR) hRe (stsC_nil _ _ _ _)).2 rfl
        rw [hst, hn1]
        clear hst hq hR
        simp only
        go_enter Tryd.func39, Tryd.ntmps39
        go_wp2_with (first
          | (go_at_call 26; refine (HXX.out w7 HB7.out HF7.out).mono ?_; rintro e w8 ⟨rfl, hf, hc⟩; have HB8 := hide (hc hRe); have HF8 := hide (HF7.out.trans hf); clear hf hc)
          | (go_at_call 52; refine (HX.out _ (Fr.refl _ _)).mono ?_; rintro e w7 ⟨rfl, hf, hc⟩; have HB7 := hide (hc rfl); obtain ⟨n0, n1, n2, n3, n4, nf, nl⟩ := HM5.out _ _ hf hwb; have HF7 := hide ((HFA.out.mono (fun _ _ e => e.elim)).trans (hf.mono (fun _ _ e => .inr (.inl e))) : Fr (bw bb wb tb) w w7); have HFW := hide (hf.mono (fun _ _ e => .inr (.inl e)) : Fr (bw bb wb tb) wa w7); clear hf hc nf))
        go_ret
        exact ⟨by first | rfl | (rw [hRe]; rfl), HF8.out, fun _ => HB8.out⟩
      · have hst := stC_then (F := F.f) (k := 4) (t := t) (a := a) (x := x) (y := []) (nm := nm) (v := v) (W := W) hq hse (by rw [hn1, hv1, hR]; exact hRe)
        rw [hn1, hv1, hR] at hst
        have HST := hide hst
        clear hst hq hR
        go_enter Tryd.func39, Tryd.ntmps39
        go_wp2_with (first
          | (go_at_call 26; refine (HXX.out w7 HB7.out HF7.out).mono ?_; rintro e w8 ⟨rfl, hf, hc⟩; have HF8 := hide (HF7.out.trans hf); clear hf hc)
          | (go_at_call 52; refine (HX.out _ (Fr.refl _ _)).mono ?_; rintro e w7 ⟨rfl, hf, hc⟩; have HB7 := hide (hc rfl); obtain ⟨n0, n1, n2, n3, n4, nf, nl⟩ := HM5.out _ _ hf hwb; have HF7 := hide ((HFA.out.mono (fun _ _ e => e.elim)).trans (hf.mono (fun _ _ e => .inr (.inl e))) : Fr (bw bb wb tb) w w7); have HFW := hide (hf.mono (fun _ _ e => .inr (.inl e)) : Fr (bw bb wb tb) wa w7); clear hf hc nf))
        go_ret
        exact ⟨by rw [HST.out]; rfl, HF8.out, fun h0 => absurd (HST.out.symm.trans h0) hRe⟩
    have p4 : (k == 4) = false := by simpa using k4
    by_cases k3 : k = 3
    · subst k3
      obtain ⟨R, hR⟩ : ∃ R, stsC F.f x nm v W1 = R := ⟨_, rfl⟩
      rw [hR] at HXX hvx hlx
      by_cases hRe : R.e = 0
      · have hv2 := hvx hRe
        have HYY := hide (fun w8 (hb : BI bb pb wb tb F nm R.v R.W w8) (hf : Fr (bw bb wb tb) w w8) => ihY bb pb wb tb F nm R.v R.W sy ry w8 hb (HSY.out.keep hf hPy (fun k hk => hk)) hPy ⟨hy1, fun i r z q1 q2 => st_stays _ _ _ _ _ _ _ (hy2 i r z q1 q2) hf (fun k hk => hk) (fun _ hk => hk)⟩ (by omega) hv2.1 hv2.2 (by omega))
        obtain ⟨Q, hQ⟩ : ∃ Q, stsC F.f y nm R.v R.W = Q := ⟨_, rfl⟩
        have hst := stC_else (F := F.f) (k := 3) (t := t) (a := a) (x := x) (y := y) (nm := nm) (v := v) (W := W) (r := R) (r2 := Q) hq hse (by rw [hn1, hv1]; exact hR) hRe (by rw [hn1]; exact hQ)
        rw [hQ] at HYY
        have hRe' : (R.e == 0) = true := by simpa using hRe
        by_cases hQe : Q.e = 0
        · rw [hst.2 hQe, hn1]
          clear hst hq hR hQ
          simp only
          go_enter Tryd.func39, Tryd.ntmps39
          go_wp2_with (first
            | (go_at_call 26; first
                | (refine (HYY.out w8 HB8.out HF8.out).mono ?_; rintro e w9 ⟨rfl, hf, hc⟩; have HB9 := hide (hc hQe); have HF9 := hide (HF8.out.trans hf); clear hf hc)
                | (refine (HXX.out w7 HB7.out HF7.out).mono ?_; rintro e w8 ⟨rfl, hf, hc⟩; have HB8 := hide (hc hRe); have HF8 := hide (HF7.out.trans hf); obtain ⟨o0, o1, o2, o3, o4, og, ol⟩ := HM5.out _ _ (HFW.out.trans hf) HSB.out; clear hf hc og))
            | (go_at_call 52; refine (HX.out _ (Fr.refl _ _)).mono ?_; rintro e w7 ⟨rfl, hf, hc⟩; have HB7 := hide (hc rfl); obtain ⟨n0, n1, n2, n3, n4, nf, nl⟩ := HM5.out _ _ hf hwb; have HF7 := hide ((HFA.out.mono (fun _ _ e => e.elim)).trans (hf.mono (fun _ _ e => .inr (.inl e))) : Fr (bw bb wb tb) w w7); have HFW := hide (hf.mono (fun _ _ e => .inr (.inl e)) : Fr (bw bb wb tb) wa w7); clear hf hc nf))
          go_ret
          exact ⟨by first | rfl | (rw [hQe]; rfl), HF9.out, fun _ => HB9.out⟩
        · have HST := hide (hst.1 hQe)
          clear hst hq hR hQ
          go_enter Tryd.func39, Tryd.ntmps39
          go_wp2_with (first
            | (go_at_call 26; first
                | (refine (HYY.out w8 HB8.out HF8.out).mono ?_; rintro e w9 ⟨rfl, hf, hc⟩; have HF9 := hide (HF8.out.trans hf); clear hf hc)
                | (refine (HXX.out w7 HB7.out HF7.out).mono ?_; rintro e w8 ⟨rfl, hf, hc⟩; have HB8 := hide (hc hRe); have HF8 := hide (HF7.out.trans hf); obtain ⟨o0, o1, o2, o3, o4, og, ol⟩ := HM5.out _ _ (HFW.out.trans hf) HSB.out; clear hf hc og))
            | (go_at_call 52; refine (HX.out _ (Fr.refl _ _)).mono ?_; rintro e w7 ⟨rfl, hf, hc⟩; have HB7 := hide (hc rfl); obtain ⟨n0, n1, n2, n3, n4, nf, nl⟩ := HM5.out _ _ hf hwb; have HF7 := hide ((HFA.out.mono (fun _ _ e => e.elim)).trans (hf.mono (fun _ _ e => .inr (.inl e))) : Fr (bw bb wb tb) w w7); have HFW := hide (hf.mono (fun _ _ e => .inr (.inl e)) : Fr (bw bb wb tb) wa w7); clear hf hc nf))
          go_ret
          exact ⟨by rw [HST.out]; rfl, HF9.out, fun h0 => absurd (HST.out ▸ h0) hQe⟩
      · have hRb := ne_bne hRe
        have hst := stC_then (F := F.f) (k := 3) (t := t) (a := a) (x := x) (y := y) (nm := nm) (v := v) (W := W) hq hse (by rw [hn1, hv1, hR]; exact hRe)
        rw [hn1, hv1, hR] at hst
        have HST := hide hst
        clear hst hq hR
        go_enter Tryd.func39, Tryd.ntmps39
        go_wp2_with (first
          | (go_at_call 26; refine (HXX.out w7 HB7.out HF7.out).mono ?_; rintro e w8 ⟨rfl, hf, hc⟩; have HF8 := hide (HF7.out.trans hf); clear hf hc)
          | (go_at_call 52; refine (HX.out _ (Fr.refl _ _)).mono ?_; rintro e w7 ⟨rfl, hf, hc⟩; have HB7 := hide (hc rfl); obtain ⟨n0, n1, n2, n3, n4, nf, nl⟩ := HM5.out _ _ hf hwb; have HF7 := hide ((HFA.out.mono (fun _ _ e => e.elim)).trans (hf.mono (fun _ _ e => .inr (.inl e))) : Fr (bw bb wb tb) w w7); have HFW := hide (hf.mono (fun _ _ e => .inr (.inl e)) : Fr (bw bb wb tb) wa w7); clear hf hc nf))
        go_ret
        exact ⟨by rw [HST.out]; rfl, HF8.out, fun h0 => absurd (HST.out.symm.trans h0) hRe⟩
    have p3 : (k == 3) = false := by simpa using k3
    have hx0 := h1 k3 k4
    have hy0 := h2 k3
    subst hx0
    subst hy0
    rw [stC_plain hq, hse, hn1, hv1]
    clear hq hse hn1 hv1 k1 k2 k3 k4
    simp only
    go_enter Tryd.func39, Tryd.ntmps39
    go_wp2_with (go_at_call 52; refine (HX.out _ (Fr.refl _ _)).mono ?_; rintro e w7 ⟨rfl, hf, hc⟩; have HB7 := hide (hc rfl); obtain ⟨n0, n1, n2, n3, n4, nf, nl⟩ := HM5.out _ _ hf hwb; have HF7 := hide ((HFA.out.mono (fun _ _ e => e.elim)).trans (hf.mono (fun _ _ e => .inr (.inl e))) : Fr (bw bb wb tb) w w7); have HFW := hide (hf.mono (fun _ _ e => .inr (.inl e)) : Fr (bw bb wb tb) wa w7); clear hf hc nf)
    go_ret
    exact ⟨rfl, HF7.out, fun _ => HB7.out⟩
end Go.Proofs.YtkmdamljhagogaaDoor
