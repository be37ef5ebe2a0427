/- What is numbered anew shows the same, and again is as it is: the walk. -/
import Derived.Test.YtcemfgknnpjlhaaDoorAnew
import Derived.Test.YtcemfgknnpjlhaaDoorRefShow
namespace Go.Proofs.YtcemfgknnpjlhaaDoor
open Go.RowKit Go.Ws

set_option maxHeartbeats 1000000 in
theorem canon_law (cl : List Cel) (vl : List Val) (hv lv : Value) (deep : Int) (w : World) (hh : Sl encC 6 w hv cl) (hl : Sl encV 3 w lv vl) (wc : ∀ c ∈ cl, WfC c) (wl : ∀ v ∈ vl, WfV v) (hmh : cl.length * 64 ≤ 140737488351232) (hml : vl.length * 32 ≤ 140737488351232) (hdl : -9223372036854775808 ≤ deep) (ht : Tab w) :
    Calls Tryd.prog 4 #[hv, lv, .int .i64 deep] w fun e w' => e = .returned (.bool true) ∧ Below w.heap.size w w' := by
  obtain ⟨la, lc, rfl, hll, q1⟩ := id hl
  obtain ⟨ha, hcp, rfl, hhl, q2⟩ := id hh
  clear q1 q2
  unfold maxLen at hll hhl
  have HX := hide (And.intro hh (And.intro hl (And.intro wc (And.intro wl ht))))
  clear hh hl wc wl ht
  go_enter Tryd.func4, Tryd.ntmps4
  go_wp2_with fail
  refine (alive_any _ HX.out.2.2.2.2).mono ?_
  rintro e w1 ⟨rfl, hb1⟩
  have B1 : Hid (Below w.heap.size w w1) := hb1
  clear hb1
  go_wp2_with fail
  refine (right_any cl vl _ _ w1 (HX.out.1.below B1.out (Nat.le_refl _)) (HX.out.2.1.below B1.out (Nat.le_refl _)) HX.out.2.2.1 HX.out.2.2.2.1).mono ?_
  rintro e w2 ⟨rfl, hb2⟩
  have B2 : Hid (Below w.heap.size w w2) := B1.out.trans (hb2.mono B1.out.size)
  clear hb2 B1
  have HOKr : Hid (rightB cl vl = true → (∀ v ∈ vl, okV cl.length v = true ∧ WfV v) ∧ ∀ c ∈ cl, okC cl.length c = true ∧ WfC c) := fun hr => by
    simp only [rightB, Bool.and_eq_true, List.all_eq_true] at hr
    exact ⟨fun v hv => ⟨hr.1 v hv, HX.out.2.2.2.1 v hv⟩, fun c hc => ⟨hr.2 c hc, HX.out.2.2.1 c hc⟩⟩
  cases hr : rightB cl vl
  · go_wp2
    go_ret
    exact ⟨rfl, B2.out⟩
  · by_cases hd5 : 5 < deep
    · go_wp2
      go_ret
      exact ⟨rfl, B2.out⟩
    · have HOK := hide (HOKr.out hr)
      clear HOKr
      have HR : Hid ((∀ c ∈ cl, RightV cl.length c.l ∧ RightV cl.length c.r) ∧ ∀ v ∈ vl, RightV cl.length v) := ⟨fun c hc => by
        have := (HOK.out.2 c hc).1
        simp only [okC, Bool.and_eq_true] at this
        exact ⟨right_vals this.1, right_vals this.2⟩, fun v hv => right_vals (HOK.out.1 v hv).1⟩
      go_wp2_with fail
      refine (canon_any cl vl _ _ w2 (HX.out.1.below B2.out (Nat.le_refl _)) (HX.out.2.1.below B2.out (Nat.le_refl _)) hmh hml).mono ?_
      rintro e w3 ⟨xv, kv, rfl, hx3, hk3, hb3⟩
      have B3 : Hid (Below w.heap.size w w3) := B2.out.trans (hb3.mono B2.out.size)
      obtain ⟨xa, xc, rfl, _, q1⟩ := id hx3
      obtain ⟨ka, kc, rfl, _, q2⟩ := id hk3
      clear q1 q2
      have H3 := hide (And.intro hx3 hk3)
      have hxl : (canonV cl vl).length = vl.length := canonV_length _ _
      have hkl : (canonC cl vl).length ≤ cl.length := canonC_le _ _
      clear hx3 hk3 hb3 B2
      have okc := hide (anew_okC (l := vl) HOK.out.2 (by omega))
      have okv := hide (anew_okV (l := vl) HOK.out.1 (by omega))
      have hrr := hide (anew_right HOK.out.2 HOK.out.1 (by omega))
      generalize hX : canonV cl vl = X at *
      generalize hK : canonC cl vl = K2 at *
      have HXK := hide (And.intro hX hK)
      clear hX hK
      rw [hxl]
      go_wp2_with fail
      refine (right_any K2 X _ _ w3 H3.out.2 (by rw [← hxl]; exact H3.out.1) (fun c hc => (okc.out c hc).2) (fun v hv => (okv.out v hv).2)).mono ?_
      rintro e w4 ⟨rfl, hb4⟩
      rw [hrr.out]
      have B4 : Hid (Below w.heap.size w w4) := B3.out.trans (hb4.mono B3.out.size)
      have H4 := hide (And.intro (H3.out.1.below hb4 (Nat.le_refl _)) (H3.out.2.below hb4 (Nat.le_refl _)))
      clear hb4 B3 H3 hrr
      go_wp2_with fail
      have hkd : decide (cl.length < K2.length) = false := decide_eq_false (by omega)
      rw [hkd]
      go_loopw [48] (fun v48 wr => ∃ k : Nat, k ≤ vl.length ∧ v48 = .int .i64 k ∧ Hid (Below w4.heap.size w4 wr)) (fun i _ => vl.length - (intOf i).toNat)
      case atStart => exact ⟨0, Nat.zero_le _, rfl, Below.refl _ _⟩
      case round =>
        obtain ⟨k, hk, rfl, hC⟩ := hrel
        have B5 : Hid (Below w.heap.size w wr) := B4.out.trans (hC.out.mono B4.out.size)
        by_cases hlt : k < vl.length
        · obtain ⟨b, off, cap, he, hb, x0, x1, x2⟩ := vals_of_sl HX.out.2.1 hlt
          obtain ⟨rfl, rfl⟩ : la = some ⟨b, off, none⟩ ∧ lc = cap := by simpa using he
          rw [← B5.out.cell (p := ⟨b, _, none⟩) hb] at x0 x1 x2
          obtain ⟨b', off', cap', he', hb', z0, z1, z2⟩ := vals_of_sl H4.out.1 (show k < X.length by omega)
          obtain ⟨rfl, rfl⟩ : xa = some ⟨b', off', none⟩ ∧ xc = cap' := by simpa using he'
          rw [← hC.out.cell (p := ⟨b', _, none⟩) hb'] at z0 z1 z2
          have hbr' : b' < wr.heap.size := Nat.lt_of_lt_of_le hb' hC.out.size
          clear he he'
          have ov := HOK.out.1 vl[k] (List.getElem_mem hlt)
          have oX := okv.out X[k] (List.getElem_mem (by omega))
          have hsame : showV K2 deep.toNat X[k] = showV cl deep.toNat vl[k] := by
            have hxk : X[k] = ren cl.length (ordL cl vl) vl[k] := by
              have : X = canonV cl vl := HXK.out.1.symm
              simp only [this, canonV, List.getElem_map]
            rw [hxk, ← HXK.out.2]
            exact anew_show HOK.out.2 deep.toNat _ ov.1 (fun hi => ordL_mem (List.getElem_mem hlt) hi)
          have CL : Hid (Calls Tryd.prog 18 #[.slice ha cl.length hcp, vv vl[k], .int .i64 deep] wr.drew fun e w' => e = .returned (.string ⟨(showV cl deep.toNat vl[k]).toArray⟩) ∧ Below wr.heap.size wr.drew w') :=
            ref_all cl _ HOK.out.2 deep.toNat vl[k] deep wr.drew rfl (by omega) (by omega) ov.1 ov.2 (HX.out.1.below B5.out.drew (Nat.le_refl _)) (tab_below HX.out.2.2.2.2 B5.out.drew)
          have CR : Hid (∀ w2, Below wr.heap.size wr.drew w2 → Calls Tryd.prog 18 #[.slice ka K2.length kc, vv X[k], .int .i64 deep] w2 fun e w' => e = .returned (.string ⟨(showV cl deep.toNat vl[k]).toArray⟩) ∧ Below wr.heap.size wr.drew w') := fun w2 hb2 => by
            have hB := B5.out.drew.trans (hb2.mono B5.out.size)
            have hB4 := hC.out.drew.trans (hb2.mono hC.out.size)
            have := ref_all K2 _ okc.out deep.toNat X[k] deep w2 rfl (by omega) (by omega) oX.1 oX.2 (H4.out.2.below hB4 (Nat.le_refl _)) (tab_below HX.out.2.2.2.2 hB)
            rw [hsame] at this
            exact this.mono fun e w' h => ⟨h.1, hb2.trans (h.2.mono hb2.size)⟩
          generalize vl[k] = va at x0 x1 x2 CL CR
          generalize X[k] = vb at z0 z1 z2 CR
          generalize showV cl deep.toNat va = sa at CL CR
          clear ov oX hsame
          go_wp2_with fail
          have hne : ((⟨sa.toArray⟩ : ByteArray).toList != (⟨sa.toArray⟩ : ByteArray).toList) = false := by simp
          go_region_law (first
            | (refine step_call rfl 18 Tryd.f18 #[.tmp 51, .tmp 55, .tmp 56] #[22, 25, 3] rfl Tryd.func18 (by kernel_rfl) (by kernel_rfl) #[.slice ha cl.length hcp, vv va, .int .i64 deep] (by simp [Act.eval]) _ (by exact CL.out) ?_; rintro e w5 ⟨rfl, hb5⟩; have H5 := hide hb5; have y0 := (hb5.cell (p := ⟨b', off' + k * 3, none⟩) hbr').trans z0; have y1 := (hb5.cell (p := ⟨b', off' + k * 3 + 1, none⟩) hbr').trans z1; have y2 := (hb5.cell (p := ⟨b', off' + k * 3 + 2, none⟩) hbr').trans z2; clear hb5; refine ⟨_, rfl, ?_⟩)
            | (refine step_call rfl 18 Tryd.f18 #[.tmp 58, .tmp 62, .tmp 63] #[22, 25, 3] rfl Tryd.func18 (by kernel_rfl) (by kernel_rfl) #[.slice ka K2.length kc, vv vb, .int .i64 deep] (by simp [Act.eval]) _ (by exact CR.out w5 H5.out) ?_; rintro e w6 ⟨rfl, hb6⟩; have H6 := hide hb6; clear hb6; refine ⟨_, rfl, ?_⟩))
          all_goals go_wp2
          all_goals
            go_roundw
            case rel => exact ⟨k + 1, by omega, by go_num, hC.out.trans (((Below.refl _ wr).drew.trans (H6.out.mono (Nat.le_refl _))).mono hC.out.size)⟩
            case measure => simp [intOf]; omega
        · obtain rfl : k = vl.length := by omega
          go_wp2_with fail
          refine (canon_any K2 X _ _ wr (H4.out.2.below hC.out (Nat.le_refl _)) (by rw [← hxl]; exact H4.out.1.below hC.out (Nat.le_refl _)) (by omega) (by omega)).mono ?_
          rintro e w7 ⟨yv, jv, rfl, hy7, hj7, hb7⟩
          rw [← HXK.out.1, ← HXK.out.2, canonV_again HR.out.1 HR.out.2, HXK.out.1] at hy7
          rw [← HXK.out.1, ← HXK.out.2, canonC_again HR.out.1 HR.out.2, HXK.out.2] at hj7
          have H7 := hide (And.intro hy7 (And.intro hj7 (And.intro ((H4.out.1.below hC.out (Nat.le_refl _)).below hb7 (Nat.le_refl _)) ((H4.out.2.below hC.out (Nat.le_refl _)).below hb7 (Nat.le_refl _)))))
          have B7 : Hid (Below w.heap.size w w7) := B5.out.trans (hb7.mono B5.out.size)
          clear hy7 hj7 hb7
          go_wp2_with fail
          refine (sameVals_yes X _ _ w7 (by rw [← hxl]; exact H7.out.2.2.1) H7.out.1).mono ?_
          rintro e w9 ⟨rfl, hb9⟩
          have H9 := hide hb9
          clear hb9
          go_wp2_with fail
          refine (sameCels_yes K2 _ _ w9 (H7.out.2.2.2.below H9.out (Nat.le_refl _)) (H7.out.2.1.below H9.out (Nat.le_refl _))).mono ?_
          rintro e w10 ⟨rfl, hb10⟩
          have H10 := hide hb10
          clear hb10
          go_wp2
          go_ret
          exact ⟨rfl, (B7.out.trans (H9.out.mono B7.out.size)).trans (H10.out.mono (Nat.le_trans B7.out.size H9.out.size))⟩
end Go.Proofs.YtcemfgknnpjlhaaDoor
