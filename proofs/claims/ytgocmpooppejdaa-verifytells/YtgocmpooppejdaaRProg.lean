/- The document's own answer: what is wrong with a program. -/
import Derived.Test.YtgocmpooppejdaaR43
import Derived.Test.YtgocmpooppejdaaVHeights
import Derived.Test.YtgocmpooppejdaaFWord
import Derived.Test.YtgocmpooppejdaaFProgram
set_option maxHeartbeats 0
set_option maxRecDepth 100000
namespace Go.Proofs.Ytgocmpooppejdaa
open Go Go.RowKit
theorem rprogram_any (p : Pz) (sc sw : Slc) (w : World) (hP : PzOk w sc sw p) (hW : WfZ p) :
    Calls Try.prog 4 #[.agg #[.slice sc.a sc.n sc.c, .slice sw.a sw.n sw.c]] w fun e w' => e = .returned (.int .i64 (programC p)) ∧ Fr nothing w w' := by
  obtain ⟨⟨rs, hrs, hea⟩, hws⟩ := hP
  obtain ⟨n1, m1⟩ := sl_len hrs
  obtain ⟨n2, m2⟩ := sl_len hws
  rw [hea.1] at n1 m1
  obtain ⟨sca, scn, scc⟩ := sc
  obtain ⟨swa, swn, swc⟩ := sw
  simp only at n1 n2
  subst n1 n2
  have hF1 : Fr nothing w (w.alloc (.cells #[.slice sca p.cs.length scc, .slice swa p.ws.length swc] 25)) := (Fr.refl _ _).alloc _
  have ca := made_cells (Fr.refl nothing (w.alloc (.cells #[.slice sca p.cs.length scc, .slice swa p.ws.length swc] 25))) id
  obtain ⟨w1, hw1⟩ : ∃ w1, w1 = w.alloc (.cells #[.slice sca p.cs.length scc, .slice swa p.ws.length swc] 25) := ⟨_, rfl⟩
  rw [← hw1] at hF1 ca
  have c0 := ca.1 0
  have c1 := ca.1 1
  have cl := ca.2.2
  have HA := hide (And.intro hrs (And.intro hea hws))
  have HF1 := hide hF1
  obtain ⟨A1, hA1⟩ : ∃ x, x = w.heap.size := ⟨_, rfl⟩
  have HCC : Hid (∀ w', Fr nothing w1 w' → w'.cell? ⟨A1, 0, none⟩ = some (.slice sca p.cs.length scc) ∧ w'.cell? ⟨A1, 1, none⟩ = some (.slice swa p.ws.length swc) ∧ A1 < w'.heap.size) := by
    rw [hA1]
    exact fun w' hf => ⟨(hf.cell (p := ⟨w.heap.size, 0, none⟩) cl id).trans c0, (hf.cell (p := ⟨w.heap.size, 1, none⟩) cl id).trans c1, Nat.lt_of_lt_of_le cl hf.size⟩
  have hw1' : w.alloc (.cells #[.slice sca p.cs.length scc, .slice swa p.ws.length swc] 25) = w1 := hw1.symm
  have HW := hide hW
  have HZ := hide (@hed_zero p)
  have HPC : Hid (programC p = if hedC p ≠ 0 then hedC p else firstE (codeC p) p.cs) := rfl
  have HD : Hid (hedC p = if p.cs.length = 0 ∨ 5 < p.cs.length then 5 else if 16 < p.ws.length then 4 else if firstE wdE p.ws ≠ 0 then firstE wdE p.ws else if npZ p 0 ≠ 0 then 10 else firstE hdE p.cs) := rfl
  obtain ⟨R, hRR⟩ : ∃ x, programC p = x := ⟨_, rfl⟩
  obtain ⟨hh, hhh⟩ : ∃ x, hedC p = x := ⟨_, rfl⟩
  rw [hRR] at HPC ⊢
  rw [hhh] at HPC HD HZ
  have hd := HD.out
  have HBAD : Hid (hh ≠ 0 → R = hh) := fun h => by have := HPC.out; rw [if_pos h] at this; exact this
  clear ca hrs hea hws hF1 hw1 hW hRR hhh HD
  by_cases h0 : p.cs.length = 0
  · rw [if_pos (.inl h0)] at hd
    have hR := HBAD.out (by omega)
    rw [hd] at hR
    subst hR
    rw [h0] at c0 hw1' ⊢
    go_enter Try.func4, Try.ntmps4
    go_wp2
    go_ret
    exact ⟨rfl, HF1.out⟩
  have hn0 : ((p.cs.length : Int) == 0) = false := beq_eq_false_iff_ne.2 (by omega)
  by_cases h5 : 5 < p.cs.length
  · rw [if_pos (.inr h5)] at hd
    have hR := HBAD.out (by omega)
    rw [hd] at hR
    subst hR
    go_enter Try.func4, Try.ntmps4
    go_wp2
    go_ret
    exact ⟨rfl, HF1.out⟩
  rw [if_neg (by omega)] at hd
  by_cases h16 : 16 < p.ws.length
  · rw [if_pos h16] at hd
    have hR := HBAD.out (by omega)
    rw [hd] at hR
    subst hR
    go_enter Try.func4, Try.ntmps4
    go_wp2
    go_ret
    exact ⟨rfl, HF1.out⟩
  rw [if_neg h16] at hd
  have HDD := hide hd
  clear hd
  go_enter Try.func4, Try.ntmps4
  go_wp2
  rw [← hA1]
  clear c0 c1 cl hw1' hA1
  go_loopw [32, 4] (fun i _ wv => ∃ (j : Nat), j ≤ p.ws.length ∧ i = .int .i64 j ∧ Hid (Fr nothing w1 wv ∧ firstE wdE (p.ws.drop j) = firstE wdE p.ws)) (fun i _ _ => p.ws.length - (intOf i).toNat)
  case atStart => exact ⟨0, Nat.zero_le _, rfl, Fr.refl _ _, rfl⟩
  case round =>
    obtain ⟨j, hj, rfl, hR⟩ := hrel
    by_cases hjl : j < p.ws.length
    · have hx : p.ws[j]? = some p.ws[j] := List.getElem?_eq_getElem hjl
      have hxm : p.ws[j] ∈ p.ws := List.getElem_mem hjl
      have hst := firstE_drop wdE p.ws hx
      generalize p.ws[j] = x at hx hxm hst
      have hxl := HW.out.w x hxm
      obtain ⟨ga, oa, e1, dga, ua⟩ := sl_elem1 (s := ⟨swa, p.ws.length, swc⟩) HA.out.2.2 hx
      simp only at e1
      subst e1
      have hF := HF1.out.trans hR.out.1
      have eg1 := Nat.lt_of_lt_of_le dga hF.size
      rw [← hF.cell (p := ⟨ga, _, none⟩) dga id] at ua
      rw [hR.out.2] at hst
      cases hxw : isWord x with
      | false =>
        have hwe : wdE x = 7 := by unfold wdE; rw [hxw]; rfl
        have HFF := hide hF
        have hRr : R = 7 := by
          have := HDD.out
          rw [hwe, if_pos (by decide)] at hst
          rw [hst, if_pos (by decide)] at this
          rw [HBAD.out (by omega)]
          exact this
        subst hRr
        clear hF hx hR hst
        go_wp2_with (go_at_call 10; refine (rword_any x wr hxl).mono ?_; rintro e w2 ⟨rfl, hw2⟩; rw [hw2, hxw]; clear hw2)
        go_ret
        exact ⟨rfl, HFF.out⟩
      | true =>
        have hwe : wdE x = 0 := by unfold wdE; rw [hxw]; rfl
        rw [hwe, if_neg (by simp)] at hst
        have HN : Hid (Fr nothing w1 wr ∧ firstE wdE (p.ws.drop (j + 1)) = firstE wdE p.ws) := ⟨hR.out.1, hst.symm⟩
        clear hF hx hR hst
        go_wp2_with (go_at_call 10; refine (rword_any x wr hxl).mono ?_; rintro e w2 ⟨rfl, hw2⟩; rw [hw2, hxw]; clear hw2)
        go_roundw
        case rel => exact ⟨j + 1, by omega, by go_num, HN.out⟩
        case measure => simp [intOf]; omega
    · have hw0 : firstE wdE p.ws = 0 := by rw [← hR.out.2]; exact firstE_end _ _ (by omega)
      have hd := HDD.out
      rw [hw0, if_neg (by simp)] at hd
      have hx0 : p.cs[0]? = some (p.cs[0]'(by omega)) := List.getElem?_eq_getElem _
      have hr0 : rs[0]? = some (rs[0]'(by rw [HA.out.2.1.1]; omega)) := List.getElem?_eq_getElem _
      generalize p.cs[0]'(by omega) = x at hx0
      generalize rs[0]'(by rw [HA.out.2.1.1]; omega) = xa at hr0
      have hnp : npZ p 0 = x.np := by simp [npZ, hx0]
      rw [hnp] at hd
      have hxo := HA.out.2.1.2 0 xa x hr0 hx0
      obtain ⟨ga, oa, e1, dga, ua, ua1, ua2⟩ := sl_elemC (s := ⟨sca, p.cs.length, scc⟩) HA.out.1 hr0
      simp only at e1
      subst e1
      have hF := HF1.out.trans hR.out.1
      have eg1 := Nat.lt_of_lt_of_le dga hF.size
      rw [← hF.cell (p := ⟨ga, _, none⟩) dga id] at ua
      rw [hxo.np] at ua
      obtain ⟨c0, c1, cl⟩ := HCC.out _ hR.out.1
      obtain ⟨w3, hw3⟩ : ∃ x, x = wr := ⟨_, rfl⟩
      subst hw3
      simp only [Nat.zero_mul, Nat.add_zero] at ua
      have HFF := hide hF
      have HRF := hide hR.out.1
      clear hxo hx0 hr0 ua1 ua2 hF hnp hw0 hR
      by_cases hz : x.np = 0
      case neg =>
        rw [if_pos hz] at hd
        have hzb : (x.np != 0) = true := by simpa using hz
        have hRr : R = 10 := by rw [HBAD.out (by omega)]; exact hd
        subst hRr
        go_wp2_with fail
        go_ret
        exact ⟨rfl, HFF.out⟩
      rw [if_neg (by simpa using hz)] at hd
      have HDE := hide hd
      rw [hz] at ua
      clear hd hz
      go_wp2_with fail
      clear c0 c1 cl ua eg1 dga
      go_loopw [49, 6] (fun i _ wv => ∃ (k : Nat), k ≤ p.cs.length ∧ i = .int .i64 k ∧ Hid (Fr nothing w1 wv ∧ firstE hdE (p.cs.drop k) = firstE hdE p.cs)) (fun i _ _ => p.cs.length - (intOf i).toNat)
      case atStart => exact ⟨0, Nat.zero_le _, rfl, HRF.out, rfl⟩
      case round =>
        obtain ⟨k, hk, rfl, hRk⟩ := hrel
        by_cases hkl : k < p.cs.length
        · have hx : p.cs[k]? = some p.cs[k] := List.getElem?_eq_getElem hkl
          have hst := firstE_drop hdE p.cs hx
          have hra : rs[k]? = some (rs[k]'(by rw [HA.out.2.1.1]; omega)) := List.getElem?_eq_getElem _
          generalize p.cs[k] = y at hx hst
          generalize rs[k]'(by rw [HA.out.2.1.1]; omega) = xa at hra
          obtain ⟨p1, p2, p3⟩ := HA.out.2.1.2 k xa y hra hx
          obtain ⟨gb, ob, e1, dgb, ub, ub1, ub2⟩ := sl_elemC (s := ⟨some ⟨ga, oa, none⟩, p.cs.length, scc⟩) HA.out.1 hra
          simp only [Option.some.injEq, Addr.mk.injEq, and_true] at e1
          obtain ⟨rfl, rfl⟩ := e1
          obtain ⟨q1, q2⟩ := sl_len p3
          obtain ⟨xa1, xa2, ⟨xaa, xan, xac⟩⟩ := xa
          simp only at p1 p2 q1 ub ub1 ub2
          subst p1 p2 q1
          have hF := HF1.out.trans hRk.out.1
          have eg1 := Nat.lt_of_lt_of_le dgb hF.size
          rw [← hF.cell (p := ⟨ga, _, none⟩) dgb id] at ub ub1 ub2
          have hRn : Fr nothing w1 (wr.alloc (.cells #[.int .i64 y.np, .int .i64 y.nv, .slice xaa y.ins.length xac] 37)) := hRk.out.1.alloc _
          have HFN := hide (HF1.out.trans hRn)
          rw [hRk.out.2] at hst
          have HST := hide hst
          have HBD : Hid (headBad y = true → R = 3) := fun h => by
            have hde : hdE y = 3 := by unfold hdE; rw [if_pos h]
            have h1 := HST.out
            rw [hde, if_pos (by decide)] at h1
            have h2 := HDE.out.trans h1
            rw [HBAD.out (by omega), h2]
          have HRN := hide hRn
          clear hx hra p3 hF hst hRn hRk
          by_cases b1 : y.np < 0
          · have hR3 := HBD.out (by unfold headBad; exact decide_eq_true (by omega))
            subst hR3
            go_wp2_with fail
            go_ret
            exact ⟨rfl, HFN.out⟩
          by_cases b2 : 4 < y.np
          · have hR3 := HBD.out (by unfold headBad; exact decide_eq_true (by omega))
            subst hR3
            go_wp2_with fail
            go_ret
            exact ⟨rfl, HFN.out⟩
          by_cases b3 : y.nv < y.np
          · have hR3 := HBD.out (by unfold headBad; exact decide_eq_true (by omega))
            subst hR3
            go_wp2_with fail
            go_ret
            exact ⟨rfl, HFN.out⟩
          by_cases b4 : 8 < y.nv
          · have hR3 := HBD.out (by unfold headBad; exact decide_eq_true (by omega))
            subst hR3
            go_wp2_with fail
            go_ret
            exact ⟨rfl, HFN.out⟩
          by_cases b5 : y.ins.length = 0
          · have hR3 := HBD.out (by unfold headBad; exact decide_eq_true (by omega))
            subst hR3
            have b5' : ((y.ins.length : Int) == 0) = true := by rw [b5]; rfl
            go_wp2_with fail
            go_ret
            exact ⟨rfl, by rw [b5] at HFN; exact HFN.out⟩
          have b5' : ((y.ins.length : Int) == 0) = false := beq_eq_false_iff_ne.2 (by omega)
          by_cases b6 : 200 < y.ins.length
          · have hR3 := HBD.out (by unfold headBad; exact decide_eq_true (by omega))
            subst hR3
            have b6' : (200 : Int) < (y.ins.length : Int) := by omega
            go_wp2_with fail
            go_ret
            exact ⟨rfl, HFN.out⟩
          have b6' : ¬ (200 : Int) < (y.ins.length : Int) := by omega
          have HN : Hid (firstE hdE (p.cs.drop (k + 1)) = firstE hdE p.cs) := by
            have hde : hdE y = 0 := by unfold hdE headBad; rw [if_neg (by simp only [decide_eq_true_eq]; omega)]
            have h1 := HST.out
            rw [hde, if_neg (by simp)] at h1
            exact h1.symm
          go_wp2_with fail
          go_roundw
          case rel => exact ⟨k + 1, by omega, by go_num, HRN.out, HN.out⟩
          case measure => simp [intOf]; omega
        · have hhz : hh = 0 := by rw [HDE.out, ← hRk.out.2]; exact firstE_end _ _ (by omega)
          obtain ⟨c0, c1, cl⟩ := HCC.out _ hRk.out.1
          have HRK := hide hRk.out.1
          obtain ⟨w4, hw4⟩ : ∃ x, x = wr := ⟨_, rfl⟩
          subst hw4
          have HG4 := hide (HZ.out hhz).2.2.2.2.2
          have HDF : Hid (R = firstE (codeC p) p.cs) := by have := HPC.out; rw [if_neg (by simpa using hhz)] at this; exact this
          clear hRk hhz
          go_wp2_with fail
          clear c0 c1 cl
          go_loopw [89, 8, 10, 11, 12, 13, 14] (fun i _ _ _ _ _ _ wv => ∃ (k : Nat), k ≤ p.cs.length ∧ i = .int .i64 k ∧ Hid (Fr nothing w1 wv ∧ firstE (codeC p) (p.cs.drop k) = firstE (codeC p) p.cs)) (fun i _ _ _ _ _ _ _ => p.cs.length - (intOf i).toNat)
          case atStart => exact ⟨0, Nat.zero_le _, rfl, HRK.out, rfl⟩
          case round =>
            obtain ⟨k, hk, rfl, hRk⟩ := hrel
            obtain ⟨hfk, hek⟩ := hRk.out
            by_cases hkl : k < p.cs.length
            · have hx : p.cs[k]? = some p.cs[k] := List.getElem?_eq_getElem hkl
              have hxm : p.cs[k] ∈ p.cs := List.getElem_mem hkl
              have hst := firstE_drop (codeC p) p.cs hx
              have hra : rs[k]? = some (rs[k]'(by rw [HA.out.2.1.1]; omega)) := List.getElem?_eq_getElem _
              generalize p.cs[k] = x at hx hxm hst
              generalize rs[k]'(by rw [HA.out.2.1.1]; omega) = xa at hra
              have hco := HG4.out x hxm
              have hwf := HW.out.c x hxm
              obtain ⟨p1, p2, p3⟩ := HA.out.2.1.2 k xa x hra hx
              obtain ⟨gb, ob, e1, dgb, ub, ub1, ub2⟩ := sl_elemC (s := ⟨some ⟨ga, oa, none⟩, p.cs.length, scc⟩) HA.out.1 hra
              simp only [Option.some.injEq, Addr.mk.injEq, and_true] at e1
              obtain ⟨rfl, rfl⟩ := e1
              obtain ⟨q1, q2⟩ := sl_len p3
              obtain ⟨xa1, xa2, ⟨xaa, xan, xac⟩⟩ := xa
              simp only at p1 p2 q1 ub ub1 ub2
              subst p1 p2 q1
              have hF := HF1.out.trans hfk
              have eg1 := Nat.lt_of_lt_of_le dgb hF.size
              rw [← hF.cell (p := ⟨ga, _, none⟩) dgb id] at ub ub1 ub2
              rw [hek] at hst
              have hFA : Fr nothing wr (wr.alloc (.cells #[.int .i64 x.np, .int .i64 x.nv, .slice xaa x.ins.length xac] 37)) := (Fr.refl _ _).alloc _
              have hm4 := made_cells (Fr.refl nothing (wr.alloc (.cells #[.int .i64 x.np, .int .i64 x.nv, .slice xaa x.ins.length xac] 37))) id
              have HM4 := hide hm4
              have HF4 : Hid (Fr nothing w1 (wr.alloc (.cells #[.int .i64 x.np, .int .i64 x.nv, .slice xaa x.ins.length xac] 37))) := hfk.trans hFA
              have HST : Hid (firstE (codeC p) p.cs = if codeC p x ≠ 0 then codeC p x else firstE (codeC p) (p.cs.drop (k + 1))) := hst
              have HP3 := hide p3
              have HCO := hide hco
              have HWF := hide hwf
              have hln : x.ins.length ≤ 200 := hco.2.2.2.2.2
              have hnv : 0 ≤ x.nv ∧ x.nv ≤ 8 := by omega
              clear hx hxm hra p3 hF hst hm4 hFA hRk hfk hek hco hwf
              go_wp2_with fail
              generalize wr.alloc (.cells #[.int .i64 x.np, .int .i64 x.nv, .slice xaa x.ins.length xac] 37) = w4 at *
              obtain ⟨cb, hcb⟩ : ∃ x, x = wr.heap.size := ⟨_, rfl⟩
              rw [← hcb] at HM4
              rw [← hcb]
              clear hcb ub ub1 ub2 eg1
              go_loopw [96, 10, 11, 12] (fun i _ _ _ wv => ∃ (j : Nat), j ≤ x.ins.length ∧ i = .int .i64 j ∧ Hid (Fr nothing w4 wv ∧ firstE (inC p x) (x.ins.drop j) = firstE (inC p x) x.ins)) (fun i _ _ _ _ => x.ins.length - (intOf i).toNat)
              case atStart => exact ⟨0, Nat.zero_le _, rfl, Fr.refl _ _, rfl⟩
              case round =>
                obtain ⟨j, hj, rfl, hR2⟩ := hrel
                obtain ⟨hf4, he4⟩ := hR2.out
                have cA := HCC.out _ (HF4.out.trans hf4)
                obtain ⟨cA0, cA1, cAl⟩ := cA
                have cD0 := (hf4.cell (p := ⟨cb, 0, none⟩) HM4.out.2.2 id).trans (HM4.out.1 0)
                have cD1 := (hf4.cell (p := ⟨cb, 1, none⟩) HM4.out.2.2 id).trans (HM4.out.1 1)
                have cD2 := (hf4.cell (p := ⟨cb, 2, none⟩) HM4.out.2.2 id).trans (HM4.out.1 2)
                have cDl := Nat.lt_of_lt_of_le HM4.out.2.2 hf4.size
                have hFw := HF1.out.trans (HF4.out.trans hf4)
                by_cases hjl : j < x.ins.length
                · have hy : x.ins[j]? = some x.ins[j] := List.getElem?_eq_getElem hjl
                  have hym : x.ins[j] ∈ x.ins := List.getElem_mem hjl
                  have hst2 := firstE_drop (inC p x) x.ins hy
                  generalize x.ins[j] = y at hy hym hst2
                  have hwy := HWF.out.2.2 y hym
                  obtain ⟨ia, ja, e1, dia, v0, v1, v2⟩ := sl_elemI (s := ⟨xaa, x.ins.length, xac⟩) HP3.out hy
                  simp only at e1
                  subst e1
                  have egi := Nat.lt_of_lt_of_le dia hFw.size
                  rw [← hFw.cell (p := ⟨ia, _, none⟩) dia id] at v0 v1 v2
                  rw [he4] at hst2
                  obtain ⟨op, a, b⟩ := y
                  simp only at v0 v1 v2
                  have hm := made_cells (Fr.refl nothing (wr.alloc (.cells #[.int .i64 op, .int .i64 a, .int .i64 b] 44))) id
                  have hFA : Fr nothing wr (wr.alloc (.cells #[.int .i64 op, .int .i64 a, .int .i64 b] 44)) := (Fr.refl _ _).alloc _
                  have HFI := hide (hFw.trans hFA)
                  have HFA := hide hFA
                  have HF5 : Hid (Fr nothing w4 (wr.alloc (.cells #[.int .i64 op, .int .i64 a, .int .i64 b] 44))) := hf4.trans hFA
                  have i0 := hm.1 0
                  have i1 := hm.1 1
                  have i2 := hm.1 2
                  have il := hm.2.2
                  have HS2 := hide hst2
                  have HRB : Hid (∀ er, inC p x ⟨op, a, b⟩ = er → er ≠ 0 → R = er) := fun er h1 h2 => by
                    have h3 := HS2.out
                    rw [h1, if_pos h2] at h3
                    have h4 : codeC p x = er := by unfold codeC; rw [h3, if_pos h2]
                    rw [HDF.out, HST.out, h4, if_pos h2]
                  have HNX : Hid (inC p x ⟨op, a, b⟩ = 0 → firstE (inC p x) (x.ins.drop (j + 1)) = firstE (inC p x) x.ins) := fun h1 => by
                    have h3 := HS2.out
                    rw [h1, if_neg (by simp)] at h3
                    exact h3.symm
                  have hIC : inC p x ⟨op, a, b⟩ = if op < 1 ∨ 19 < op then 1 else if a < loC op ∨ hiC p x op < a then 3 else if b ≠ bC p ⟨op, a, b⟩ then 3 else 0 := rfl
                  clear hy hym hR2 hf4 he4 hFw hFA hst2 hm HS2
                  by_cases o1 : op < 1
                  · have hR1 := HRB.out 1 (by rw [hIC, if_pos (.inl o1)]) (by decide)
                    subst hR1
                    go_wp2_with fail
                    go_ret
                    exact ⟨rfl, HFI.out⟩
                  by_cases o19 : 19 < op
                  · have hR1 := HRB.out 1 (by rw [hIC, if_pos (.inr o19)]) (by decide)
                    subst hR1
                    go_wp2_with fail
                    go_ret
                    exact ⟨rfl, HFI.out⟩
                  rw [if_neg (by omega)] at hIC
                  by_cases k1 : op = 1
                  · as_aux_lemma =>
                        subst k1
                        have e1 : loC 1 = -1073741824 := rfl
                        have e2 : hiC p x 1 = 1073741824 := rfl
                        have e3 : bC p ⟨1, a, b⟩ = 0 := rfl
                        rw [e1, e2, e3] at hIC
                        clear e1 e2 e3
                        by_cases ha : a < -1073741824
                        · have hR3 := HRB.out 3 (by rw [hIC]; exact if_pos (.inl ha)) (by decide)
                          subst hR3
                          go_wp2_with fail
                          refine reg43_low 1 a b (-1073741824) (1073741824) _ A1 _ i0 i1 i2 (by omega) (fun _ _ _ _ _ h => h) ?_
                          intros
                          go_wp2_with fail
                          go_ret
                          exact ⟨rfl, HFI.out.drew⟩
                        by_cases hb : 1073741824 < a
                        · have hR3 := HRB.out 3 (by rw [hIC]; exact if_pos (.inr hb)) (by decide)
                          subst hR3
                          go_wp2_with fail
                          refine reg43_high 1 a b (-1073741824) (1073741824) _ A1 _ i0 i1 i2 (by omega) (by omega) (fun _ _ _ _ _ h => h) ?_
                          intros
                          go_wp2_with fail
                          go_ret
                          exact ⟨rfl, HFI.out.drew⟩
                        by_cases hc : b ≠ 0
                        · have hR3 := HRB.out 3 (by rw [hIC]; rw [if_neg (by omega)]; exact if_pos hc) (by decide)
                          subst hR3
                          go_wp2_with fail
                          refine reg43_other 1 a b (-1073741824) (1073741824) _ A1 _ i0 i1 i2 (by omega) (by omega) (by decide) true (by simpa using hc) (fun _ _ _ _ _ h => h) ?_
                          intros
                          go_wp2_with fail
                          go_ret
                          exact ⟨rfl, HFI.out.drew⟩
                        have hc0 : b = 0 := Classical.not_not.1 hc
                        have HX1 := hide (HNX.out (by rw [hIC, if_neg (by omega), if_neg hc]))
                        subst hc0
                        go_wp2_with fail
                        refine reg43_other 1 a 0 (-1073741824) (1073741824) _ A1 _ i0 i1 i2 (by omega) (by omega) (by decide) false rfl (fun _ _ _ _ _ h => h) ?_
                        intros
                        go_wp2_with fail
                        go_roundw
                        case rel => exact ⟨j + 1, by omega, by go_num, HF5.out.drew, HX1.out⟩
                        case measure => simp [intOf]; omega
                  have k1b : (op == 1) = false := by simpa using k1
                  by_cases k2 : op = 2
                  · as_aux_lemma =>
                        subst k2
                        have e1 : loC 2 = 0 := rfl
                        have e2 : hiC p x 2 = (p.ws.length : Int) - 1 := rfl
                        have e3 : bC p ⟨2, a, b⟩ = 0 := rfl
                        rw [e1, e2, e3] at hIC
                        clear e1 e2 e3
                        have hN1 : IntKind.i64.wrap ((p.ws.length : Int) - 1) = (p.ws.length : Int) - 1 := wrap_in _ (by omega) (by omega)
                        by_cases ha : a < 0
                        · have hR3 := HRB.out 3 (by rw [hIC]; exact if_pos (.inl ha)) (by decide)
                          subst hR3
                          go_wp2_with fail
                          refine reg43_low 2 a b (0) ((p.ws.length : Int) - 1) _ A1 _ i0 i1 i2 (by omega) (fun _ _ _ _ _ h => h) ?_
                          intros
                          go_wp2_with fail
                          go_ret
                          exact ⟨rfl, HFI.out.drew⟩
                        by_cases hb : (p.ws.length : Int) - 1 < a
                        · have hR3 := HRB.out 3 (by rw [hIC]; exact if_pos (.inr hb)) (by decide)
                          subst hR3
                          go_wp2_with fail
                          refine reg43_high 2 a b (0) ((p.ws.length : Int) - 1) _ A1 _ i0 i1 i2 (by omega) (by omega) (fun _ _ _ _ _ h => h) ?_
                          intros
                          go_wp2_with fail
                          go_ret
                          exact ⟨rfl, HFI.out.drew⟩
                        by_cases hc : b ≠ 0
                        · have hR3 := HRB.out 3 (by rw [hIC]; rw [if_neg (by omega)]; exact if_pos hc) (by decide)
                          subst hR3
                          go_wp2_with fail
                          refine reg43_other 2 a b (0) ((p.ws.length : Int) - 1) _ A1 _ i0 i1 i2 (by omega) (by omega) (by decide) true (by simpa using hc) (fun _ _ _ _ _ h => h) ?_
                          intros
                          go_wp2_with fail
                          go_ret
                          exact ⟨rfl, HFI.out.drew⟩
                        have hc0 : b = 0 := Classical.not_not.1 hc
                        have HX1 := hide (HNX.out (by rw [hIC, if_neg (by omega), if_neg hc]))
                        subst hc0
                        go_wp2_with fail
                        refine reg43_other 2 a 0 (0) ((p.ws.length : Int) - 1) _ A1 _ i0 i1 i2 (by omega) (by omega) (by decide) false rfl (fun _ _ _ _ _ h => h) ?_
                        intros
                        go_wp2_with fail
                        go_roundw
                        case rel => exact ⟨j + 1, by omega, by go_num, HF5.out.drew, HX1.out⟩
                        case measure => simp [intOf]; omega
                  have k2b : (op == 2) = false := by simpa using k2
                  by_cases k3 : op = 3
                  · as_aux_lemma =>
                        subst k3
                        have e1 : loC 3 = 0 := rfl
                        have e2 : hiC p x 3 = x.nv - 1 := rfl
                        have e3 : bC p ⟨3, a, b⟩ = 0 := rfl
                        rw [e1, e2, e3] at hIC
                        clear e1 e2 e3
                        have hN1 : IntKind.i64.wrap (x.nv - 1) = x.nv - 1 := wrap_in _ (by omega) (by omega)
                        by_cases ha : a < 0
                        · have hR3 := HRB.out 3 (by rw [hIC]; exact if_pos (.inl ha)) (by decide)
                          subst hR3
                          go_wp2_with fail
                          refine reg43_low 3 a b (0) (x.nv - 1) _ A1 _ i0 i1 i2 (by omega) (fun _ _ _ _ _ h => h) ?_
                          intros
                          go_wp2_with fail
                          go_ret
                          exact ⟨rfl, HFI.out.drew⟩
                        by_cases hb : x.nv - 1 < a
                        · have hR3 := HRB.out 3 (by rw [hIC]; exact if_pos (.inr hb)) (by decide)
                          subst hR3
                          go_wp2_with fail
                          refine reg43_high 3 a b (0) (x.nv - 1) _ A1 _ i0 i1 i2 (by omega) (by omega) (fun _ _ _ _ _ h => h) ?_
                          intros
                          go_wp2_with fail
                          go_ret
                          exact ⟨rfl, HFI.out.drew⟩
                        by_cases hc : b ≠ 0
                        · have hR3 := HRB.out 3 (by rw [hIC]; rw [if_neg (by omega)]; exact if_pos hc) (by decide)
                          subst hR3
                          go_wp2_with fail
                          refine reg43_other 3 a b (0) (x.nv - 1) _ A1 _ i0 i1 i2 (by omega) (by omega) (by decide) true (by simpa using hc) (fun _ _ _ _ _ h => h) ?_
                          intros
                          go_wp2_with fail
                          go_ret
                          exact ⟨rfl, HFI.out.drew⟩
                        have hc0 : b = 0 := Classical.not_not.1 hc
                        have HX1 := hide (HNX.out (by rw [hIC, if_neg (by omega), if_neg hc]))
                        subst hc0
                        go_wp2_with fail
                        refine reg43_other 3 a 0 (0) (x.nv - 1) _ A1 _ i0 i1 i2 (by omega) (by omega) (by decide) false rfl (fun _ _ _ _ _ h => h) ?_
                        intros
                        go_wp2_with fail
                        go_roundw
                        case rel => exact ⟨j + 1, by omega, by go_num, HF5.out.drew, HX1.out⟩
                        case measure => simp [intOf]; omega
                  have k3b : (op == 3) = false := by simpa using k3
                  by_cases k4 : op = 4
                  · as_aux_lemma =>
                        subst k4
                        have e1 : loC 4 = 0 := rfl
                        have e2 : hiC p x 4 = x.nv - 1 := rfl
                        have e3 : bC p ⟨4, a, b⟩ = 0 := rfl
                        rw [e1, e2, e3] at hIC
                        clear e1 e2 e3
                        have hN1 : IntKind.i64.wrap (x.nv - 1) = x.nv - 1 := wrap_in _ (by omega) (by omega)
                        by_cases ha : a < 0
                        · have hR3 := HRB.out 3 (by rw [hIC]; exact if_pos (.inl ha)) (by decide)
                          subst hR3
                          go_wp2_with fail
                          refine reg43_low 4 a b (0) (x.nv - 1) _ A1 _ i0 i1 i2 (by omega) (fun _ _ _ _ _ h => h) ?_
                          intros
                          go_wp2_with fail
                          go_ret
                          exact ⟨rfl, HFI.out.drew⟩
                        by_cases hb : x.nv - 1 < a
                        · have hR3 := HRB.out 3 (by rw [hIC]; exact if_pos (.inr hb)) (by decide)
                          subst hR3
                          go_wp2_with fail
                          refine reg43_high 4 a b (0) (x.nv - 1) _ A1 _ i0 i1 i2 (by omega) (by omega) (fun _ _ _ _ _ h => h) ?_
                          intros
                          go_wp2_with fail
                          go_ret
                          exact ⟨rfl, HFI.out.drew⟩
                        by_cases hc : b ≠ 0
                        · have hR3 := HRB.out 3 (by rw [hIC]; rw [if_neg (by omega)]; exact if_pos hc) (by decide)
                          subst hR3
                          go_wp2_with fail
                          refine reg43_other 4 a b (0) (x.nv - 1) _ A1 _ i0 i1 i2 (by omega) (by omega) (by decide) true (by simpa using hc) (fun _ _ _ _ _ h => h) ?_
                          intros
                          go_wp2_with fail
                          go_ret
                          exact ⟨rfl, HFI.out.drew⟩
                        have hc0 : b = 0 := Classical.not_not.1 hc
                        have HX1 := hide (HNX.out (by rw [hIC, if_neg (by omega), if_neg hc]))
                        subst hc0
                        go_wp2_with fail
                        refine reg43_other 4 a 0 (0) (x.nv - 1) _ A1 _ i0 i1 i2 (by omega) (by omega) (by decide) false rfl (fun _ _ _ _ _ h => h) ?_
                        intros
                        go_wp2_with fail
                        go_roundw
                        case rel => exact ⟨j + 1, by omega, by go_num, HF5.out.drew, HX1.out⟩
                        case measure => simp [intOf]; omega
                  have k4b : (op == 4) = false := by simpa using k4
                  by_cases k5 : op = 5
                  · as_aux_lemma =>
                        subst k5
                        have e1 : loC 5 = 1 := rfl
                        have e2 : hiC p x 5 = 5 := rfl
                        have e3 : bC p ⟨5, a, b⟩ = 0 := rfl
                        rw [e1, e2, e3] at hIC
                        clear e1 e2 e3
                        by_cases ha : a < 1
                        · have hR3 := HRB.out 3 (by rw [hIC]; exact if_pos (.inl ha)) (by decide)
                          subst hR3
                          go_wp2_with fail
                          refine reg43_low 5 a b (1) (5) _ A1 _ i0 i1 i2 (by omega) (fun _ _ _ _ _ h => h) ?_
                          intros
                          go_wp2_with fail
                          go_ret
                          exact ⟨rfl, HFI.out.drew⟩
                        by_cases hb : 5 < a
                        · have hR3 := HRB.out 3 (by rw [hIC]; exact if_pos (.inr hb)) (by decide)
                          subst hR3
                          go_wp2_with fail
                          refine reg43_high 5 a b (1) (5) _ A1 _ i0 i1 i2 (by omega) (by omega) (fun _ _ _ _ _ h => h) ?_
                          intros
                          go_wp2_with fail
                          go_ret
                          exact ⟨rfl, HFI.out.drew⟩
                        by_cases hc : b ≠ 0
                        · have hR3 := HRB.out 3 (by rw [hIC]; rw [if_neg (by omega)]; exact if_pos hc) (by decide)
                          subst hR3
                          go_wp2_with fail
                          refine reg43_other 5 a b (1) (5) _ A1 _ i0 i1 i2 (by omega) (by omega) (by decide) true (by simpa using hc) (fun _ _ _ _ _ h => h) ?_
                          intros
                          go_wp2_with fail
                          go_ret
                          exact ⟨rfl, HFI.out.drew⟩
                        have hc0 : b = 0 := Classical.not_not.1 hc
                        have HX1 := hide (HNX.out (by rw [hIC, if_neg (by omega), if_neg hc]))
                        subst hc0
                        go_wp2_with fail
                        refine reg43_other 5 a 0 (1) (5) _ A1 _ i0 i1 i2 (by omega) (by omega) (by decide) false rfl (fun _ _ _ _ _ h => h) ?_
                        intros
                        go_wp2_with fail
                        go_roundw
                        case rel => exact ⟨j + 1, by omega, by go_num, HF5.out.drew, HX1.out⟩
                        case measure => simp [intOf]; omega
                  have k5b : (op == 5) = false := by simpa using k5
                  by_cases k15 : op = 15
                  · as_aux_lemma =>
                        subst k15
                        have e1 : loC 15 = 0 := rfl
                        have e2 : hiC p x 15 = (x.ins.length : Int) - 1 := rfl
                        have e3 : bC p ⟨15, a, b⟩ = 0 := rfl
                        rw [e1, e2, e3] at hIC
                        clear e1 e2 e3
                        have hN1 : IntKind.i64.wrap ((x.ins.length : Int) - 1) = (x.ins.length : Int) - 1 := wrap_in _ (by omega) (by omega)
                        by_cases ha : a < 0
                        · have hR3 := HRB.out 3 (by rw [hIC]; exact if_pos (.inl ha)) (by decide)
                          subst hR3
                          go_wp2_with fail
                          refine reg43_low 15 a b (0) ((x.ins.length : Int) - 1) _ A1 _ i0 i1 i2 (by omega) (fun _ _ _ _ _ h => h) ?_
                          intros
                          go_wp2_with fail
                          go_ret
                          exact ⟨rfl, HFI.out.drew⟩
                        by_cases hb : (x.ins.length : Int) - 1 < a
                        · have hR3 := HRB.out 3 (by rw [hIC]; exact if_pos (.inr hb)) (by decide)
                          subst hR3
                          go_wp2_with fail
                          refine reg43_high 15 a b (0) ((x.ins.length : Int) - 1) _ A1 _ i0 i1 i2 (by omega) (by omega) (fun _ _ _ _ _ h => h) ?_
                          intros
                          go_wp2_with fail
                          go_ret
                          exact ⟨rfl, HFI.out.drew⟩
                        by_cases hc : b ≠ 0
                        · have hR3 := HRB.out 3 (by rw [hIC]; rw [if_neg (by omega)]; exact if_pos hc) (by decide)
                          subst hR3
                          go_wp2_with fail
                          refine reg43_other 15 a b (0) ((x.ins.length : Int) - 1) _ A1 _ i0 i1 i2 (by omega) (by omega) (by decide) true (by simpa using hc) (fun _ _ _ _ _ h => h) ?_
                          intros
                          go_wp2_with fail
                          go_ret
                          exact ⟨rfl, HFI.out.drew⟩
                        have hc0 : b = 0 := Classical.not_not.1 hc
                        have HX1 := hide (HNX.out (by rw [hIC, if_neg (by omega), if_neg hc]))
                        subst hc0
                        go_wp2_with fail
                        refine reg43_other 15 a 0 (0) ((x.ins.length : Int) - 1) _ A1 _ i0 i1 i2 (by omega) (by omega) (by decide) false rfl (fun _ _ _ _ _ h => h) ?_
                        intros
                        go_wp2_with fail
                        go_roundw
                        case rel => exact ⟨j + 1, by omega, by go_num, HF5.out.drew, HX1.out⟩
                        case measure => simp [intOf]; omega
                  have k15b : (op == 15) = false := by simpa using k15
                  by_cases k16 : op = 16
                  · as_aux_lemma =>
                        subst k16
                        have e1 : loC 16 = 0 := rfl
                        have e2 : hiC p x 16 = (x.ins.length : Int) - 1 := rfl
                        have e3 : bC p ⟨16, a, b⟩ = 0 := rfl
                        rw [e1, e2, e3] at hIC
                        clear e1 e2 e3
                        have hN1 : IntKind.i64.wrap ((x.ins.length : Int) - 1) = (x.ins.length : Int) - 1 := wrap_in _ (by omega) (by omega)
                        by_cases ha : a < 0
                        · have hR3 := HRB.out 3 (by rw [hIC]; exact if_pos (.inl ha)) (by decide)
                          subst hR3
                          go_wp2_with fail
                          refine reg43_low 16 a b (0) ((x.ins.length : Int) - 1) _ A1 _ i0 i1 i2 (by omega) (fun _ _ _ _ _ h => h) ?_
                          intros
                          go_wp2_with fail
                          go_ret
                          exact ⟨rfl, HFI.out.drew⟩
                        by_cases hb : (x.ins.length : Int) - 1 < a
                        · have hR3 := HRB.out 3 (by rw [hIC]; exact if_pos (.inr hb)) (by decide)
                          subst hR3
                          go_wp2_with fail
                          refine reg43_high 16 a b (0) ((x.ins.length : Int) - 1) _ A1 _ i0 i1 i2 (by omega) (by omega) (fun _ _ _ _ _ h => h) ?_
                          intros
                          go_wp2_with fail
                          go_ret
                          exact ⟨rfl, HFI.out.drew⟩
                        by_cases hc : b ≠ 0
                        · have hR3 := HRB.out 3 (by rw [hIC]; rw [if_neg (by omega)]; exact if_pos hc) (by decide)
                          subst hR3
                          go_wp2_with fail
                          refine reg43_other 16 a b (0) ((x.ins.length : Int) - 1) _ A1 _ i0 i1 i2 (by omega) (by omega) (by decide) true (by simpa using hc) (fun _ _ _ _ _ h => h) ?_
                          intros
                          go_wp2_with fail
                          go_ret
                          exact ⟨rfl, HFI.out.drew⟩
                        have hc0 : b = 0 := Classical.not_not.1 hc
                        have HX1 := hide (HNX.out (by rw [hIC, if_neg (by omega), if_neg hc]))
                        subst hc0
                        go_wp2_with fail
                        refine reg43_other 16 a 0 (0) ((x.ins.length : Int) - 1) _ A1 _ i0 i1 i2 (by omega) (by omega) (by decide) false rfl (fun _ _ _ _ _ h => h) ?_
                        intros
                        go_wp2_with fail
                        go_roundw
                        case rel => exact ⟨j + 1, by omega, by go_num, HF5.out.drew, HX1.out⟩
                        case measure => simp [intOf]; omega
                  have k16b : (op == 16) = false := by simpa using k16
                  by_cases k17 : op = 17
                  · as_aux_lemma =>
                        subst k17
                        have e1 : loC 17 = 0 := rfl
                        have e2 : hiC p x 17 = (p.cs.length : Int) - 1 := rfl
                        rw [e1, e2] at hIC
                        have hN1 : IntKind.i64.wrap ((p.cs.length : Int) - 1) = (p.cs.length : Int) - 1 := wrap_in _ (by omega) (by omega)
                        by_cases ha : a < 0
                        · have hR3 := HRB.out 3 (by rw [hIC]; exact if_pos (.inl ha)) (by decide)
                          subst hR3
                          go_wp2_with fail
                          refine reg43_low 17 a b 0 ((p.cs.length : Int) - 1) _ A1 _ i0 i1 i2 (by omega) (fun _ _ _ _ _ h => h) ?_
                          intros
                          go_wp2_with fail
                          go_ret
                          exact ⟨rfl, HFI.out.drew⟩
                        by_cases hb : (p.cs.length : Int) - 1 < a
                        · have hR3 := HRB.out 3 (by rw [hIC]; exact if_pos (.inr hb)) (by decide)
                          subst hR3
                          go_wp2_with fail
                          refine reg43_high 17 a b 0 ((p.cs.length : Int) - 1) _ A1 _ i0 i1 i2 (by omega) (by omega) (fun _ _ _ _ _ h => h) ?_
                          intros
                          go_wp2_with fail
                          go_ret
                          exact ⟨rfl, HFI.out.drew⟩
                        obtain ⟨m, rfl⟩ : ∃ m : Nat, a = m := ⟨a.toNat, by omega⟩
                        have hmk : m < p.cs.length := by omega
                        have hxc : p.cs[m]? = some p.cs[m] := List.getElem?_eq_getElem hmk
                        have hrc : rs[m]? = some (rs[m]'(by rw [HA.out.2.1.1]; exact hmk)) := List.getElem?_eq_getElem _
                        have hbc : bC p ⟨17, m, b⟩ = p.cs[m].np := by simp [bC, npZ, hxc]
                        rw [hbc] at hIC
                        generalize p.cs[m] = c at hxc hIC hbc
                        generalize rs[m]'(by rw [HA.out.2.1.1]; exact hmk) = rc at hrc
                        have hoc := HA.out.2.1.2 m rc c hrc hxc
                        obtain ⟨gc, oc, e4, dgc, uc, -, -⟩ := sl_elemC (s := ⟨some ⟨ga, oa, none⟩, p.cs.length, scc⟩) HA.out.1 hrc
                        simp only [Option.some.injEq, Addr.mk.injEq, and_true] at e4
                        obtain ⟨rfl, rfl⟩ := e4
                        rw [hoc.np] at uc
                        have uc' := (HFI.out.cell (p := ⟨ga, oa + m * 3, none⟩) dgc id).trans uc
                        have ca0 := (HFA.out.cell (p := ⟨A1, 0, none⟩) cAl id).trans cA0
                        clear hxc hrc hbc hoc uc e1 e2
                        by_cases hc : b = c.np
                        · have HX1 := hide (HNX.out (by rw [hIC, if_neg (by omega), if_neg (by simpa using hc)]))
                          subst hc
                          go_wp2_with fail
                          refine reg43_call 17 m c.np 0 ((p.cs.length : Int) - 1) _ A1 _ i0 i1 i2 (by omega) (by omega) (some ⟨ga, oa, none⟩) p.cs.length scc m ga oa c.np rfl rfl hmk rfl ca0 uc' false (by simp) ?_ ?_
                          · exact fun _ _ _ _ _ h => h
                          intros
                          go_wp2_with fail
                          go_roundw
                          case rel => exact ⟨j + 1, by omega, by go_num, HF5.out.drew, HX1.out⟩
                          case measure => simp [intOf]; omega
                        · have hR3 := HRB.out 3 (by rw [hIC, if_neg (by omega)]; exact if_pos hc) (by decide)
                          subst hR3
                          go_wp2_with fail
                          refine reg43_call 17 m b 0 ((p.cs.length : Int) - 1) _ A1 _ i0 i1 i2 (by omega) (by omega) (some ⟨ga, oa, none⟩) p.cs.length scc m ga oa c.np rfl rfl hmk rfl ca0 uc' true (by simpa using hc) ?_ ?_
                          · exact fun _ _ _ _ _ h => h
                          intros
                          go_wp2_with fail
                          go_ret
                          exact ⟨rfl, HFI.out.drew⟩
                  have k17b : (op == 17) = false := by simpa using k17
                  have k17c : (op != 17) = true := by simpa using k17
                  as_aux_lemma =>
                    have e1 : loC op = 0 := by unfold loC; rw [if_neg k1, if_neg k5]
                    have e2 : hiC p x op = 0 := by unfold hiC; rw [if_neg k1, if_neg k2, if_neg (by omega), if_neg k5, if_neg (by omega), if_neg k17]
                    have e3 : bC p ⟨op, a, b⟩ = 0 := by unfold bC; rw [if_neg k17]
                    rw [e1, e2, e3] at hIC
                    clear e1 e2 e3
                    by_cases ha : a < 0
                    · have hR3 := HRB.out 3 (by rw [hIC]; exact if_pos (.inl ha)) (by decide)
                      subst hR3
                      go_wp2_with fail
                      refine reg43_low op a b (0) (0) _ A1 _ i0 i1 i2 (by omega) (fun _ _ _ _ _ h => h) ?_
                      intros
                      go_wp2_with fail
                      go_ret
                      exact ⟨rfl, HFI.out.drew⟩
                    by_cases hb : 0 < a
                    · have hR3 := HRB.out 3 (by rw [hIC]; exact if_pos (.inr hb)) (by decide)
                      subst hR3
                      go_wp2_with fail
                      refine reg43_high op a b (0) (0) _ A1 _ i0 i1 i2 (by omega) (by omega) (fun _ _ _ _ _ h => h) ?_
                      intros
                      go_wp2_with fail
                      go_ret
                      exact ⟨rfl, HFI.out.drew⟩
                    by_cases hc : b ≠ 0
                    · have hR3 := HRB.out 3 (by rw [hIC]; rw [if_neg (by omega)]; exact if_pos hc) (by decide)
                      subst hR3
                      go_wp2_with fail
                      refine reg43_other op a b (0) (0) _ A1 _ i0 i1 i2 (by omega) (by omega) k17 true (by simpa using hc) (fun _ _ _ _ _ h => h) ?_
                      intros
                      go_wp2_with fail
                      go_ret
                      exact ⟨rfl, HFI.out.drew⟩
                    have hc0 : b = 0 := Classical.not_not.1 hc
                    have HX1 := hide (HNX.out (by rw [hIC, if_neg (by omega), if_neg hc]))
                    subst hc0
                    go_wp2_with fail
                    refine reg43_other op a 0 (0) (0) _ A1 _ i0 i1 i2 (by omega) (by omega) k17 false rfl (fun _ _ _ _ _ h => h) ?_
                    intros
                    go_wp2_with fail
                    go_roundw
                    case rel => exact ⟨j + 1, by omega, by go_num, HF5.out.drew, HX1.out⟩
                    case measure => simp [intOf]; omega
                · have hin : firstE (inC p x) x.ins = 0 := by rw [← he4]; exact firstE_end _ _ (by omega)
                  have hhz : codeC p x = (heightsC x.ins).2 := by unfold codeC; rw [hin, if_neg (by simp)]
                  have hb17 : ∀ i ∈ x.ins, i.op = 17 → 0 ≤ i.b := fun i hi e => by
                    have h1 := firstE_zero hin i hi
                    unfold inC at h1
                    split at h1
                    · cases h1
                    split at h1
                    · cases h1
                    split at h1
                    · cases h1
                    rename_i r1 r2 r3
                    have h4 : i.b = bC p i := Classical.not_not.1 r3
                    have h5 : 0 ≤ i.a ∧ i.a < p.cs.length := by
                      rw [e] at r2
                      have e1 : loC 17 = 0 := rfl
                      have e2 : hiC p x 17 = (p.cs.length : Int) - 1 := rfl
                      rw [e1, e2] at r2
                      omega
                    have h6 : p.cs[i.a.toNat]? = some (p.cs[i.a.toNat]'(by omega)) := List.getElem?_eq_getElem _
                    have h7 := (HG4.out _ (List.getElem_mem (l := p.cs) (n := i.a.toNat) (by omega))).1
                    rw [h4]
                    unfold bC npZ
                    rw [if_pos e, h6]
                    exact h7
                  have HHT := hide (heights_any x.ins x.np x.nv ⟨xaa, x.ins.length, xac⟩ wr (HP3.out.fr hFw (fun _ _ => id)) (by omega) hb17 (fun i hi => (HWF.out.2.2 i hi).op))
                  have HFW := hide hFw
                  have HF5 : Hid (Fr nothing w1 wr) := HF4.out.trans hf4
                  obtain ⟨er, her⟩ : ∃ er, (heightsC x.ins).2 = er := ⟨_, rfl⟩
                  unfold HtP at HHT
                  rw [her] at hhz HHT
                  have HH := hide hhz
                  clear hR2 hf4 he4 hFw her hin hhz hb17
                  by_cases h0 : er = 0
                  · subst h0
                    have HE : Hid (firstE (codeC p) (p.cs.drop (k + 1)) = firstE (codeC p) p.cs) := by
                      have := HST.out
                      rw [HH.out, if_neg (by simp)] at this
                      exact this.symm
                    go_wp2_with (go_at_call 9; refine HHT.out.mono ?_; rintro e w6 ⟨sl, rfl, hf6, hs6⟩; have HF6 := hide (HF5.out.trans hf6); clear hf6 hs6)
                    go_roundw
                    case rel => exact ⟨k + 1, by omega, by go_num, HF6.out, HE.out⟩
                    case measure => simp [intOf]; omega
                  · have h0b : (er != 0) = true := by simpa using h0
                    have HR : Hid (R = er) := by
                      unfold Hid
                      rw [HDF.out, HST.out, HH.out, if_pos h0]
                    go_wp2_with (go_at_call 9; refine HHT.out.mono ?_; rintro e w6 ⟨sl, rfl, hf6, hs6⟩; have HF6 := hide (HFW.out.trans hf6); clear hf6 hs6)
                    go_ret
                    exact ⟨by rw [HR.out]; rfl, HF6.out⟩
            · have hRr : R = 0 := by rw [HDF.out, ← hek]; exact firstE_end _ _ (by omega)
              have HFN := hide (HF1.out.trans hfk)
              subst hRr
              clear hRk hfk hek
              go_wp2_with fail
              go_ret
              exact ⟨rfl, HFN.out⟩
end Go.Proofs.Ytgocmpooppejdaa
