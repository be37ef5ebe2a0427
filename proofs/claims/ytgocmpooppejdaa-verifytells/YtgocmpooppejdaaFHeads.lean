/- Package verify: what is wrong with a program but for its instructions. -/
import Derived.Test.YtgocmpooppejdaaFInstr
set_option maxHeartbeats 0
set_option maxRecDepth 100000
namespace Go.Proofs.Ytgocmpooppejdaa
open Go Go.RowKit
theorem headBad_of (c : Cz) : headBad c = !(betw c.np 0 4 && betw c.nv c.np 8 && betw (c.ins.length : Int) 1 200) := by
  unfold headBad betw
  by_cases h1 : 0 ≤ c.np ∧ c.np ≤ 4
  · by_cases h2 : c.np ≤ c.nv ∧ c.nv ≤ 8
    · by_cases h3 : (1 : Int) ≤ (c.ins.length : Int) ∧ (c.ins.length : Int) ≤ 200
      · rw [decide_eq_true h1, decide_eq_true h2, decide_eq_true h3, decide_eq_false (by omega)]; rfl
      · rw [decide_eq_true h1, decide_eq_true h2, decide_eq_false h3, decide_eq_true (by omega)]; rfl
    · rw [decide_eq_true h1, decide_eq_false h2, decide_eq_true (by omega)]; rfl
  · rw [decide_eq_false h1, decide_eq_true (by omega)]; rfl
theorem heads_any (p : Pz) (sc sw : Slc) (w : World) (hP : PzOk w sc sw p) (hW : WfZ p) :
    Calls Try.prog 22 #[.agg #[.slice sc.a sc.n sc.c, .slice sw.a sw.n sw.c]] w fun e w' => e = .returned (.int .i64 (hedC p)) ∧ Fr nothing w w' := by
  obtain ⟨⟨rs, hrs, hea⟩, hws⟩ := hP
  obtain ⟨n1, m1⟩ := sl_len hrs
  obtain ⟨n2, m2⟩ := sl_len hws
  rw [hea.1] at n1 m1
  obtain ⟨sca, scn, scc⟩ := sc
  obtain ⟨swa, swn, swc⟩ := sw
  simp only at n1 n2
  subst n1 n2
  have hF1 : Fr nothing w (w.alloc (.cells #[.slice sca p.cs.length scc, .slice swa p.ws.length swc] 25)) := (Fr.refl _ _).alloc _
  have ca := made_cells (Fr.refl nothing (w.alloc (.cells #[.slice sca p.cs.length scc, .slice swa p.ws.length swc] 25))) id
  obtain ⟨w1, hw1⟩ : ∃ w1, w1 = w.alloc (.cells #[.slice sca p.cs.length scc, .slice swa p.ws.length swc] 25) := ⟨_, rfl⟩
  rw [← hw1] at hF1 ca
  have c0 := ca.1 0
  have c1 := ca.1 1
  have cl := ca.2.2
  have HA := hide (And.intro hrs (And.intro hea hws))
  have HF1 := hide hF1
  obtain ⟨A1, hA1⟩ : ∃ x, x = w.heap.size := ⟨_, rfl⟩
  have HCC : Hid (∀ w', Fr nothing w1 w' → w'.cell? ⟨A1, 0, none⟩ = some (.slice sca p.cs.length scc) ∧ w'.cell? ⟨A1, 1, none⟩ = some (.slice swa p.ws.length swc) ∧ A1 < w'.heap.size) := by
    rw [hA1]
    exact fun w' hf => ⟨(hf.cell (p := ⟨w.heap.size, 0, none⟩) cl id).trans c0, (hf.cell (p := ⟨w.heap.size, 1, none⟩) cl id).trans c1, Nat.lt_of_lt_of_le cl hf.size⟩
  have hw1' : w.alloc (.cells #[.slice sca p.cs.length scc, .slice swa p.ws.length swc] 25) = w1 := hw1.symm
  have HW := hide hW
  have HD : Hid (hedC p = if p.cs.length = 0 ∨ 5 < p.cs.length then 5 else if 16 < p.ws.length then 4 else if firstE wdE p.ws ≠ 0 then firstE wdE p.ws else if npZ p 0 ≠ 0 then 10 else firstE hdE p.cs) := rfl
  generalize hedC p = R at *
  have hd := HD.out
  clear ca hrs hea hws hF1 hw1 hW HD
  by_cases h0 : p.cs.length = 0
  · rw [if_pos (.inl h0)] at hd
    subst hd
    rw [h0] at c0 hw1' ⊢
    go_enter Try.func22, Try.ntmps22
    go_wp2
    go_ret
    exact ⟨rfl, HF1.out⟩
  by_cases h5 : 5 < p.cs.length
  · rw [if_pos (.inr h5)] at hd
    subst hd
    go_enter Try.func22, Try.ntmps22
    go_wp2
    go_ret
    exact ⟨rfl, HF1.out⟩
  rw [if_neg (by omega)] at hd
  by_cases h16 : 16 < p.ws.length
  · rw [if_pos h16] at hd
    subst hd
    go_enter Try.func22, Try.ntmps22
    go_wp2
    go_ret
    exact ⟨rfl, HF1.out⟩
  rw [if_neg h16] at hd
  have HDD := hide hd
  clear hd
  go_enter Try.func22, Try.ntmps22
  go_wp2
  rw [← hA1]
  clear c0 c1 cl hw1' hA1
  go_loopw [24, 4] (fun i _ wv => ∃ (j : Nat), j ≤ p.ws.length ∧ i = .int .i64 j ∧ Hid (Fr nothing w1 wv ∧ firstE wdE (p.ws.drop j) = firstE wdE p.ws)) (fun i _ _ => p.ws.length - (intOf i).toNat)
  case atStart => exact ⟨0, Nat.zero_le _, rfl, Fr.refl _ _, rfl⟩
  case round =>
    obtain ⟨j, hj, rfl, hR⟩ := hrel
    by_cases hjl : j < p.ws.length
    · have hx : p.ws[j]? = some p.ws[j] := List.getElem?_eq_getElem hjl
      have hxm : p.ws[j] ∈ p.ws := List.getElem_mem hjl
      have hst := firstE_drop wdE p.ws hx
      generalize p.ws[j] = x at hx hxm hst
      have hxl := HW.out.w x hxm
      obtain ⟨ga, oa, e1, dga, ua⟩ := sl_elem1 (s := ⟨swa, p.ws.length, swc⟩) HA.out.2.2 hx
      simp only at e1
      subst e1
      have hF := HF1.out.trans hR.out.1
      have eg1 := Nat.lt_of_lt_of_le dga hF.size
      rw [← hF.cell (p := ⟨ga, _, none⟩) dga id] at ua
      rw [hR.out.2] at hst
      cases hxw : isWord x with
      | false =>
        have hwe : wdE x = 7 := by unfold wdE; rw [hxw]; rfl
        have HFF := hide hF
        have hRr : R = 7 := by
          have := HDD.out
          rw [hwe] at hst
          rw [if_pos (by decide)] at hst
          rw [hst, if_pos (by decide)] at this
          exact this
        subst hRr
        clear hF hx hR hst
        go_wp2_with (go_at_call 28; refine (tword_any x wr hxl).mono ?_; rintro e w2 ⟨rfl, hw2⟩; rw [hw2, hxw]; clear hw2)
        go_ret
        exact ⟨rfl, HFF.out⟩
      | true =>
        have hwe : wdE x = 0 := by unfold wdE; rw [hxw]; rfl
        rw [hwe, if_neg (by simp)] at hst
        have HN : Hid (Fr nothing w1 wr ∧ firstE wdE (p.ws.drop (j + 1)) = firstE wdE p.ws) := ⟨hR.out.1, hst.symm⟩
        clear hF hx hR hst
        go_wp2_with (go_at_call 28; refine (tword_any x wr hxl).mono ?_; rintro e w2 ⟨rfl, hw2⟩; rw [hw2, hxw]; clear hw2)
        go_roundw
        case rel => exact ⟨j + 1, by omega, by go_num, HN.out⟩
        case measure => simp [intOf]; omega
    · have hw0 : firstE wdE p.ws = 0 := by rw [← hR.out.2]; exact firstE_end _ _ (by omega)
      have hd := HDD.out
      rw [hw0, if_neg (by simp)] at hd
      have hx0 : p.cs[0]? = some (p.cs[0]'(by omega)) := List.getElem?_eq_getElem _
      have hr0 : rs[0]? = some (rs[0]'(by rw [HA.out.2.1.1]; omega)) := List.getElem?_eq_getElem _
      generalize p.cs[0]'(by omega) = x at hx0
      generalize rs[0]'(by rw [HA.out.2.1.1]; omega) = xa at hr0
      have hnp : npZ p 0 = x.np := by simp [npZ, hx0]
      rw [hnp] at hd
      have hxo := HA.out.2.1.2 0 xa x hr0 hx0
      obtain ⟨ga, oa, e1, dga, ua, ua1, ua2⟩ := sl_elemC (s := ⟨sca, p.cs.length, scc⟩) HA.out.1 hr0
      simp only at e1
      subst e1
      have hF := HF1.out.trans hR.out.1
      have eg1 := Nat.lt_of_lt_of_le dga hF.size
      rw [← hF.cell (p := ⟨ga, _, none⟩) dga id] at ua
      rw [hxo.np] at ua
      obtain ⟨c0, c1, cl⟩ := HCC.out _ hR.out.1
      obtain ⟨w3, hw3⟩ : ∃ x, x = wr := ⟨_, rfl⟩
      subst hw3
      simp only [Nat.zero_mul, Nat.add_zero] at ua
      have HFF := hide hF
      have HRF := hide hR.out.1
      clear hxo hx0 hr0 ua1 ua2 hF hnp hw0 hR
      by_cases hz : x.np = 0
      · rw [if_neg (by simpa using hz)] at hd
        have HDE := hide hd
        rw [hz] at ua
        clear hd hz
        go_wp2_with fail
        clear c0 c1 cl ua eg1 dga
        go_loopw [41, 6] (fun i _ wv => ∃ (k : Nat), k ≤ p.cs.length ∧ i = .int .i64 k ∧ Hid (Fr nothing w1 wv ∧ firstE hdE (p.cs.drop k) = firstE hdE p.cs)) (fun i _ _ => p.cs.length - (intOf i).toNat)
        case atStart => exact ⟨0, Nat.zero_le _, rfl, HRF.out, rfl⟩
        case round =>
          obtain ⟨k, hk, rfl, hRk⟩ := hrel
          by_cases hkl : k < p.cs.length
          · have hx : p.cs[k]? = some p.cs[k] := List.getElem?_eq_getElem hkl
            have hst := firstE_drop hdE p.cs hx
            have hra : rs[k]? = some (rs[k]'(by rw [HA.out.2.1.1]; omega)) := List.getElem?_eq_getElem _
            generalize p.cs[k] = y at hx hst
            generalize rs[k]'(by rw [HA.out.2.1.1]; omega) = xa at hra
            obtain ⟨p1, p2, p3⟩ := HA.out.2.1.2 k xa y hra hx
            obtain ⟨gb, ob, e1, dgb, ub, ub1, ub2⟩ := sl_elemC (s := ⟨some ⟨ga, oa, none⟩, p.cs.length, scc⟩) HA.out.1 hra
            simp only [Option.some.injEq, Addr.mk.injEq, and_true] at e1
            obtain ⟨rfl, rfl⟩ := e1
            obtain ⟨q1, q2⟩ := sl_len p3
            obtain ⟨xa1, xa2, ⟨xaa, xan, xac⟩⟩ := xa
            simp only at p1 p2 q1 ub ub1 ub2
            subst p1 p2 q1
            have hF := HF1.out.trans hRk.out.1
            have eg1 := Nat.lt_of_lt_of_le dgb hF.size
            rw [← hF.cell (p := ⟨ga, _, none⟩) dgb id] at ub ub1 ub2
            have hRn : Fr nothing w1 (wr.alloc (.cells #[.int .i64 y.np, .int .i64 y.nv, .slice xaa y.ins.length xac] 37)) := hRk.out.1.alloc _
            have HFN := hide (HF1.out.trans hRn)
            rw [hRk.out.2] at hst
            have hbd := headBad_of y
            by_cases b1 : betw y.np 0 4 = true
            · by_cases b2 : betw y.nv y.np 8 = true
              · by_cases b3 : betw (y.ins.length : Int) 1 200 = true
                · have hde : hdE y = 0 := by unfold hdE; rw [hbd, b1, b2, b3]; rfl
                  rw [hde, if_neg (by simp)] at hst
                  have HN : Hid (Fr nothing w1 (wr.alloc (.cells #[.int .i64 y.np, .int .i64 y.nv, .slice xaa y.ins.length xac] 37)) ∧ firstE hdE (p.cs.drop (k + 1)) = firstE hdE p.cs) := ⟨hRn, hst.symm⟩
                  clear hx hra p3 hF hst hbd hRn hRk
                  go_wp2_with (go_at_call 24; refine (between_any _ _ _ _).mono ?_; rintro e w4 ⟨rfl, hw4⟩; (first | rw [hw4, b1] | rw [hw4, b2] | rw [hw4, b3]); clear hw4)
                  go_roundw
                  case rel => exact ⟨k + 1, by omega, by go_num, HN.out⟩
                  case measure => simp [intOf]; omega
                · have b3' : betw (y.ins.length : Int) 1 200 = false := by simpa using b3
                  have hde : hdE y = 3 := by unfold hdE; rw [hbd, b1, b2, b3']; rfl
                  have hRr : R = 3 := by rw [HDE.out, hst, hde]; rfl
                  subst hRr
                  clear hx hra p3 hF hst hbd hRn hRk b3
                  go_wp2_with (go_at_call 24; refine (between_any _ _ _ _).mono ?_; rintro e w4 ⟨rfl, hw4⟩; (first | rw [hw4, b1] | rw [hw4, b2] | rw [hw4, b3']); clear hw4)
                  go_ret
                  exact ⟨rfl, HFN.out⟩
              · have b2' : betw y.nv y.np 8 = false := by simpa using b2
                have hde : hdE y = 3 := by unfold hdE; rw [hbd, b1, b2']; rfl
                have hRr : R = 3 := by rw [HDE.out, hst, hde]; rfl
                subst hRr
                clear hx hra p3 hF hst hbd hRn hRk b2
                go_wp2_with (go_at_call 24; refine (between_any _ _ _ _).mono ?_; rintro e w4 ⟨rfl, hw4⟩; (first | rw [hw4, b1] | rw [hw4, b2']); clear hw4)
                go_ret
                exact ⟨rfl, HFN.out⟩
            · have b1' : betw y.np 0 4 = false := by simpa using b1
              have hde : hdE y = 3 := by unfold hdE; rw [hbd, b1']; rfl
              have hRr : R = 3 := by rw [HDE.out, hst, hde]; rfl
              subst hRr
              clear hx hra p3 hF hst hbd hRn hRk b1
              go_wp2_with (go_at_call 24; refine (between_any _ _ _ _).mono ?_; rintro e w4 ⟨rfl, hw4⟩; rw [hw4, b1']; clear hw4)
              go_ret
              exact ⟨rfl, HFN.out⟩
          · have hRr : R = 0 := by rw [HDE.out, ← hRk.out.2]; exact firstE_end _ _ (by omega)
            subst hRr
            have HFN := hide (HF1.out.trans hRk.out.1)
            clear hRk
            go_wp2_with fail
            go_ret
            exact ⟨rfl, HFN.out⟩
      · rw [if_pos hz] at hd
        have hzb : (x.np != 0) = true := by simpa using hz
        subst hd
        go_wp2_with fail
        go_ret
        exact ⟨rfl, HFF.out⟩
end Go.Proofs.Ytgocmpooppejdaa
