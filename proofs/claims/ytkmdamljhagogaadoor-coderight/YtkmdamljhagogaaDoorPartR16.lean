/- Cstmts; Cany. -/
import Derived.Test.YtkmdamljhagogaaDoorPartR14
section
/- The document's own look at statements: the walk. -/
namespace Go.Proofs.YtkmdamljhagogaaDoor
open Go.RowKit

set_option maxHeartbeats 3000000 in
set_option maxRecDepth 20000 in
theorem cstmts_step (l : List St) (ih : ∀ k t a x y, St.mk k t a x y ∈ l → (∀ e ∈ a, CEx e) ∧ CSt x ∧ CSt y ∧ t.length ≤ 1500) : CSt l := by
  intro cb fb wb F v nm s W sl rs w hC hSL hPL hEL hSN hPN hW hv0 hv8 hnm
  obtain ⟨hln, hlm⟩ := sl_len hSL
  obtain ⟨hnn, hnmax⟩ := sl_len hSN
  obtain ⟨la, ln, lc⟩ := sl
  simp only at hln
  rw [hEL.1] at hln
  subst hln
  obtain ⟨na0, nn0, nc0⟩ := s
  simp only at hnn
  subst hnn
  have hll : l.length ≤ 9223372036854775807 := by have := hEL.1; omega
  have HSL := hide hSL
  have HEL := hide hEL
  have HC0 := hide hC
  have HSN := hide hSN
  have HPN := hide hPN
  have hne := hC.ne
  have hwlt : wb < w.heap.size := by obtain ⟨A, a1, _⟩ := hC.wm; exact a1.lt
  have hclt := hC.lt
  obtain ⟨j0, hj0, hy0, hy1, hy2⟩ := info_parts sizeNm
  clear hSL hEL hC hSN hPN
  go_enter Tryd.func28, Tryd.ntmps28
  go_wp2
  go_loopw [16, 2, 8, 10, 11, 12, 13] (fun i nms _ _ _ _ _ wr => ∃ (j : Nat) (nmj : List Bs) (vj : Int) (Wj : WS) (na : Option Addr) (nc : Nat), j ≤ l.length ∧ i = .int .i64 j ∧ nms = .slice na nmj.length nc ∧ 0 ≤ vj ∧ vj ≤ 8 ∧ Hid (CI cb fb wb F vj Wj wr ∧ Fr (cw cb wb) w wr ∧ Sl encN 1 wr (.slice na nmj.length nc) nmj ∧ (∀ b, (Value.slice na nmj.length nc).ownBlock = some b → ¬ cw cb wb b) ∧ stsC F.f l nm v W = stsC F.f (l.drop j) nmj vj Wj ∧ Wj.n + stsN (l.drop j) ≤ 100000 ∧ nmj.length + stsN (l.drop j) ≤ 100000)) (fun i _ _ _ _ _ _ _ => l.length - (intOf i).toNat)
  case atStart => exact ⟨0, nm, v, W, na0, nc0, Nat.zero_le _, rfl, rfl, hv0, hv8, HC0.out, Fr.refl _ _, HSN.out, HPN.out, rfl, hW, hnm⟩
  case round =>
    obtain ⟨j, nmj, vj, Wj, na, nc, hj, rfl, rfl, hvj0, hvj8, hR⟩ := hrel
    obtain ⟨WR, rfl⟩ : ∃ x, x = wr := ⟨_, rfl⟩
    obtain ⟨hCj, hFj, hSj, hPj, hEqj, hWj, hNj⟩ := hR.out
    have HFj := hide hFj
    have HCj := hide hCj
    by_cases hjl : j < l.length
    · have hx : l[j]? = some l[j] := List.getElem?_eq_getElem hjl
      have hr : rs[j]? = some (rs[j]'(by rw [HEL.out.1]; omega)) := List.getElem?_eq_getElem _
      have hxm : l[j] ∈ l := List.getElem_mem hjl
      have hdr : l.drop j = l[j] :: l.drop (j + 1) := List.drop_eq_getElem_cons hjl
      generalize rs[j]'(by rw [HEL.out.1]; omega) = r at hr
      generalize l[j] = st at hx hxm hdr
      have hok := HEL.out.2 j r st hr hx
      obtain ⟨g, o, hg, dg, p0, p1, p2, p3, p4⟩ := sl_elem5 (s := ⟨la, l.length, lc⟩) HSL.out hr
      simp only at hg
      subst hg
      have hgw : ¬ cw cb wb g := hPL g rfl
      rw [← hFj.cell (p := ⟨g, _, none⟩) dg hgw] at p0 p1 p2 p3 p4
      have eg : g < WR.heap.size := Nat.lt_of_lt_of_le dg hFj.size
      rw [hdr, stsC_cons] at hEqj
      rw [hdr, stsN] at hWj hNj
      cases hok with
      | mk k t sa sx sy ra rx ry a x y ha hPa ha2 hsx hPx hx1 hx2 hsy hPy hyl hy2' =>
      obtain ⟨ihE, ihX, ihY, htl⟩ := ih k t a x y hxm
      obtain ⟨hsan, hsam⟩ := sl_len ha
      rw [stN] at hWj hNj
      simp only at p0 p1 p2 p3 p4
      have HEQ := hide hEqj
      have HSj := hide hSj
      have HPj := hide hPj
      have HHAS := hide (fun w' (hf : Fr (cw cb wb) WR w') => has_any ⟨na, nmj.length, nc⟩ nmj t w' (hSj.keep hf hPj (fun k hk e => hk e)))
      have hszr := hFj.size
      have hbw : ¬ WR.heap.size = wb := by omega
      have hbc : ¬ WR.heap.size = cb := by omega
      have hal : a.length ≤ 9223372036854775807 := by have := ha2.1; omega
      obtain ⟨aa, an, ac⟩ := sa
      simp only at hsan
      rw [ha2.1] at hsan
      subst hsan
      have HA2 := hide ha2
      have HA := hide ha
      have HPA := hide hPa
      have hFA : Fr nothing WR (WR.alloc (so ⟨k, t, ⟨aa, a.length, ac⟩, sx, sy⟩)) := (Fr.refl _ WR).alloc _
      have HCA := hide (hCj.fr hFA id id id)
      have HFA := hide hFA
      clear hCj hFj hSj hPj hEqj hR hFA ha2 ha hPa hr hx
      go_wp2
      generalize hwA : WR.alloc (so ⟨k, t, ⟨aa, a.length, ac⟩, sx, sy⟩) = wA at *
      have HWA := hide hwA
      clear hwA
      go_loopw [23, 10, 11] (fun i _ _ ws => ∃ (j2 : Nat) (W2 : WS), j2 ≤ a.length ∧ i = .int .i64 j2 ∧ Hid (CI cb fb wb F vj W2 ws ∧ Fr (fun k => k = wb) wA ws ∧ exsC F.f nmj a Wj = exsC F.f nmj (a.drop j2) W2 ∧ W2.n + exsN (a.drop j2) ≤ Wj.n + exsN a)) (fun i _ _ _ => a.length - (intOf i).toNat)
      case atStart => exact ⟨0, Wj, Nat.zero_le _, rfl, HCA.out, Fr.refl _ _, rfl, Nat.le_refl _⟩
      case round =>
        obtain ⟨j2, W2, hj2, rfl, hR2⟩ := hrel
        by_cases hj2l : j2 < a.length
        · have hx : a[j2]? = some a[j2] := List.getElem?_eq_getElem hj2l
          have hr : ra[j2]? = some (ra[j2]'(by rw [HA2.out.1]; omega)) := List.getElem?_eq_getElem _
          have hxm2 : a[j2] ∈ a := List.getElem_mem hj2l
          have hdr2 : a.drop j2 = a[j2] :: a.drop (j2 + 1) := List.drop_eq_getElem_cons hj2l
          generalize ra[j2]'(by rw [HA2.out.1]; omega) = r at hr
          generalize a[j2] = x2 at hx hxm2 hdr2
          have hok := HA2.out.2 j2 r x2 hr hx
          obtain ⟨g2, o2, hg2, -, dg2, u0, u1, u2, u3⟩ := sl_elem4 (s := ⟨aa, a.length, ac⟩) HA.out hr
          simp only at hg2
          subst hg2
          have hF2 : Fr (cw cb wb) w wr := ((HFj.out.trans (HFA.out.mono (fun _ _ e => e.elim))).trans (hR2.out.2.1.mono (fun _ _ e => .inr e)))
          have hgw2 : ¬ cw cb wb g2 := HPA.out g2 rfl
          rw [← hF2.cell (p := ⟨g2, _, none⟩) dg2 hgw2] at u0 u1 u2 u3
          have eg2 : g2 < wr.heap.size := Nat.lt_of_lt_of_le dg2 hF2.size
          have hexs := hR2.out.2.2.1
          rw [hdr2, exsC_cons] at hexs
          have hcost : W2.n + exN x2 + exsN (a.drop (j2 + 1)) ≤ Wj.n + exsN a := by
            have := hR2.out.2.2.2
            rw [hdr2, exsN] at this
            omega
          have hFE : Fr (cw cb wb) w (wr.alloc (eo r)) := hF2.alloc _
          have hnw : Fr (cw cb wb) WR (wr.alloc (eo r)) := ((HFA.out.mono (fun _ _ e => e.elim)).trans (hR2.out.2.1.mono (fun _ _ e => .inr e))).alloc _
          have HIH := hide (ihE x2 hxm2 cb fb wb F vj nmj ⟨na, nmj.length, nc⟩ W2 r (wr.alloc (eo r)) (hR2.out.1.fr (S := nothing) ((Fr.refl nothing wr).alloc _) id id id) (ex_stays _ _ _ _ _ _ _ hok hFE (fun k hk e => hk e) (fun _ hk e => hk (.inr e))) (HSj.out.keep hnw HPj.out (fun k hk e => hk e)) (fun b hb e => HPj.out b hb (.inr e)) (by omega))
          have hle := exC_le F.f nmj x2 W2
          generalize hq : exC F.f nmj x2 W2 = q at HIH hexs hle
          have HEX := hide hexs
          have HFE := hide hFE
          clear hok hexs hFE hq hr hx hnw hF2
          obtain ⟨qe, qW⟩ := q
          simp only at HIH hle
          by_cases hq0 : qe = 0
          · subst hq0
            have HEX2 : Hid (exsC F.f nmj a Wj = exsC F.f nmj (a.drop (j2 + 1)) qW) := by
              show exsC F.f nmj a Wj = _
              rw [HEX.out]; rfl
            go_wp2_with (go_at_call 40; refine HIH.out.mono ?_; rintro e w7 ⟨rfl, hf, hc⟩; have HC7 := hide (hc rfl); have HF7 := hide ((hR2.out.2.1.alloc (eo r)).trans hf); clear hf hc)
            go_roundw
            case rel => exact ⟨j2 + 1, qW, by omega, by go_num, HC7.out, HF7.out, HEX2.out, by omega⟩
            case measure => simp [intOf]; omega
          · have hq2 := ne_bne hq0
            have HEND : Hid ((stsC F.f l nm v W).e = qe) := by
              have h1 : exsC F.f nmj a Wj = ⟨qe, qW⟩ := by rw [HEX.out]; exact or_bad hq0
              have h4 := stC_ex (F := F.f) (k := k) (t := t) (a := a) (x := x) (y := y) (nm := nmj) (v := vj) (W := Wj) (by rw [h1]; exact hq0)
              rw [h1] at h4
              show (stsC F.f l nm v W).e = _
              rw [HEQ.out, cr_bad (by rw [h4]; exact hq0)]
              exact h4
            go_wp2_with (go_at_call 40; refine HIH.out.mono ?_; rintro e w7 ⟨rfl, hf, hc⟩; have HF7 := hide (HFE.out.trans (hf.mono (fun _ _ e => .inr e))); clear hf hc)
            go_ret
            exact ⟨by rw [HEND.out]; rfl, HF7.out, fun h0 => absurd (HEND.out.symm.trans h0) hq0⟩
        · have hja : j2 = a.length := by omega
          have HX0 : Hid (exsC F.f nmj a Wj = ⟨0, W2⟩) := by
            show exsC F.f nmj a Wj = _
            rw [hR2.out.2.2.1, hja, List.drop_length, exsC_nil]
          have hW2 : W2.n ≤ Wj.n + exsN a := by have := hR2.out.2.2.2; omega
          have HF2r := hide ((HFA.out.mono (fun _ _ e => e.elim)).trans (hR2.out.2.1.mono (fun _ _ e => .inr e)) : Fr (cw cb wb) WR wr)
          have HF2 := hide (HFj.out.trans HF2r.out)
          have HC2 := hide hR2.out.1
          have hB5 := so_cells (HWA.out ▸ hR2.out.2.1) (by show ¬ WR.heap.size = wb; exact hbw)
          have HB5 := hide hB5
          obtain ⟨x0, x1, x2, x3, x4, xf, xl⟩ := hB5
          clear hja hR2 xf
          by_cases k1 : k = 1
          · have p1 : (k == 1) = true := by simpa using k1
            have hn1 : stN1 nmj k t = nmj ++ [t] := by simp [stN1, k1]
            have hv1 : stV1 vj k = vj + 1 := by simp [stV1, k1]
            have p2 : (k == 2) = false := by rw [k1]; rfl
            have d1 := HC2.out.c1
            have e1 := HC2.out.f1
            have dl := HC2.out.lt
            cases hcn : nmj.contains t with
            | true =>
              rw [hcn] at HHAS
              have hse : stE nmj vj k t = 7 := by unfold stE; rw [if_pos k1, hcn]; rfl
              clear k1
              have HEND : Hid ((stsC F.f l nm v W).e = 7) := by
                have h4 := stC_own (F := F.f) (k := k) (t := t) (a := a) (x := x) (y := y) (nm := nmj) (v := vj) (W := Wj) (by rw [HX0.out]) (by rw [hse]; decide)
                rw [hse] at h4
                show (stsC F.f l nm v W).e = _
                rw [HEQ.out, cr_bad (by rw [h4]; decide)]
                exact h4
              go_wp2_with (go_at_call 27; refine (HHAS.out _ HF2r.out).mono ?_; rintro e w4 ⟨rfl, hw4⟩; have hw4' := hw4.symm; subst hw4'; clear hw4)
              go_ret
              exact ⟨by rw [HEND.out]; rfl, HF2.out, fun h0 => absurd (HEND.out.symm.trans h0) (by decide)⟩
            | false =>
              rw [hcn] at HHAS
              by_cases h8 : 8 ≤ vj
              · have hse : stE nmj vj k t = 4 := by unfold stE; rw [if_pos k1, hcn]; simp [h8]
                have h9 : (8 : Int) < vj + 1 := by omega
                clear k1
                have HEND : Hid ((stsC F.f l nm v W).e = 4) := by
                  have h4 := stC_own (F := F.f) (k := k) (t := t) (a := a) (x := x) (y := y) (nm := nmj) (v := vj) (W := Wj) (by rw [HX0.out]) (by rw [hse]; decide)
                  rw [hse] at h4
                  show (stsC F.f l nm v W).e = _
                  rw [HEQ.out, cr_bad (by rw [h4]; decide)]
                  exact h4
                go_wp2_with (go_at_call 27; refine (HHAS.out _ HF2r.out).mono ?_; rintro e w4 ⟨rfl, hw4⟩; have hw4' := hw4.symm; subst hw4'; clear hw4)
                go_ret
                exact ⟨by rw [HEND.out]; rfl, HF2.out.setCell (p := ⟨cb, 1, none⟩) (.inl (.inl rfl)) _, fun h0 => absurd (HEND.out.symm.trans h0) (by decide)⟩
              · have hse : stE nmj vj k t = 0 := by unfold stE; rw [if_pos k1, hcn]; simp [h8]
                have h9 : ¬ (8 : Int) < vj + 1 := by omega
                clear k1
                have hFV1 : Fr (cw cb wb) wr (wr.setCell ⟨cb, 1, none⟩ (.int .i64 (vj + 1))) := (Fr.refl (cw cb wb) wr).setCell (p := ⟨cb, 1, none⟩) (.inl (.inl rfl)) _
                have HCV := hide (HC2.out.vars (vj + 1))
                have HFV := hide (HF2.out.trans hFV1)
                have HBV := hide (HB5.out.fr hFV1 (by show ¬ (WR.heap.size = cb ∨ WR.heap.size = wb); omega))
                have HSV := hide (HSj.out.keep (HF2r.out.trans hFV1) HPj.out (fun k hk e => hk e))
                have nx1 := HBV.out.c1
                have nxl := HBV.out.lt
                have HVS : Hid (cb < (wr.setCell ⟨cb, 1, none⟩ (.int .i64 (vj + 1))).heap.size ∧ wb < (wr.setCell ⟨cb, 1, none⟩ (.int .i64 (vj + 1))).heap.size) := ⟨HCV.out.lt, by obtain ⟨A, a1, _⟩ := HCV.out.wm; exact a1.lt⟩
                have HFX : Hid (∀ w', Fr nothing (wr.setCell ⟨cb, 1, none⟩ (.int .i64 (vj + 1))) w' → w'.cell? ⟨WR.heap.size, 1, none⟩ = some (.string (bs t))) := fun w' hf => (HBV.out.fr hf id).c1
                have HNW : Hid (∀ w', Fr nothing (wr.setCell ⟨cb, 1, none⟩ (.int .i64 (vj + 1))) w' → ∀ j u, (nmj.flatMap encN)[j]? = some u → ∃ ad, na = some ad ∧ w'.cell? (ad.add j) = some u) := fun w' hf => sl_strs (HSV.out.fr hf (fun _ _ => id))
                have hnl : nmj.length ≤ 100000 := by omega
                have hnx : (nmj ++ [t]).length = nmj.length + 1 := by simp
                go_wp2_with (go_at_call 27; refine (HHAS.out _ HF2r.out).mono ?_; rintro e w4 ⟨rfl, hw4⟩; have hw4' := hw4.symm; subst hw4'; clear hw4)
                generalize hwv : wr.setCell ⟨cb, 1, none⟩ (.int .i64 (vj + 1)) = wv at *
                clear hwv
                refine wp_region_T (S := fun w' => w'.cell? ⟨WR.heap.size, 1, none⟩ = some (.string (bs t))) (by kernel_rfl) [7] ?_ (fun hHeld => ?_)
                · exact nx1
                refine wpAnyT_take (i := 1) (oi := { dst := some 55, op := Op.move (Operand.tmp 2), type := 32, pos := "ref.go:584", after := #[], guard := none }) (v := ?v1) rfl (by kernel_rfl) (by kernel_rfl) (by kernel_rfl) (by kernel_rfl) (by kernel_rfl) (fun _ _ _ h => h) (Or.inl ⟨by rfl, ?hy1⟩) (by assumption) ?rest1
                case hy1 => (intro w hSw; (try dsimp only at hSw); go_simp; try with_reducible rfl)
                try simp only [Act.put, List.setIfInBounds_toArray, List.set_cons_zero, List.set_cons_succ]
                refine wpAnyT_take (i := 3) (oi := { dst := some 57, op := Op.fieldAddr 88 (Operand.tmp 8) 1, type := 0, pos := "ref.go:584", after := #[], guard := none }) (v := ?v2) rfl (by kernel_rfl) (by kernel_rfl) (by kernel_rfl) (by kernel_rfl) (by kernel_rfl) (fun _ _ _ h => h) (Or.inl ⟨by rfl, ?hy2⟩) (by assumption) ?rest2
                case hy2 => (intro w hSw; (try dsimp only at hSw); go_simp; try with_reducible rfl)
                try simp only [Act.put, List.setIfInBounds_toArray, List.set_cons_zero, List.set_cons_succ]
                refine wpAnyT_take (i := 4) (oi := { dst := some 58, op := Op.load 9 (Operand.tmp 57), type := 9, pos := "ref.go:584", after := #[{ on := 3, ground := Ground.data }], guard := none }) (v := ?v3) rfl (by kernel_rfl) (by kernel_rfl) (by kernel_rfl) (by kernel_rfl) (by kernel_rfl) (fun _ _ _ h => h) (Or.inl ⟨by rfl, ?hy3⟩) (by assumption) ?rest3
                case hy3 => (intro w hSw; (try dsimp only at hSw); go_simp; try with_reducible rfl)
                try simp only [Act.put, List.setIfInBounds_toArray, List.set_cons_zero, List.set_cons_succ]
                refine wpAnyT_ready (rs := [0, 5]) (by kernel_rfl) (by simp) ?_
                refine AllReadyT.cons (o := { dst := some 54, op := Op.buildSlice 32 0 #[], type := 32, pos := "ref.go:584", after := #[], guard := none }) rfl (fun K hK => ?_) (AllReadyT.cons (o := { dst := some 59, op := Op.buildSlice 32 1 #[(0, Operand.tmp 58)], type := 32, pos := "ref.go:584", after := #[{ on := 4, ground := Ground.data }], guard := none }) rfl (fun K hK => ?_) AllReadyT.nil)
                · go_simp
                  have FE := ((Fr.refl nothing wv).drew).alloc (.cells #[] 9)
                  refine hK.out _ _ (HFX.out _ FE) ?_
                  clear hK K hHeld
                  have hHeld := HFX.out _ FE
                  try simp only [Act.put, List.setIfInBounds_toArray, List.set_cons_zero, List.set_cons_succ]
                  have hOE := World.ownsRow_lit (e := 9) wv.drew #[] 0 (size := 1) (base := wv.heap.size) (Nat.le_refl _) (by unfold maxLen; omega) rfl
                  refine wpAnyT_ready (rs := [2, 5]) (by kernel_rfl) (by simp) ?_
                  refine AllReadyT.cons (o := { dst := some 56, op := Op.call { callee := Callee.builtin Builtin.append, args := #[Operand.tmp 54, Operand.tmp 55], argTypes := #[32, 32] }, type := 32, pos := "ref.go:584", after := #[{ on := 0, ground := Ground.data }, { on := 1, ground := Ground.data }], guard := none }) rfl (fun K hK => ?_) (AllReadyT.cons (o := { dst := some 59, op := Op.buildSlice 32 1 #[(0, Operand.tmp 58)], type := 32, pos := "ref.go:584", after := #[{ on := 4, ground := Ground.data }], guard := none }) rfl (fun K hK => ?_) AllReadyT.nil)
                  · refine step_append_more (wv.drew.alloc (.cells #[] 9)) (by rfl) (.tmp 54) (.tmp 55) 32 (by rfl) wv.heap.size 9 j0 _ 1 16 Tryd.underlying32 hj0 hy0 hy1 hy2 rfl (by decide) (wv.heap.size) (by simp [Act.eval]) hOE na nmj.length nc (nmj.flatMap encN) (by simp [Act.eval]) (by rw [flat_length encN 1 encN_len]) (HNW.out _ FE) (strs_one nmj) (by unfold maxLen; omega) (by omega) (by have := FE.size; omega) ?_
                    intro g1 cp1 w5 hr5 hg5
                    have F5 : Fr nothing wv w5 := FE.grown hg5 (fun k hk => .inr (by have := own_eq hk; omega))
                    refine hK.out _ _ (HFX.out _ F5) ?_
                    clear hK K hHeld
                    have hHeld := HFX.out _ F5
                    try simp only [Act.put, List.setIfInBounds_toArray, List.set_cons_zero, List.set_cons_succ]
                    refine wpAnyT_ready (rs := [5]) (by kernel_rfl) (by simp) ?_
                    refine AllReadyT.cons (o := { dst := some 59, op := Op.buildSlice 32 1 #[(0, Operand.tmp 58)], type := 32, pos := "ref.go:584", after := #[{ on := 4, ground := Ground.data }], guard := none }) rfl (fun K hK => ?_) AllReadyT.nil
                    go_simp
                    have FS := F5.alloc (.cells #[.string (bs t)] 9)
                    refine hK.out _ _ (HFX.out _ FS) ?_
                    clear hK K hHeld
                    have hHeld := HFX.out _ FS
                    try simp only [Act.put, List.setIfInBounds_toArray, List.set_cons_zero, List.set_cons_succ]
                    refine wpAnyT_ready (rs := [6]) (by kernel_rfl) (by simp) ?_
                    refine AllReadyT.cons (o := { dst := some 60, op := Op.call { callee := Callee.builtin Builtin.append, args := #[Operand.tmp 56, Operand.tmp 59], argTypes := #[32, 32] }, type := 32, pos := "ref.go:584", after := #[{ on := 2, ground := Ground.data }, { on := 5, ground := Ground.data }, { on := 2, ground := Ground.chain }], guard := none }) rfl (fun K hK => ?_) AllReadyT.nil
                    refine step_append_lies (w5.alloc (.cells #[.string (bs t)] 9)) (by rfl) (.tmp 56) (.tmp 59) 32 (by rfl) wv.heap.size 9 j0 _ 1 16 Tryd.underlying32 hj0 hy0 hy1 hy2 rfl (by decide) (.slice (some ⟨g1, 0, none⟩) (0 + nmj.length) cp1) (0 + nmj.length) _ (by simp [Act.eval]) (hr5.alloc (.cells #[.string (bs t)] 9)) ⟨w5.heap.size, 0, none⟩ 1 1 [.string (bs t)] (by simp [Act.eval]) rfl (World.news_of_block (cs := #[.string (bs t)]) (t := 9) (fr := (0, 0)) (heap_new _ _)) (by simp [Value.oneCell']) (by decide) (by unfold maxLen; omega) (by omega) (by have := FS.size; omega) _ rfl ?_
                    intro g cp w6 hr6 hg6 hat6 hlt6
                    have hg1 := ((hr5.alloc (.cells #[.string (bs t)] 9))).lt g1 rfl
                    have F6 : Fr nothing wv w6 := FS.grown hg6 (fun k hk => .inr (by have := own_eq hk; omega))
                    refine hK.out _ _ (HFX.out _ F6) ?_
                    clear hK K hHeld
                    have hHeld := HFX.out _ F6
                    have hNS := names_sl hr6
                    try simp only [Act.put, List.setIfInBounds_toArray, List.set_cons_zero, List.set_cons_succ]
                    refine wpAnyT_ready (rs := [7]) (by kernel_rfl) (by simp) ?_
                    refine AllReadyT.last (o := { dst := some 2, op := Op.assign (Operand.tmp 60), type := 32, pos := "ref.go:584", after := #[{ on := 6, ground := Ground.data }, { on := 6, ground := Ground.chain }, { on := 0, ground := Ground.phase }, { on := 1, ground := Ground.phase }, { on := 2, ground := Ground.phase }, { on := 3, ground := Ground.phase }, { on := 4, ground := Ground.phase }, { on := 5, ground := Ground.phase }, { on := 6, ground := Ground.phase }], guard := none }) rfl (by kernel_rfl) (fun K hK => ?_) AllReadyT.nil
                    go_simp
                    refine hK.out _ _ ?_
                    clear hK K
                    try simp only [Act.put, List.setIfInBounds_toArray, List.set_cons_zero, List.set_cons_succ]
                    refine wpAny_done (by kernel_rfl) ?_ _
                    obtain ⟨y0, y1, y2, y3, y4, yf, yl⟩ := HBV.out.fr F6 id
                    clear yf
                    have HFt : Hid (Fr (cw cb wb) w w6) := HFV.out.trans (F6.mono (fun _ _ e => e.elim))
                    have HCt : Hid (CI cb fb wb F (vj + 1) W2 w6) := HCV.out.fr F6 id id id
                    have HSt : Hid (Sl encN 1 w6 (.slice (some ⟨g, 0, none⟩) (nmj.length + 1) cp) (nmj ++ [t])) := by have := hNS.1; rw [hnx] at this; exact this
                    have HPt : Hid (∀ b, (Value.slice (some ⟨g, 0, none⟩) (nmj.length + 1) cp).ownBlock = some b → ¬ cw cb wb b) := fun b hb e => by have h9 := own_eq hb; have h8 := hNS.2; have h7 := HVS.out; rcases e with e | e <;> omega
                    have HX1 := hide (ihX cb fb wb F (vj + 1) (nmj ++ [t]) ⟨(some ⟨g, 0, none⟩), (nmj.length + 1), cp⟩ W2 sx rx w6 HCt.out (hsx.keep HFt.out hPx (fun k hk e => hk e)) hPx ⟨hx1, fun i r z h1 h2 => st_stays _ _ _ _ _ _ _ (hx2 i r z h1 h2) HFt.out (fun k hk e => hk e) (fun _ hk => hk)⟩ HSt.out HPt.out (by omega) (by omega) (by omega) (by omega))
                    have hle1 := stsC_le F.f x (nmj ++ [t]) (vj + 1) W2
                    have hvv1 := stsC_v F.f x (nmj ++ [t]) (vj + 1) W2 (by omega) (by omega)
                    obtain ⟨r1, hr1⟩ : ∃ r1, stsC F.f x (nmj ++ [t]) (vj + 1) W2 = r1 := ⟨_, rfl⟩
                    rw [hr1] at HX1 hle1 hvv1
                    by_cases h1e : r1.e = 0
                    · have hvv2 := hvv1 h1e
                      have HY1 : Hid (∀ wx, Fr (cw cb wb) w wx → CI cb fb wb F r1.v r1.W wx → Sl encN 1 wx (.slice (some ⟨g, 0, none⟩) (nmj.length + 1) cp) (nmj ++ [t]) → Calls Tryd.prog 28 #[.pointer (some ⟨cb, 0, none⟩), .slice sy.a sy.n sy.c, .slice (some ⟨g, 0, none⟩) (nmj.length + 1) cp] wx fun e w' => e = .returned (.int .i64 (stsC F.f y (nmj ++ [t]) r1.v r1.W).e) ∧ Fr (cw cb wb) wx w' ∧ ((stsC F.f y (nmj ++ [t]) r1.v r1.W).e = 0 → CI cb fb wb F (stsC F.f y (nmj ++ [t]) r1.v r1.W).v (stsC F.f y (nmj ++ [t]) r1.v r1.W).W w')) := fun wx hf hc hn => ihY cb fb wb F r1.v (nmj ++ [t]) ⟨(some ⟨g, 0, none⟩), (nmj.length + 1), cp⟩ r1.W sy ry wx hc (hsy.keep hf hPy (fun k hk e => hk e)) hPy ⟨hyl, fun i r z h1 h2 => st_stays _ _ _ _ _ _ _ (hy2' i r z h1 h2) hf (fun k hk e => hk e) (fun _ hk => hk)⟩ hn HPt.out (by omega) (by omega) (by omega) (by omega)
                      have hle2 := stsC_le F.f y (nmj ++ [t]) r1.v r1.W
                      have hvv3 := stsC_v F.f y (nmj ++ [t]) r1.v r1.W (by omega) (by omega)
                      obtain ⟨r2, hr2⟩ : ∃ r2, stsC F.f y (nmj ++ [t]) r1.v r1.W = r2 := ⟨_, rfl⟩
                      rw [hr2] at HY1 hle2 hvv3
                      have hst := stC_else (F := F.f) (k := k) (t := t) (a := a) (x := x) (y := y) (nm := nmj) (v := vj) (W := Wj) (r := r1) (r2 := r2) HX0.out hse (by rw [hn1, hv1]; exact hr1) h1e (by rw [hn1]; exact hr2)
                      have HST := hide hst
                      have h1e' : (r1.e == 0) = true := by simpa using h1e
                      clear hst hr1 hr2 hvv1
                      by_cases h2e : r2.e = 0
                      · have hvv4 := hvv3 h2e
                        have HEND : Hid (stsC F.f l nm v W = stsC F.f (l.drop (j + 1)) (nmj ++ [t]) r2.v r2.W) := by
                          show stsC F.f l nm v W = _
                          rw [HEQ.out, HST.out.2 h2e, hn1]
                          exact cr_ok rfl
                        go_wp2_with (go_at_call 28; first
                          | (refine (HY1.out wx HFX.out HCX.out HSX.out).mono ?_; rintro e wy ⟨rfl, hf, hc⟩; have HCY := hide (hc h2e); have HFY := hide (HFX.out.trans hf); have HSY := hide (HSX.out.keep hf HPt.out (fun k hk e => hk e)); clear hf hc)
                          | (refine HX1.out.mono ?_; rintro e wx ⟨rfl, hf, hc⟩; have HCX := hide (hc h1e); have HFX := hide (HFt.out.trans hf); have HSX := hide (HSt.out.keep hf HPt.out (fun k hk e => hk e)); obtain ⟨z0, z1, z2, z3, z4, zf, zl⟩ := (HBV.out.fr F6 id).fr hf (by show ¬ (WR.heap.size = cb ∨ WR.heap.size = wb); omega); clear hf hc zf))
                        refine ⟨⟨j + 1, (nmj ++ [t]), r2.v, r2.W, (some ⟨g, 0, none⟩), cp, by omega, by go_num, by rw [hnx], by omega, by omega, HCY.out, HFY.out, by rw [hnx]; exact HSY.out, by rw [hnx]; exact HPt.out, HEND.out, by omega, by (simp; omega)⟩, by simp [intOf]; omega⟩
                      · have h2e1 := ne_bne h2e
                        have HEND : Hid ((stsC F.f l nm v W).e = r2.e) := by
                          show (stsC F.f l nm v W).e = _
                          rw [HEQ.out, cr_bad (by rw [HST.out.1 h2e]; exact h2e)]
                          exact HST.out.1 h2e
                        go_wp2_with (go_at_call 28; first
                          | (refine (HY1.out wx HFX.out HCX.out HSX.out).mono ?_; rintro e wy ⟨rfl, hf, hc⟩; have HFY := hide (HFX.out.trans hf); clear hf hc)
                          | (refine HX1.out.mono ?_; rintro e wx ⟨rfl, hf, hc⟩; have HCX := hide (hc h1e); have HFX := hide (HFt.out.trans hf); have HSX := hide (HSt.out.keep hf HPt.out (fun k hk e => hk e)); obtain ⟨z0, z1, z2, z3, z4, zf, zl⟩ := (HBV.out.fr F6 id).fr hf (by show ¬ (WR.heap.size = cb ∨ WR.heap.size = wb); omega); clear hf hc zf))
                        go_ret
                        exact ⟨by rw [HEND.out]; rfl, HFY.out, fun h0 => absurd (HEND.out.symm.trans h0) h2e⟩
                    · have h1e1 := ne_bne h1e
                      have HEND : Hid ((stsC F.f l nm v W).e = r1.e) := by
                        have h3 : stsC F.f x (stN1 nmj k t) (stV1 vj k) W2 = r1 := by rw [hn1, hv1]; exact hr1
                        have h4 := stC_then (F := F.f) (k := k) (t := t) (a := a) (x := x) (y := y) (nm := nmj) (v := vj) (W := Wj) HX0.out hse (by rw [h3]; exact h1e)
                        rw [h3] at h4
                        show (stsC F.f l nm v W).e = _
                        rw [HEQ.out, cr_bad (by rw [h4]; exact h1e)]
                        exact h4
                      clear hr1 hvv1
                      go_wp2_with (go_at_call 28; refine HX1.out.mono ?_; rintro e wx ⟨rfl, hf, hc⟩; have HFX := hide (HFt.out.trans hf); clear hf hc)
                      go_ret
                      exact ⟨by rw [HEND.out]; rfl, HFX.out, fun h0 => absurd (HEND.out.symm.trans h0) h1e⟩
                  · go_simp
                    have FS := FE.alloc (.cells #[.string (bs t)] 9)
                    refine hK.out _ _ (HFX.out _ FS) ?_
                    clear hK K hHeld
                    have hHeld := HFX.out _ FS
                    try simp only [Act.put, List.setIfInBounds_toArray, List.set_cons_zero, List.set_cons_succ]
                    refine wpAnyT_ready (rs := [2]) (by kernel_rfl) (by simp) ?_
                    refine AllReadyT.cons (o := { dst := some 56, op := Op.call { callee := Callee.builtin Builtin.append, args := #[Operand.tmp 54, Operand.tmp 55], argTypes := #[32, 32] }, type := 32, pos := "ref.go:584", after := #[{ on := 0, ground := Ground.data }, { on := 1, ground := Ground.data }], guard := none }) rfl (fun K hK => ?_) AllReadyT.nil
                    refine step_append_more ((wv.drew.alloc (.cells #[] 9)).alloc (.cells #[.string (bs t)] 9)) (by rfl) (.tmp 54) (.tmp 55) 32 (by rfl) wv.heap.size 9 j0 _ 1 16 Tryd.underlying32 hj0 hy0 hy1 hy2 rfl (by decide) (wv.heap.size) (by simp [Act.eval]) (hOE.alloc (.cells #[.string (bs t)] 9)) na nmj.length nc (nmj.flatMap encN) (by simp [Act.eval]) (by rw [flat_length encN 1 encN_len]) (HNW.out _ FS) (strs_one nmj) (by unfold maxLen; omega) (by omega) (by have := FS.size; omega) ?_
                    intro g1 cp1 w5 hr5 hg5
                    have F5 : Fr nothing wv w5 := FS.grown hg5 (fun k hk => .inr (by have := own_eq hk; omega))
                    refine hK.out _ _ (HFX.out _ F5) ?_
                    clear hK K hHeld
                    have hHeld := HFX.out _ F5
                    try simp only [Act.put, List.setIfInBounds_toArray, List.set_cons_zero, List.set_cons_succ]
                    have NWS : ∀ j u, ([.string (bs t)] : List Value)[j]? = some u → w5.cell? ((⟨wv.heap.size + 1, 0, none⟩ : Addr).add j) = some u := fun j u hu => by
                      have h1 := World.news_of_block (cs := #[.string (bs t)]) (t := 9) (fr := (0, 0)) (heap_new (wv.drew.alloc (.cells #[] 9)) (.cells #[.string (bs t)] 9)) j u hu
                      rw [show (wv.drew.alloc (.cells #[] 9)).heap.size = wv.heap.size + 1 by simp] at h1
                      rw [add_eq] at h1 ⊢
                      exact (hg5.cell_far ⟨wv.heap.size + 1, 0 + j, none⟩ (by simp) (by simp [Value.ownBlock])).trans h1
                    refine wpAnyT_ready (rs := [6]) (by kernel_rfl) (by simp) ?_
                    refine AllReadyT.cons (o := { dst := some 60, op := Op.call { callee := Callee.builtin Builtin.append, args := #[Operand.tmp 56, Operand.tmp 59], argTypes := #[32, 32] }, type := 32, pos := "ref.go:584", after := #[{ on := 2, ground := Ground.data }, { on := 5, ground := Ground.data }, { on := 2, ground := Ground.chain }], guard := none }) rfl (fun K hK => ?_) AllReadyT.nil
                    refine step_append_lies w5 (by rfl) (.tmp 56) (.tmp 59) 32 (by rfl) wv.heap.size 9 j0 _ 1 16 Tryd.underlying32 hj0 hy0 hy1 hy2 rfl (by decide) (.slice (some ⟨g1, 0, none⟩) (0 + nmj.length) cp1) (0 + nmj.length) _ (by simp [Act.eval]) hr5 ⟨wv.heap.size + 1, 0, none⟩ 1 1 [.string (bs t)] (by simp [Act.eval]) rfl NWS (by simp [Value.oneCell']) (by decide) (by unfold maxLen; omega) (by omega) (by have := F5.size; omega) _ rfl ?_
                    intro g cp w6 hr6 hg6 hat6 hlt6
                    have hg1 := (hr5).lt g1 rfl
                    have F6 : Fr nothing wv w6 := F5.grown hg6 (fun k hk => .inr (by have := own_eq hk; omega))
                    refine hK.out _ _ (HFX.out _ F6) ?_
                    clear hK K hHeld
                    have hHeld := HFX.out _ F6
                    have hNS := names_sl hr6
                    try simp only [Act.put, List.setIfInBounds_toArray, List.set_cons_zero, List.set_cons_succ]
                    refine wpAnyT_ready (rs := [7]) (by kernel_rfl) (by simp) ?_
                    refine AllReadyT.last (o := { dst := some 2, op := Op.assign (Operand.tmp 60), type := 32, pos := "ref.go:584", after := #[{ on := 6, ground := Ground.data }, { on := 6, ground := Ground.chain }, { on := 0, ground := Ground.phase }, { on := 1, ground := Ground.phase }, { on := 2, ground := Ground.phase }, { on := 3, ground := Ground.phase }, { on := 4, ground := Ground.phase }, { on := 5, ground := Ground.phase }, { on := 6, ground := Ground.phase }], guard := none }) rfl (by kernel_rfl) (fun K hK => ?_) AllReadyT.nil
                    go_simp
                    refine hK.out _ _ ?_
                    clear hK K
                    try simp only [Act.put, List.setIfInBounds_toArray, List.set_cons_zero, List.set_cons_succ]
                    refine wpAny_done (by kernel_rfl) ?_ _
                    obtain ⟨y0, y1, y2, y3, y4, yf, yl⟩ := HBV.out.fr F6 id
                    clear yf
                    have HFt : Hid (Fr (cw cb wb) w w6) := HFV.out.trans (F6.mono (fun _ _ e => e.elim))
                    have HCt : Hid (CI cb fb wb F (vj + 1) W2 w6) := HCV.out.fr F6 id id id
                    have HSt : Hid (Sl encN 1 w6 (.slice (some ⟨g, 0, none⟩) (nmj.length + 1) cp) (nmj ++ [t])) := by have := hNS.1; rw [hnx] at this; exact this
                    have HPt : Hid (∀ b, (Value.slice (some ⟨g, 0, none⟩) (nmj.length + 1) cp).ownBlock = some b → ¬ cw cb wb b) := fun b hb e => by have h9 := own_eq hb; have h8 := hNS.2; have h7 := HVS.out; rcases e with e | e <;> omega
                    have HX1 := hide (ihX cb fb wb F (vj + 1) (nmj ++ [t]) ⟨(some ⟨g, 0, none⟩), (nmj.length + 1), cp⟩ W2 sx rx w6 HCt.out (hsx.keep HFt.out hPx (fun k hk e => hk e)) hPx ⟨hx1, fun i r z h1 h2 => st_stays _ _ _ _ _ _ _ (hx2 i r z h1 h2) HFt.out (fun k hk e => hk e) (fun _ hk => hk)⟩ HSt.out HPt.out (by omega) (by omega) (by omega) (by omega))
                    have hle1 := stsC_le F.f x (nmj ++ [t]) (vj + 1) W2
                    have hvv1 := stsC_v F.f x (nmj ++ [t]) (vj + 1) W2 (by omega) (by omega)
                    obtain ⟨r1, hr1⟩ : ∃ r1, stsC F.f x (nmj ++ [t]) (vj + 1) W2 = r1 := ⟨_, rfl⟩
                    rw [hr1] at HX1 hle1 hvv1
                    by_cases h1e : r1.e = 0
                    · have hvv2 := hvv1 h1e
                      have HY1 : Hid (∀ wx, Fr (cw cb wb) w wx → CI cb fb wb F r1.v r1.W wx → Sl encN 1 wx (.slice (some ⟨g, 0, none⟩) (nmj.length + 1) cp) (nmj ++ [t]) → Calls Tryd.prog 28 #[.pointer (some ⟨cb, 0, none⟩), .slice sy.a sy.n sy.c, .slice (some ⟨g, 0, none⟩) (nmj.length + 1) cp] wx fun e w' => e = .returned (.int .i64 (stsC F.f y (nmj ++ [t]) r1.v r1.W).e) ∧ Fr (cw cb wb) wx w' ∧ ((stsC F.f y (nmj ++ [t]) r1.v r1.W).e = 0 → CI cb fb wb F (stsC F.f y (nmj ++ [t]) r1.v r1.W).v (stsC F.f y (nmj ++ [t]) r1.v r1.W).W w')) := fun wx hf hc hn => ihY cb fb wb F r1.v (nmj ++ [t]) ⟨(some ⟨g, 0, none⟩), (nmj.length + 1), cp⟩ r1.W sy ry wx hc (hsy.keep hf hPy (fun k hk e => hk e)) hPy ⟨hyl, fun i r z h1 h2 => st_stays _ _ _ _ _ _ _ (hy2' i r z h1 h2) hf (fun k hk e => hk e) (fun _ hk => hk)⟩ hn HPt.out (by omega) (by omega) (by omega) (by omega)
                      have hle2 := stsC_le F.f y (nmj ++ [t]) r1.v r1.W
                      have hvv3 := stsC_v F.f y (nmj ++ [t]) r1.v r1.W (by omega) (by omega)
                      obtain ⟨r2, hr2⟩ : ∃ r2, stsC F.f y (nmj ++ [t]) r1.v r1.W = r2 := ⟨_, rfl⟩
                      rw [hr2] at HY1 hle2 hvv3
                      have hst := stC_else (F := F.f) (k := k) (t := t) (a := a) (x := x) (y := y) (nm := nmj) (v := vj) (W := Wj) (r := r1) (r2 := r2) HX0.out hse (by rw [hn1, hv1]; exact hr1) h1e (by rw [hn1]; exact hr2)
                      have HST := hide hst
                      have h1e' : (r1.e == 0) = true := by simpa using h1e
                      clear hst hr1 hr2 hvv1
                      by_cases h2e : r2.e = 0
                      · have hvv4 := hvv3 h2e
                        have HEND : Hid (stsC F.f l nm v W = stsC F.f (l.drop (j + 1)) (nmj ++ [t]) r2.v r2.W) := by
                          show stsC F.f l nm v W = _
                          rw [HEQ.out, HST.out.2 h2e, hn1]
                          exact cr_ok rfl
                        go_wp2_with (go_at_call 28; first
                          | (refine (HY1.out wx HFX.out HCX.out HSX.out).mono ?_; rintro e wy ⟨rfl, hf, hc⟩; have HCY := hide (hc h2e); have HFY := hide (HFX.out.trans hf); have HSY := hide (HSX.out.keep hf HPt.out (fun k hk e => hk e)); clear hf hc)
                          | (refine HX1.out.mono ?_; rintro e wx ⟨rfl, hf, hc⟩; have HCX := hide (hc h1e); have HFX := hide (HFt.out.trans hf); have HSX := hide (HSt.out.keep hf HPt.out (fun k hk e => hk e)); obtain ⟨z0, z1, z2, z3, z4, zf, zl⟩ := (HBV.out.fr F6 id).fr hf (by show ¬ (WR.heap.size = cb ∨ WR.heap.size = wb); omega); clear hf hc zf))
                        refine ⟨⟨j + 1, (nmj ++ [t]), r2.v, r2.W, (some ⟨g, 0, none⟩), cp, by omega, by go_num, by rw [hnx], by omega, by omega, HCY.out, HFY.out, by rw [hnx]; exact HSY.out, by rw [hnx]; exact HPt.out, HEND.out, by omega, by (simp; omega)⟩, by simp [intOf]; omega⟩
                      · have h2e1 := ne_bne h2e
                        have HEND : Hid ((stsC F.f l nm v W).e = r2.e) := by
                          show (stsC F.f l nm v W).e = _
                          rw [HEQ.out, cr_bad (by rw [HST.out.1 h2e]; exact h2e)]
                          exact HST.out.1 h2e
                        go_wp2_with (go_at_call 28; first
                          | (refine (HY1.out wx HFX.out HCX.out HSX.out).mono ?_; rintro e wy ⟨rfl, hf, hc⟩; have HFY := hide (HFX.out.trans hf); clear hf hc)
                          | (refine HX1.out.mono ?_; rintro e wx ⟨rfl, hf, hc⟩; have HCX := hide (hc h1e); have HFX := hide (HFt.out.trans hf); have HSX := hide (HSt.out.keep hf HPt.out (fun k hk e => hk e)); obtain ⟨z0, z1, z2, z3, z4, zf, zl⟩ := (HBV.out.fr F6 id).fr hf (by show ¬ (WR.heap.size = cb ∨ WR.heap.size = wb); omega); clear hf hc zf))
                        go_ret
                        exact ⟨by rw [HEND.out]; rfl, HFY.out, fun h0 => absurd (HEND.out.symm.trans h0) h2e⟩
                    · have h1e1 := ne_bne h1e
                      have HEND : Hid ((stsC F.f l nm v W).e = r1.e) := by
                        have h3 : stsC F.f x (stN1 nmj k t) (stV1 vj k) W2 = r1 := by rw [hn1, hv1]; exact hr1
                        have h4 := stC_then (F := F.f) (k := k) (t := t) (a := a) (x := x) (y := y) (nm := nmj) (v := vj) (W := Wj) HX0.out hse (by rw [h3]; exact h1e)
                        rw [h3] at h4
                        show (stsC F.f l nm v W).e = _
                        rw [HEQ.out, cr_bad (by rw [h4]; exact h1e)]
                        exact h4
                      clear hr1 hvv1
                      go_wp2_with (go_at_call 28; refine HX1.out.mono ?_; rintro e wx ⟨rfl, hf, hc⟩; have HFX := hide (HFt.out.trans hf); clear hf hc)
                      go_ret
                      exact ⟨by rw [HEND.out]; rfl, HFX.out, fun h0 => absurd (HEND.out.symm.trans h0) h1e⟩
                · go_simp
                  have FS := ((Fr.refl nothing wv).drew).alloc (.cells #[.string (bs t)] 9)
                  refine hK.out _ _ (HFX.out _ FS) ?_
                  clear hK K hHeld
                  have hHeld := HFX.out _ FS
                  try simp only [Act.put, List.setIfInBounds_toArray, List.set_cons_zero, List.set_cons_succ]
                  refine wpAnyT_ready (rs := [0]) (by kernel_rfl) (by simp) ?_
                  refine AllReadyT.cons (o := { dst := some 54, op := Op.buildSlice 32 0 #[], type := 32, pos := "ref.go:584", after := #[], guard := none }) rfl (fun K hK => ?_) AllReadyT.nil
                  go_simp
                  have FE := FS.alloc (.cells #[] 9)
                  refine hK.out _ _ (HFX.out _ FE) ?_
                  clear hK K hHeld
                  have hHeld := HFX.out _ FE
                  try simp only [Act.put, List.setIfInBounds_toArray, List.set_cons_zero, List.set_cons_succ]
                  have hOE := World.ownsRow_lit (e := 9) (wv.drew.alloc (.cells #[.string (bs t)] 9)) #[] 0 (size := 1) (base := wv.heap.size) (by simp) (by unfold maxLen; omega) rfl
                  refine wpAnyT_ready (rs := [2]) (by kernel_rfl) (by simp) ?_
                  refine AllReadyT.cons (o := { dst := some 56, op := Op.call { callee := Callee.builtin Builtin.append, args := #[Operand.tmp 54, Operand.tmp 55], argTypes := #[32, 32] }, type := 32, pos := "ref.go:584", after := #[{ on := 0, ground := Ground.data }, { on := 1, ground := Ground.data }], guard := none }) rfl (fun K hK => ?_) AllReadyT.nil
                  refine step_append_more ((wv.drew.alloc (.cells #[.string (bs t)] 9)).alloc (.cells #[] 9)) (by rfl) (.tmp 54) (.tmp 55) 32 (by rfl) wv.heap.size 9 j0 _ 1 16 Tryd.underlying32 hj0 hy0 hy1 hy2 rfl (by decide) (wv.heap.size + 1) (by simp [Act.eval]) (by simpa using hOE) na nmj.length nc (nmj.flatMap encN) (by simp [Act.eval]) (by rw [flat_length encN 1 encN_len]) (HNW.out _ FE) (strs_one nmj) (by unfold maxLen; omega) (by omega) (by have := FE.size; omega) ?_
                  intro g1 cp1 w5 hr5 hg5
                  have F5 : Fr nothing wv w5 := FE.grown hg5 (fun k hk => .inr (by have := own_eq hk; omega))
                  refine hK.out _ _ (HFX.out _ F5) ?_
                  clear hK K hHeld
                  have hHeld := HFX.out _ F5
                  try simp only [Act.put, List.setIfInBounds_toArray, List.set_cons_zero, List.set_cons_succ]
                  have NWS : ∀ j u, ([.string (bs t)] : List Value)[j]? = some u → w5.cell? ((⟨wv.heap.size, 0, none⟩ : Addr).add j) = some u := fun j u hu => by
                    have h1 := World.news_of_block (cs := #[.string (bs t)]) (t := 9) (fr := (0, 0)) (heap_new wv.drew (.cells #[.string (bs t)] 9)) j u hu
                    rw [add_eq] at h1 ⊢
                    exact (hg5.cell_far ⟨wv.heap.size, 0 + j, none⟩ (by simp; omega) (by simp [Value.ownBlock])).trans ((World.cell?_alloc_past _ _ _ (by simp)).trans h1)
                  refine wpAnyT_ready (rs := [6]) (by kernel_rfl) (by simp) ?_
                  refine AllReadyT.cons (o := { dst := some 60, op := Op.call { callee := Callee.builtin Builtin.append, args := #[Operand.tmp 56, Operand.tmp 59], argTypes := #[32, 32] }, type := 32, pos := "ref.go:584", after := #[{ on := 2, ground := Ground.data }, { on := 5, ground := Ground.data }, { on := 2, ground := Ground.chain }], guard := none }) rfl (fun K hK => ?_) AllReadyT.nil
                  refine step_append_lies w5 (by rfl) (.tmp 56) (.tmp 59) 32 (by rfl) wv.heap.size 9 j0 _ 1 16 Tryd.underlying32 hj0 hy0 hy1 hy2 rfl (by decide) (.slice (some ⟨g1, 0, none⟩) (0 + nmj.length) cp1) (0 + nmj.length) _ (by simp [Act.eval]) hr5 ⟨wv.heap.size, 0, none⟩ 1 1 [.string (bs t)] (by simp [Act.eval]) rfl NWS (by simp [Value.oneCell']) (by decide) (by unfold maxLen; omega) (by omega) (by have := F5.size; omega) _ rfl ?_
                  intro g cp w6 hr6 hg6 hat6 hlt6
                  have hg1 := (hr5).lt g1 rfl
                  have F6 : Fr nothing wv w6 := F5.grown hg6 (fun k hk => .inr (by have := own_eq hk; omega))
                  refine hK.out _ _ (HFX.out _ F6) ?_
                  clear hK K hHeld
                  have hHeld := HFX.out _ F6
                  have hNS := names_sl hr6
                  try simp only [Act.put, List.setIfInBounds_toArray, List.set_cons_zero, List.set_cons_succ]
                  refine wpAnyT_ready (rs := [7]) (by kernel_rfl) (by simp) ?_
                  refine AllReadyT.last (o := { dst := some 2, op := Op.assign (Operand.tmp 60), type := 32, pos := "ref.go:584", after := #[{ on := 6, ground := Ground.data }, { on := 6, ground := Ground.chain }, { on := 0, ground := Ground.phase }, { on := 1, ground := Ground.phase }, { on := 2, ground := Ground.phase }, { on := 3, ground := Ground.phase }, { on := 4, ground := Ground.phase }, { on := 5, ground := Ground.phase }, { on := 6, ground := Ground.phase }], guard := none }) rfl (by kernel_rfl) (fun K hK => ?_) AllReadyT.nil
                  go_simp
                  refine hK.out _ _ ?_
                  clear hK K
                  try simp only [Act.put, List.setIfInBounds_toArray, List.set_cons_zero, List.set_cons_succ]
                  refine wpAny_done (by kernel_rfl) ?_ _
                  obtain ⟨y0, y1, y2, y3, y4, yf, yl⟩ := HBV.out.fr F6 id
                  clear yf
                  have HFt : Hid (Fr (cw cb wb) w w6) := HFV.out.trans (F6.mono (fun _ _ e => e.elim))
                  have HCt : Hid (CI cb fb wb F (vj + 1) W2 w6) := HCV.out.fr F6 id id id
                  have HSt : Hid (Sl encN 1 w6 (.slice (some ⟨g, 0, none⟩) (nmj.length + 1) cp) (nmj ++ [t])) := by have := hNS.1; rw [hnx] at this; exact this
                  have HPt : Hid (∀ b, (Value.slice (some ⟨g, 0, none⟩) (nmj.length + 1) cp).ownBlock = some b → ¬ cw cb wb b) := fun b hb e => by have h9 := own_eq hb; have h8 := hNS.2; have h7 := HVS.out; rcases e with e | e <;> omega
                  have HX1 := hide (ihX cb fb wb F (vj + 1) (nmj ++ [t]) ⟨(some ⟨g, 0, none⟩), (nmj.length + 1), cp⟩ W2 sx rx w6 HCt.out (hsx.keep HFt.out hPx (fun k hk e => hk e)) hPx ⟨hx1, fun i r z h1 h2 => st_stays _ _ _ _ _ _ _ (hx2 i r z h1 h2) HFt.out (fun k hk e => hk e) (fun _ hk => hk)⟩ HSt.out HPt.out (by omega) (by omega) (by omega) (by omega))
                  have hle1 := stsC_le F.f x (nmj ++ [t]) (vj + 1) W2
                  have hvv1 := stsC_v F.f x (nmj ++ [t]) (vj + 1) W2 (by omega) (by omega)
                  obtain ⟨r1, hr1⟩ : ∃ r1, stsC F.f x (nmj ++ [t]) (vj + 1) W2 = r1 := ⟨_, rfl⟩
                  rw [hr1] at HX1 hle1 hvv1
                  by_cases h1e : r1.e = 0
                  · have hvv2 := hvv1 h1e
                    have HY1 : Hid (∀ wx, Fr (cw cb wb) w wx → CI cb fb wb F r1.v r1.W wx → Sl encN 1 wx (.slice (some ⟨g, 0, none⟩) (nmj.length + 1) cp) (nmj ++ [t]) → Calls Tryd.prog 28 #[.pointer (some ⟨cb, 0, none⟩), .slice sy.a sy.n sy.c, .slice (some ⟨g, 0, none⟩) (nmj.length + 1) cp] wx fun e w' => e = .returned (.int .i64 (stsC F.f y (nmj ++ [t]) r1.v r1.W).e) ∧ Fr (cw cb wb) wx w' ∧ ((stsC F.f y (nmj ++ [t]) r1.v r1.W).e = 0 → CI cb fb wb F (stsC F.f y (nmj ++ [t]) r1.v r1.W).v (stsC F.f y (nmj ++ [t]) r1.v r1.W).W w')) := fun wx hf hc hn => ihY cb fb wb F r1.v (nmj ++ [t]) ⟨(some ⟨g, 0, none⟩), (nmj.length + 1), cp⟩ r1.W sy ry wx hc (hsy.keep hf hPy (fun k hk e => hk e)) hPy ⟨hyl, fun i r z h1 h2 => st_stays _ _ _ _ _ _ _ (hy2' i r z h1 h2) hf (fun k hk e => hk e) (fun _ hk => hk)⟩ hn HPt.out (by omega) (by omega) (by omega) (by omega)
                    have hle2 := stsC_le F.f y (nmj ++ [t]) r1.v r1.W
                    have hvv3 := stsC_v F.f y (nmj ++ [t]) r1.v r1.W (by omega) (by omega)
                    obtain ⟨r2, hr2⟩ : ∃ r2, stsC F.f y (nmj ++ [t]) r1.v r1.W = r2 := ⟨_, rfl⟩
                    rw [hr2] at HY1 hle2 hvv3
                    have hst := stC_else (F := F.f) (k := k) (t := t) (a := a) (x := x) (y := y) (nm := nmj) (v := vj) (W := Wj) (r := r1) (r2 := r2) HX0.out hse (by rw [hn1, hv1]; exact hr1) h1e (by rw [hn1]; exact hr2)
                    have HST := hide hst
                    have h1e' : (r1.e == 0) = true := by simpa using h1e
                    clear hst hr1 hr2 hvv1
                    by_cases h2e : r2.e = 0
                    · have hvv4 := hvv3 h2e
                      have HEND : Hid (stsC F.f l nm v W = stsC F.f (l.drop (j + 1)) (nmj ++ [t]) r2.v r2.W) := by
                        show stsC F.f l nm v W = _
                        rw [HEQ.out, HST.out.2 h2e, hn1]
                        exact cr_ok rfl
                      go_wp2_with (go_at_call 28; first
                        | (refine (HY1.out wx HFX.out HCX.out HSX.out).mono ?_; rintro e wy ⟨rfl, hf, hc⟩; have HCY := hide (hc h2e); have HFY := hide (HFX.out.trans hf); have HSY := hide (HSX.out.keep hf HPt.out (fun k hk e => hk e)); clear hf hc)
                        | (refine HX1.out.mono ?_; rintro e wx ⟨rfl, hf, hc⟩; have HCX := hide (hc h1e); have HFX := hide (HFt.out.trans hf); have HSX := hide (HSt.out.keep hf HPt.out (fun k hk e => hk e)); obtain ⟨z0, z1, z2, z3, z4, zf, zl⟩ := (HBV.out.fr F6 id).fr hf (by show ¬ (WR.heap.size = cb ∨ WR.heap.size = wb); omega); clear hf hc zf))
                      refine ⟨⟨j + 1, (nmj ++ [t]), r2.v, r2.W, (some ⟨g, 0, none⟩), cp, by omega, by go_num, by rw [hnx], by omega, by omega, HCY.out, HFY.out, by rw [hnx]; exact HSY.out, by rw [hnx]; exact HPt.out, HEND.out, by omega, by (simp; omega)⟩, by simp [intOf]; omega⟩
                    · have h2e1 := ne_bne h2e
                      have HEND : Hid ((stsC F.f l nm v W).e = r2.e) := by
                        show (stsC F.f l nm v W).e = _
                        rw [HEQ.out, cr_bad (by rw [HST.out.1 h2e]; exact h2e)]
                        exact HST.out.1 h2e
                      go_wp2_with (go_at_call 28; first
                        | (refine (HY1.out wx HFX.out HCX.out HSX.out).mono ?_; rintro e wy ⟨rfl, hf, hc⟩; have HFY := hide (HFX.out.trans hf); clear hf hc)
                        | (refine HX1.out.mono ?_; rintro e wx ⟨rfl, hf, hc⟩; have HCX := hide (hc h1e); have HFX := hide (HFt.out.trans hf); have HSX := hide (HSt.out.keep hf HPt.out (fun k hk e => hk e)); obtain ⟨z0, z1, z2, z3, z4, zf, zl⟩ := (HBV.out.fr F6 id).fr hf (by show ¬ (WR.heap.size = cb ∨ WR.heap.size = wb); omega); clear hf hc zf))
                      go_ret
                      exact ⟨by rw [HEND.out]; rfl, HFY.out, fun h0 => absurd (HEND.out.symm.trans h0) h2e⟩
                  · have h1e1 := ne_bne h1e
                    have HEND : Hid ((stsC F.f l nm v W).e = r1.e) := by
                      have h3 : stsC F.f x (stN1 nmj k t) (stV1 vj k) W2 = r1 := by rw [hn1, hv1]; exact hr1
                      have h4 := stC_then (F := F.f) (k := k) (t := t) (a := a) (x := x) (y := y) (nm := nmj) (v := vj) (W := Wj) HX0.out hse (by rw [h3]; exact h1e)
                      rw [h3] at h4
                      show (stsC F.f l nm v W).e = _
                      rw [HEQ.out, cr_bad (by rw [h4]; exact h1e)]
                      exact h4
                    clear hr1 hvv1
                    go_wp2_with (go_at_call 28; refine HX1.out.mono ?_; rintro e wx ⟨rfl, hf, hc⟩; have HFX := hide (HFt.out.trans hf); clear hf hc)
                    go_ret
                    exact ⟨by rw [HEND.out]; rfl, HFX.out, fun h0 => absurd (HEND.out.symm.trans h0) h1e⟩
          · have p1 : (k == 1) = false := by simpa using k1
            have hn1 : stN1 nmj k t = nmj := by simp [stN1, k1]
            have hv1 : stV1 vj k = vj := by simp [stV1, k1]
            by_cases k2 : k = 2
            · have p2 : (k == 2) = true := by simpa using k2
              cases hcn : nmj.contains t with
              | true =>
                rw [hcn] at HHAS
                have hse : stE nmj vj k t = 0 := by unfold stE; rw [if_neg k1, if_pos k2, hcn]; rfl
                clear k2
                go_wp2_with (go_at_call 27; refine (HHAS.out _ HF2r.out).mono ?_; rintro e w4 ⟨rfl, hw4⟩; have hw4' := hw4.symm; subst hw4'; clear hw4)
                have HFt : Hid (Fr (cw cb wb) w wr) := HF2.out
                have HCt : Hid (CI cb fb wb F vj W2 wr) := HC2.out
                have HSt : Hid (Sl encN 1 wr (.slice na nmj.length nc) nmj) := HSj.out.keep HF2r.out HPj.out (fun k hk e => hk e)
                have HPt : Hid (∀ b, (Value.slice na nmj.length nc).ownBlock = some b → ¬ cw cb wb b) := HPj.out
                have HX1 := hide (ihX cb fb wb F vj nmj ⟨na, nmj.length, nc⟩ W2 sx rx wr HCt.out (hsx.keep HFt.out hPx (fun k hk e => hk e)) hPx ⟨hx1, fun i r z h1 h2 => st_stays _ _ _ _ _ _ _ (hx2 i r z h1 h2) HFt.out (fun k hk e => hk e) (fun _ hk => hk)⟩ HSt.out HPt.out (by omega) (by omega) (by omega) (by omega))
                have hle1 := stsC_le F.f x nmj vj W2
                have hvv1 := stsC_v F.f x nmj vj W2 (by omega) (by omega)
                obtain ⟨r1, hr1⟩ : ∃ r1, stsC F.f x nmj vj W2 = r1 := ⟨_, rfl⟩
                rw [hr1] at HX1 hle1 hvv1
                by_cases h1e : r1.e = 0
                · have hvv2 := hvv1 h1e
                  have HY1 : Hid (∀ wx, Fr (cw cb wb) w wx → CI cb fb wb F r1.v r1.W wx → Sl encN 1 wx (.slice na nmj.length nc) nmj → Calls Tryd.prog 28 #[.pointer (some ⟨cb, 0, none⟩), .slice sy.a sy.n sy.c, .slice na nmj.length nc] wx fun e w' => e = .returned (.int .i64 (stsC F.f y nmj r1.v r1.W).e) ∧ Fr (cw cb wb) wx w' ∧ ((stsC F.f y nmj r1.v r1.W).e = 0 → CI cb fb wb F (stsC F.f y nmj r1.v r1.W).v (stsC F.f y nmj r1.v r1.W).W w')) := fun wx hf hc hn => ihY cb fb wb F r1.v nmj ⟨na, nmj.length, nc⟩ r1.W sy ry wx hc (hsy.keep hf hPy (fun k hk e => hk e)) hPy ⟨hyl, fun i r z h1 h2 => st_stays _ _ _ _ _ _ _ (hy2' i r z h1 h2) hf (fun k hk e => hk e) (fun _ hk => hk)⟩ hn HPt.out (by omega) (by omega) (by omega) (by omega)
                  have hle2 := stsC_le F.f y nmj r1.v r1.W
                  have hvv3 := stsC_v F.f y nmj r1.v r1.W (by omega) (by omega)
                  obtain ⟨r2, hr2⟩ : ∃ r2, stsC F.f y nmj r1.v r1.W = r2 := ⟨_, rfl⟩
                  rw [hr2] at HY1 hle2 hvv3
                  have hst := stC_else (F := F.f) (k := k) (t := t) (a := a) (x := x) (y := y) (nm := nmj) (v := vj) (W := Wj) (r := r1) (r2 := r2) HX0.out hse (by rw [hn1, hv1]; exact hr1) h1e (by rw [hn1]; exact hr2)
                  have HST := hide hst
                  have h1e' : (r1.e == 0) = true := by simpa using h1e
                  clear hst hr1 hr2 hvv1
                  by_cases h2e : r2.e = 0
                  · have hvv4 := hvv3 h2e
                    have HEND : Hid (stsC F.f l nm v W = stsC F.f (l.drop (j + 1)) nmj r2.v r2.W) := by
                      show stsC F.f l nm v W = _
                      rw [HEQ.out, HST.out.2 h2e, hn1]
                      exact cr_ok rfl
                    go_wp2_with (go_at_call 28; first
                      | (refine (HY1.out wx HFX.out HCX.out HSX.out).mono ?_; rintro e wy ⟨rfl, hf, hc⟩; have HCY := hide (hc h2e); have HFY := hide (HFX.out.trans hf); have HSY := hide (HSX.out.keep hf HPt.out (fun k hk e => hk e)); clear hf hc)
                      | (refine HX1.out.mono ?_; rintro e wx ⟨rfl, hf, hc⟩; have HCX := hide (hc h1e); have HFX := hide (HFt.out.trans hf); have HSX := hide (HSt.out.keep hf HPt.out (fun k hk e => hk e)); obtain ⟨z0, z1, z2, z3, z4, zf, zl⟩ := HB5.out.fr hf (by show ¬ (WR.heap.size = cb ∨ WR.heap.size = wb); omega); clear hf hc zf))
                    refine ⟨⟨j + 1, nmj, r2.v, r2.W, na, nc, by omega, by go_num, rfl, by omega, by omega, HCY.out, HFY.out, HSY.out, HPt.out, HEND.out, by omega, by omega⟩, by simp [intOf]; omega⟩
                  · have h2e1 := ne_bne h2e
                    have HEND : Hid ((stsC F.f l nm v W).e = r2.e) := by
                      show (stsC F.f l nm v W).e = _
                      rw [HEQ.out, cr_bad (by rw [HST.out.1 h2e]; exact h2e)]
                      exact HST.out.1 h2e
                    go_wp2_with (go_at_call 28; first
                      | (refine (HY1.out wx HFX.out HCX.out HSX.out).mono ?_; rintro e wy ⟨rfl, hf, hc⟩; have HFY := hide (HFX.out.trans hf); clear hf hc)
                      | (refine HX1.out.mono ?_; rintro e wx ⟨rfl, hf, hc⟩; have HCX := hide (hc h1e); have HFX := hide (HFt.out.trans hf); have HSX := hide (HSt.out.keep hf HPt.out (fun k hk e => hk e)); obtain ⟨z0, z1, z2, z3, z4, zf, zl⟩ := HB5.out.fr hf (by show ¬ (WR.heap.size = cb ∨ WR.heap.size = wb); omega); clear hf hc zf))
                    go_ret
                    exact ⟨by rw [HEND.out]; rfl, HFY.out, fun h0 => absurd (HEND.out.symm.trans h0) h2e⟩
                · have h1e1 := ne_bne h1e
                  have HEND : Hid ((stsC F.f l nm v W).e = r1.e) := by
                    have h3 : stsC F.f x (stN1 nmj k t) (stV1 vj k) W2 = r1 := by rw [hn1, hv1]; exact hr1
                    have h4 := stC_then (F := F.f) (k := k) (t := t) (a := a) (x := x) (y := y) (nm := nmj) (v := vj) (W := Wj) HX0.out hse (by rw [h3]; exact h1e)
                    rw [h3] at h4
                    show (stsC F.f l nm v W).e = _
                    rw [HEQ.out, cr_bad (by rw [h4]; exact h1e)]
                    exact h4
                  clear hr1 hvv1
                  go_wp2_with (go_at_call 28; refine HX1.out.mono ?_; rintro e wx ⟨rfl, hf, hc⟩; have HFX := hide (HFt.out.trans hf); clear hf hc)
                  go_ret
                  exact ⟨by rw [HEND.out]; rfl, HFX.out, fun h0 => absurd (HEND.out.symm.trans h0) h1e⟩
              | false =>
                rw [hcn] at HHAS
                have hse : stE nmj vj k t = 6 := by unfold stE; rw [if_neg k1, if_pos k2, hcn]; rfl
                clear k2
                have HEND : Hid ((stsC F.f l nm v W).e = 6) := by
                  have h4 := stC_own (F := F.f) (k := k) (t := t) (a := a) (x := x) (y := y) (nm := nmj) (v := vj) (W := Wj) (by rw [HX0.out]) (by rw [hse]; decide)
                  rw [hse] at h4
                  show (stsC F.f l nm v W).e = _
                  rw [HEQ.out, cr_bad (by rw [h4]; decide)]
                  exact h4
                go_wp2_with (go_at_call 27; refine (HHAS.out _ HF2r.out).mono ?_; rintro e w4 ⟨rfl, hw4⟩; have hw4' := hw4.symm; subst hw4'; clear hw4)
                go_ret
                exact ⟨by rw [HEND.out]; rfl, HF2.out, fun h0 => absurd (HEND.out.symm.trans h0) (by decide)⟩
            · have p2 : (k == 2) = false := by simpa using k2
              have hse : stE nmj vj k t = 0 := by unfold stE; rw [if_neg k1, if_neg k2]
              have HFt : Hid (Fr (cw cb wb) w wr) := HF2.out
              have HCt : Hid (CI cb fb wb F vj W2 wr) := HC2.out
              have HSt : Hid (Sl encN 1 wr (.slice na nmj.length nc) nmj) := HSj.out.keep HF2r.out HPj.out (fun k hk e => hk e)
              have HPt : Hid (∀ b, (Value.slice na nmj.length nc).ownBlock = some b → ¬ cw cb wb b) := HPj.out
              have HX1 := hide (ihX cb fb wb F vj nmj ⟨na, nmj.length, nc⟩ W2 sx rx wr HCt.out (hsx.keep HFt.out hPx (fun k hk e => hk e)) hPx ⟨hx1, fun i r z h1 h2 => st_stays _ _ _ _ _ _ _ (hx2 i r z h1 h2) HFt.out (fun k hk e => hk e) (fun _ hk => hk)⟩ HSt.out HPt.out (by omega) (by omega) (by omega) (by omega))
              have hle1 := stsC_le F.f x nmj vj W2
              have hvv1 := stsC_v F.f x nmj vj W2 (by omega) (by omega)
              obtain ⟨r1, hr1⟩ : ∃ r1, stsC F.f x nmj vj W2 = r1 := ⟨_, rfl⟩
              rw [hr1] at HX1 hle1 hvv1
              by_cases h1e : r1.e = 0
              · have hvv2 := hvv1 h1e
                have HY1 : Hid (∀ wx, Fr (cw cb wb) w wx → CI cb fb wb F r1.v r1.W wx → Sl encN 1 wx (.slice na nmj.length nc) nmj → Calls Tryd.prog 28 #[.pointer (some ⟨cb, 0, none⟩), .slice sy.a sy.n sy.c, .slice na nmj.length nc] wx fun e w' => e = .returned (.int .i64 (stsC F.f y nmj r1.v r1.W).e) ∧ Fr (cw cb wb) wx w' ∧ ((stsC F.f y nmj r1.v r1.W).e = 0 → CI cb fb wb F (stsC F.f y nmj r1.v r1.W).v (stsC F.f y nmj r1.v r1.W).W w')) := fun wx hf hc hn => ihY cb fb wb F r1.v nmj ⟨na, nmj.length, nc⟩ r1.W sy ry wx hc (hsy.keep hf hPy (fun k hk e => hk e)) hPy ⟨hyl, fun i r z h1 h2 => st_stays _ _ _ _ _ _ _ (hy2' i r z h1 h2) hf (fun k hk e => hk e) (fun _ hk => hk)⟩ hn HPt.out (by omega) (by omega) (by omega) (by omega)
                have hle2 := stsC_le F.f y nmj r1.v r1.W
                have hvv3 := stsC_v F.f y nmj r1.v r1.W (by omega) (by omega)
                obtain ⟨r2, hr2⟩ : ∃ r2, stsC F.f y nmj r1.v r1.W = r2 := ⟨_, rfl⟩
                rw [hr2] at HY1 hle2 hvv3
                have hst := stC_else (F := F.f) (k := k) (t := t) (a := a) (x := x) (y := y) (nm := nmj) (v := vj) (W := Wj) (r := r1) (r2 := r2) HX0.out hse (by rw [hn1, hv1]; exact hr1) h1e (by rw [hn1]; exact hr2)
                have HST := hide hst
                have h1e' : (r1.e == 0) = true := by simpa using h1e
                clear hst hr1 hr2 hvv1
                by_cases h2e : r2.e = 0
                · have hvv4 := hvv3 h2e
                  have HEND : Hid (stsC F.f l nm v W = stsC F.f (l.drop (j + 1)) nmj r2.v r2.W) := by
                    show stsC F.f l nm v W = _
                    rw [HEQ.out, HST.out.2 h2e, hn1]
                    exact cr_ok rfl
                  go_wp2_with (go_at_call 28; first
                    | (refine (HY1.out wx HFX.out HCX.out HSX.out).mono ?_; rintro e wy ⟨rfl, hf, hc⟩; have HCY := hide (hc h2e); have HFY := hide (HFX.out.trans hf); have HSY := hide (HSX.out.keep hf HPt.out (fun k hk e => hk e)); clear hf hc)
                    | (refine HX1.out.mono ?_; rintro e wx ⟨rfl, hf, hc⟩; have HCX := hide (hc h1e); have HFX := hide (HFt.out.trans hf); have HSX := hide (HSt.out.keep hf HPt.out (fun k hk e => hk e)); obtain ⟨z0, z1, z2, z3, z4, zf, zl⟩ := HB5.out.fr hf (by show ¬ (WR.heap.size = cb ∨ WR.heap.size = wb); omega); clear hf hc zf))
                  refine ⟨⟨j + 1, nmj, r2.v, r2.W, na, nc, by omega, by go_num, rfl, by omega, by omega, HCY.out, HFY.out, HSY.out, HPt.out, HEND.out, by omega, by omega⟩, by simp [intOf]; omega⟩
                · have h2e1 := ne_bne h2e
                  have HEND : Hid ((stsC F.f l nm v W).e = r2.e) := by
                    show (stsC F.f l nm v W).e = _
                    rw [HEQ.out, cr_bad (by rw [HST.out.1 h2e]; exact h2e)]
                    exact HST.out.1 h2e
                  go_wp2_with (go_at_call 28; first
                    | (refine (HY1.out wx HFX.out HCX.out HSX.out).mono ?_; rintro e wy ⟨rfl, hf, hc⟩; have HFY := hide (HFX.out.trans hf); clear hf hc)
                    | (refine HX1.out.mono ?_; rintro e wx ⟨rfl, hf, hc⟩; have HCX := hide (hc h1e); have HFX := hide (HFt.out.trans hf); have HSX := hide (HSt.out.keep hf HPt.out (fun k hk e => hk e)); obtain ⟨z0, z1, z2, z3, z4, zf, zl⟩ := HB5.out.fr hf (by show ¬ (WR.heap.size = cb ∨ WR.heap.size = wb); omega); clear hf hc zf))
                  go_ret
                  exact ⟨by rw [HEND.out]; rfl, HFY.out, fun h0 => absurd (HEND.out.symm.trans h0) h2e⟩
              · have h1e1 := ne_bne h1e
                have HEND : Hid ((stsC F.f l nm v W).e = r1.e) := by
                  have h3 : stsC F.f x (stN1 nmj k t) (stV1 vj k) W2 = r1 := by rw [hn1, hv1]; exact hr1
                  have h4 := stC_then (F := F.f) (k := k) (t := t) (a := a) (x := x) (y := y) (nm := nmj) (v := vj) (W := Wj) HX0.out hse (by rw [h3]; exact h1e)
                  rw [h3] at h4
                  show (stsC F.f l nm v W).e = _
                  rw [HEQ.out, cr_bad (by rw [h4]; exact h1e)]
                  exact h4
                clear hr1 hvv1
                go_wp2_with (go_at_call 28; refine HX1.out.mono ?_; rintro e wx ⟨rfl, hf, hc⟩; have HFX := hide (HFt.out.trans hf); clear hf hc)
                go_ret
                exact ⟨by rw [HEND.out]; rfl, HFX.out, fun h0 => absurd (HEND.out.symm.trans h0) h1e⟩
    · have hja : j = l.length := by omega
      have HEND : Hid (stsC F.f l nm v W = ⟨0, nmj, vj, Wj⟩) := by
        show stsC F.f l nm v W = _
        rw [hEqj, hja, List.drop_length, stsC_nil]
      clear hja hEqj hR hCj hFj hSj hPj
      go_wp2
      go_ret
      rw [HEND.out]
      exact ⟨rfl, HFj.out, fun _ => HCj.out⟩
end Go.Proofs.YtkmdamljhagogaaDoor
end
section
/- The document's own check of statements: any of a text. -/
set_option maxHeartbeats 0
namespace Go.Proofs.YtkmdamljhagogaaDoor
open Go
theorem cstmts_any' : ∀ (n : Nat) (l : List St), stsN l ≤ n → (∀ s ∈ l, StSh s) → CSt l
  | 0, l, hn, hs => cstmts_step l fun k t a x y h => by
    have := stN_mem h; have := stN_pos (St.mk k t a x y); omega
  | n + 1, l, hn, hs => cstmts_step l fun k t a x y h => by
    have h1 := stN_mem h
    rw [stN] at h1
    cases hs _ h with
    | mk _ _ h3 h4 h5 h6 =>
      exact ⟨fun e he => cexpr_any e (h4 e he), cstmts_any' n x (by omega) h5, cstmts_any' n y (by omega) h6, h3⟩
theorem cstmts_any (l : List St) (hs : ∀ s ∈ l, StSh s) : CSt l := cstmts_any' _ l (Nat.le_refl _) hs
end Go.Proofs.YtkmdamljhagogaaDoor
end
