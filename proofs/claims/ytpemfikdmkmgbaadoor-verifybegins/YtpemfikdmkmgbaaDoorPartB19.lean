/- RStmts. -/
import Derived.Deep.DeepCutAuto
import Derived.Test.YtpemfikdmkmgbaaDoorPartB18
section
/- The document's own answer: code of statements: the walk. -/
set_option maxHeartbeats 0
set_option maxRecDepth 100000
namespace Go.Proofs.YtpemfikdmkmgbaaDoor
open Go Go.RowKit
theorem wpList_range_run {P : Program} {w : World} {ops : Array Oper} {rest : List Oper} {o : Oper} {a : Act} {Q : Exit → Act → World → Prop} (hg : o.guard = none) (m : Operand) (t : TypeId) (hop : o.op = Op.range t m) (p : Value) (hm : a.eval m = p) {v : Value} {w' : World} (hrun : (Instr.range t p).run P w = .ok v w') (h : wpList P ops Q rest (a.put o.dst v) w') : wpList P ops Q (o :: rest) a w := by
  refine wpList_plain hg fun K' hK' => ?_
  unfold Oper.wp
  simp [execOp, hop, hm, hrun, Result.andThen]
  exact hK' _ _ h
theorem rstmts_step (l : List Fn) (L : List St) (ih : ∀ k t a x y, St.mk k t a x y ∈ L → RSts l x ∧ RSts l y) : RSts l L := by
  intro c T v ws E nm ab sl rs w hK hFN hAT hS hP hE hU hV hW hN hSh hKd
  obtain ⟨hln, hlm⟩ := sl_len hS
  obtain ⟨la, ln, lc⟩ := sl
  simp only at hln
  rw [hE.1] at hln
  subst hln
  have hll : L.length ≤ 9223372036854775807 := by have := hE.1; omega
  obtain ⟨A, a1, a2, a3⟩ := hAT.m
  have hF1 : Fr nothing w (w.alloc (.cells #[.slice none 0 0] 52)) := (Fr.refl _ _).alloc _
  have hF2 : Fr nothing w ((w.alloc (.cells #[.slice none 0 0] 52)).alloc (.map #[] 0)) := hF1.alloc _
  have hsz : (w.alloc (.cells #[.slice none 0 0] 52)).heap.size = w.heap.size + 1 := by simp
  have hmk := SI.made (w.alloc (.cells #[.slice none 0 0] 52))
  rw [hsz] at hmk
  have hoc := made_cells (cs := #[.slice none 0 0]) (t := 52) (w := w) ((Fr.refl nothing (w.alloc (.cells #[.slice none 0 0] 52))).alloc (.map #[] 0)) id
  obtain ⟨w3, hrg, hCp, hF3, hs3⟩ := Cp.start (a1.fr hF2 id) _ hmk
  have hab : ab < w.heap.size := hAT.lt
  have hmm := @run_makeMap Tryd.prog
  have hs2 : ((w.alloc (.cells #[.slice none 0 0] 52)).alloc (.map #[] 0)).heap.size = w.heap.size + 2 := by simp
  rw [hs2] at hrg hCp
  have HF23 := hide (hF2.trans hF3)
  have HOC := hide (And.intro ((hF3.cell (p := ⟨w.heap.size, 0, none⟩) hoc.2.2 id).trans (hoc.1 0)) ((hF3.frozen (p := ⟨w.heap.size, 0, none⟩) hoc.2.2 id).trans (hoc.2.1 0)))
  have HCP := hide hCp
  have HK := hide hK
  have HFN := hide hFN
  have HAT := hide hAT
  have HA2 := hide a2
  have HS := hide hS
  have HP := hide hP
  have HE := hide hE
  have HU := hide hU
  have HSH := hide hSh
  have HKD := hide hKd
  clear hF1 hF2 hsz hmk hoc hCp hF3 hs3 hK hFN hAT a1 a2 hS hP hE hU hSh hKd
  go_enter Tryd.func47, Tryd.ntmps47
  go_wp2_with (at_range; go_must (refine wpList_range_run rfl _ _ rfl _ rfl hrg ?_))
  go_frame
  go_loopw [9, 10] (fun _ _ wr => Hid (Cp ab (w.heap.size + 1) (w.heap.size + 2) A wr ∧ Fr (fun k => k = w.heap.size + 2 ∨ k = w.heap.size + 1) w3 wr)) (fun _ _ wr => wr.rangeLeft ab (w.heap.size + 2))
  case atStart => exact ⟨HCP.out, Fr.refl _ _⟩
  case round =>
    obtain ⟨hC, hF⟩ := hrel.out
    rcases hC.step 0 (by omega) (by omega) (by omega) with ⟨hn, B, hB, hBf, hBn⟩ | ⟨x, cc, w1, w2, hn, hen, hup, hC2, hF2, hlt⟩
    · have hF3 : Fr nothing w wr := HF23.out.then hF (fun k hk e => by omega)
      have ho := (hF.cell (p := ⟨w.heap.size, 0, none⟩) (lt_of_cell HOC.out.1) (by show ¬ (w.heap.size = w.heap.size + 2 ∨ w.heap.size = w.heap.size + 1); omega)).trans HOC.out.1
      have hoz := (hF.frozen (p := ⟨w.heap.size, 0, none⟩) (lt_of_cell HOC.out.1) (by show ¬ (w.heap.size = w.heap.size + 2 ∨ w.heap.size = w.heap.size + 1); omega)).trans HOC.out.2
      have hG0 : SG c T w w.heap.size (w.heap.size + 1) ⟨[], E, v, ws⟩ nm T nilS wr := by
        refine ⟨.of_new HK.out hF3, HK.out.fl, ho, hoz, OwnI.nil _ _, ⟨⟨B, hB, fun u hu => by rw [hBf]; exact HA2.out u hu, Nat.le_trans hBn a3⟩, fun e => by have := HK.out.tl _ e; omega⟩, fun e => by have := HK.out.tl _ e; omega, ⟨Nat.le_refl _, by omega, by omega⟩, fun b hb => by cases hb⟩
      have HG0 := hide hG0
      have hol := hG0.ol
      clear hC hF hB hBf hBn hF3 ho hoz hG0 hrel
      go_wp2_with (at_next; go_must (refine wpList_next_run rfl _ rfl _ rfl hn ?_))
      obtain ⟨ob, hob⟩ : ∃ x, x = w.heap.size := ⟨_, rfl⟩
      obtain ⟨ib, hib⟩ : ∃ x, x = w.heap.size + 1 := ⟨_, rfl⟩
      rw [← hib, ← hob] at HG0
      rw [← hib]
      rw [← hob]
      have hob' : w.heap.size + 2 = ob + 2 := by rw [hob]
      clear hob hib hob'
      go_loopw [35, 12, 13, 15, 16, 17, 18, 19, 20, 21] (fun i _ _ _ _ _ _ _ _ _ wv => ∃ (j : Nat), j ≤ L.length ∧ i = .int .i64 j ∧ Hid (∃ T' q nmj, SG c T w ob ib (stsK (gOf l) (L.take j) E v ws 0) nmj T' q wv ∧ stsU (HasN l) (L.drop j) nmj)) (fun i _ _ _ _ _ _ _ _ _ _ => L.length - (intOf i).toNat)
      case atStart => exact ⟨0, Nat.zero_le _, rfl, T, nilS, nm, HG0.out, HU.out⟩
      case round =>
        obtain ⟨j, hj, rfl, hR⟩ := hrel
        by_cases hjl : j < L.length
        · have hx : L[j]? = some L[j] := List.getElem?_eq_getElem hjl
          have hr : rs[j]? = some (rs[j]'(by rw [HE.out.1]; omega)) := List.getElem?_eq_getElem _
          have hxm : L[j] ∈ L := List.getElem_mem hjl
          have hdr : L.drop j = L[j] :: L.drop (j + 1) := List.drop_eq_getElem_cons hjl
          have htk : L.take (j + 1) = L.take j ++ [L[j]] := (List.take_append_getElem hjl).symm
          have htn := stsN_take_le L j hjl
          generalize rs[j]'(by rw [HE.out.1]; omega) = r at hr
          generalize L[j] = st at hx hxm hdr htk htn
          have hok := HE.out.2 j r st hr hx
          obtain ⟨g, o, hg, dg, p0, p1, p2, p3, p4⟩ := sl_elem5 (s := ⟨la, L.length, lc⟩) HS.out hr
          simp only at hg
          subst hg
          obtain ⟨T', q, nmj, hG, hUj⟩ := hR.out
          have hFj := hG.rp.2.1
          have hgT := (HP.out g rfl).1
          rw [← hFj.cell (p := ⟨g, _, none⟩) dg hgT] at p0 p1 p2 p3 p4
          have eg : g < wr.heap.size := Nat.lt_of_lt_of_le dg hFj.size
          have hle := stsK_le (gOf l) (L.take j) E v ws 0
          obtain ⟨R, hRR⟩ : ∃ R, R = stsK (gOf l) (L.take j) E v ws 0 := ⟨_, rfl⟩
          rw [← hRR] at hG hle
          cases hok with
          | mk k t sa sx sy ra rx ry a x y ha hPa ha2 hsx hPx hx1 hx2 hsy hPy hyl hy2 =>
          obtain ⟨ihX, ihY⟩ := ih k t a x y hxm
          obtain ⟨hsan, hsam⟩ := sl_len ha
          simp only at p0 p1 p2 p3 p4
          rw [stN] at htn
          obtain ⟨hSh1, hSh2, htl, hSh4, hSh5, hSh6⟩ : (k ≠ 3 → k ≠ 4 → x = []) ∧ (k ≠ 3 → y = []) ∧ t.length ≤ 1500 ∧ (∀ e ∈ a, ExSh e) ∧ (∀ s ∈ x, StSh s) ∧ (∀ s ∈ y, StSh s) := by
            cases HSH.out _ hxm with
            | mk h1 h2 h3 h4 h5 h6 => exact ⟨h1, h2, h3, h4, h5, h6⟩
          have hKe := stsKe_mem HKD.out _ hxm
          rw [stKe] at hKe
          rw [hdr, stsU] at hUj
          obtain ⟨hU1, hU2⟩ := hUj
          rw [stU] at hU1
          obtain ⟨aa, an, ac⟩ := sa
          simp only at hsan
          rw [ha2.1] at hsan
          subst hsan
          have hal : a.length ≤ 9223372036854775807 := by have := ha2.1; omega
          have hSA := hG.begin (vs := [.int .i64 k, .string (bs t), .slice aa a.length ac, .slice sx.a sx.n sx.c, .slice sy.a sy.n sy.c]) (so ⟨k, t, ⟨aa, a.length, ac⟩, sx, sy⟩) ⟨_, _, rfl, rfl⟩ 52 rfl
          have HSA := hide hSA
          have HHA := hide (And.intro ha (And.intro hPa ha2))
          have HHX := hide (And.intro hsx (And.intro hPx (show Each (StOk w (ap T w)) rx x from ⟨hx1, hx2⟩)))
          have HHY := hide (And.intro hsy (And.intro hPy (show Each (StOk w (ap T w)) ry y from ⟨hyl, hy2⟩)))
          have HKE := hide hKe
          have HU1 := hide hU1
          have HU2 := hide hU2
          have HSX := hide (And.intro hSh1 (And.intro hSh2 (And.intro hSh4 (And.intro hSh5 hSh6))))
          have HRR := hide hRR
          have s2 := hSA.s 2 _ rfl
          have ssl := hSA.sl
          have l1 := hle.i
          have l2 := hle.v
          have l3 := hle.w
          clear hR hG hFj hle hSA ha hPa ha2 hsx hPx hx1 hx2 hsy hPy hyl hy2 hKe hU1 hU2 hSh1 hSh2 hSh4 hSh5 hSh6 hRR hr hx hgT
          go_wp2_with fail
          generalize hw5 : (wr.alloc (so ⟨k, t, ⟨aa, a.length, ac⟩, sx, sy⟩)).alloc (.cells #[.slice none 0 0] 52) = w5 at *
          clear hw5
          obtain ⟨gb, hgb⟩ : ∃ x, x = wr.heap.size + 1 := ⟨_, rfl⟩
          obtain ⟨sb, hsb⟩ : ∃ x, x = wr.heap.size := ⟨_, rfl⟩
          rw [← hgb, ← hsb] at HSA
          rw [← hsb] at s2 ssl
          rw [← hgb]
          rw [← hsb]
          clear hgb hsb p0 p1 p2 p3 p4
          go_loopw [42, 15] (fun i _ wv => ∃ (j2 : Nat) (T2 : Nat → Prop) (qa : Slc), j2 ≤ a.length ∧ i = .int .i64 j2 ∧ Hid (SA c T w ob ib gb sb { R with ws := (exsK (gOf l) R.E (a.take j2) R.ws).ws } nmj T2 q qa (exsK (gOf l) R.E (a.take j2) R.ws).ins [.int .i64 k, .string (bs t), .slice aa a.length ac, .slice sx.a sx.n sx.c, .slice sy.a sy.n sy.c] wv)) (fun i _ _ => a.length - (intOf i).toNat)
          case atStart => exact ⟨0, T', nilS, Nat.zero_le _, rfl, HSA.out⟩
          case round =>
            obtain ⟨j2, T2, qa, hj2, rfl, hR⟩ := hrel
            by_cases hj2l : j2 < a.length
            · have hx : a[j2]? = some a[j2] := List.getElem?_eq_getElem hj2l
              have hr : ra[j2]? = some (ra[j2]'(by rw [HHA.out.2.2.1]; omega)) := List.getElem?_eq_getElem _
              have hxm2 : a[j2] ∈ a := List.getElem_mem hj2l
              have htk2 : a.take (j2 + 1) = a.take j2 ++ [a[j2]] := (List.take_append_getElem hj2l).symm
              have htn2 := exsN_take_le a j2 hj2l
              generalize ra[j2]'(by rw [HHA.out.2.2.1]; omega) = r at hr
              generalize a[j2] = xx at hx hxm2 htk2 htn2
              have hok := HHA.out.2.2.2 j2 r xx hr hx
              obtain ⟨g2, o2, hg2, -, dg2, u0, u1, u2, u3⟩ := sl_elem4 (s := ⟨aa, a.length, ac⟩) HHA.out.1 hr
              simp only at hg2
              subst hg2
              have hSA := hR.out
              have hF2 := hSA.g.rp.2.1
              rw [← hF2.cell (p := ⟨g2, _, none⟩) dg2 (HHA.out.2.1 g2 rfl).1] at u0 u1 u2 u3
              have eg2 : g2 < wr.heap.size := Nat.lt_of_lt_of_le dg2 hF2.size
              have hFB : Fr nothing wr (wr.alloc (eo r)).drew := ((Fr.refl nothing wr).alloc _).drew
              have hok2 : ExOk (wr.alloc (eo r)).drew (ap T2 (wr.alloc (eo r)).drew) r xx := ex_stays _ _ nothing _ _ _ _ (ex_stays _ _ T _ _ _ _ hok hF2 (fun k hk => hk.1) (ap_next hF2 hSA.g.rp.2.2)) hFB (fun _ _ => id) (fun k hk => ⟨hk.1, Nat.lt_of_lt_of_le hk.2 hFB.size⟩)
              have hSB := hSA.new hFB
              have hwl := exsK_ws (gOf l) R.E (a.take j2) R.ws
              have HIH := hide (rexpr_any l xx c T2 R.v (exsK (gOf l) R.E (a.take j2) R.ws).ws R.E nmj ib r (wr.alloc (eo r)).drew hSB.g.rp.1 HFN.out hSB.g.a.ok hok2 (exsU_mem HU1.out.1 xx hxm2) (by omega) (by omega) (HSX.out.2.2.1 xx hxm2) (exsKd_mem HKE.out.2.2.1 xx hxm2))
              have hm := made_cells (cs := #[.int .i64 r.k, .int .i64 r.n, .string (bs r.t), .slice r.s.a r.s.n r.s.c]) (t := 131) (w := wr) ((Fr.refl nothing (wr.alloc (eo r))).drew) id
              have hgc := hSB.gc
              have hgl := hSB.gl
              have HHM := hide hm
              have HFB := hide hFB
              have HSA2 := hide hSA
              clear hR hSA hF2 hok hok2 hFB hSB hr hx hwl
              obtain ⟨rk, rn, rt, ⟨ea, en, ec⟩⟩ := r
              obtain ⟨qx, qn, qc⟩ := qa
              simp only at u0 u1 u2 u3
              replace hgc : (wr.alloc (eo ⟨rk, rn, rt, ⟨ea, en, ec⟩⟩)).drew.cell? ⟨gb, 0, none⟩ = some (.slice qx qn qc) := hgc
              go_wp2_with fail
              have m0 := HHM.out.1 0
              have m1 := HHM.out.1 1
              have m2 := HHM.out.1 2
              have m3 := HHM.out.1 3
              have ml := HHM.out.2.2
              obtain ⟨eb, heb⟩ : ∃ x, x = wr.heap.size := ⟨_, rfl⟩
              rw [← heb] at m0 m1 m2 m3 ml
              rw [← heb]
              generalize hwz : wr.alloc (eo ⟨rk, rn, rt, ⟨ea, en, ec⟩⟩) = wz at *
              have hebT : ¬ T2 eb := fun e => by have := HSA2.out.g.rp.1.tl _ e; omega
              have hebq : ¬ (Value.slice qx qn qc).ownBlock = some eb := fun e => by have := (HSA2.out.ga.lt e).2; omega
              clear hwz heb
              refine wp_region_T (S := fun w' => w'.cell? ⟨gb, 0, none⟩ = some (.slice qx qn qc) ∧ w'.cell? ⟨eb, 0, none⟩ = some (.int .i64 rk) ∧ w'.cell? ⟨eb, 1, none⟩ = some (.int .i64 rn) ∧ w'.cell? ⟨eb, 2, none⟩ = some (.string (bs rt)) ∧ w'.cell? ⟨eb, 3, none⟩ = some (.slice ea en ec)) (by kernel_rfl) [6] ?_ (fun hHeld => ?_)
              · exact ⟨hgc, m0, m1, m2, m3⟩
              refine wpAnyT_take (i := 0) (oi := { dst := some 46, op := Op.load 52 (Operand.tmp 13), type := 52, pos := "ref.go:697", after := #[], guard := none }) (v := ?v1) rfl (by kernel_rfl) (by kernel_rfl) (by kernel_rfl) (by kernel_rfl) (by kernel_rfl) (fun _ _ _ h => h) (Or.inl ⟨by rfl, ?hy1⟩) (by assumption) ?rest1
              case hy1 => (intro w hSw; (try dsimp only at hSw); obtain ⟨hS1, hS2, hS3, hS4, hS5⟩ := hSw; go_simp; try with_reducible rfl)
              try simp only [Act.put, List.setIfInBounds_toArray, List.set_cons_zero, List.set_cons_succ]
              refine wpAnyT_take (i := 1) (oi := { dst := some 47, op := Op.move (Operand.tmp 0), type := 116, pos := "ref.go:697", after := #[], guard := none }) (v := ?v2) rfl (by kernel_rfl) (by kernel_rfl) (by kernel_rfl) (by kernel_rfl) (by kernel_rfl) (fun _ _ _ h => h) (Or.inl ⟨by rfl, ?hy2⟩) (by assumption) ?rest2
              case hy2 => (intro w hSw; (try dsimp only at hSw); obtain ⟨hS1, hS2, hS3, hS4, hS5⟩ := hSw; go_simp; try with_reducible rfl)
              try simp only [Act.put, List.setIfInBounds_toArray, List.set_cons_zero, List.set_cons_succ]
              refine wpAnyT_take (i := 2) (oi := { dst := some 48, op := Op.load 131 (Operand.tmp 15), type := 131, pos := "ref.go:697", after := #[], guard := none }) (v := ?v3) rfl (by kernel_rfl) (by kernel_rfl) (by kernel_rfl) (by kernel_rfl) (by kernel_rfl) (fun _ _ _ h => h) (Or.inl ⟨by rfl, ?hy3⟩) (by assumption) ?rest3
              case hy3 => (intro w hSw; (try dsimp only at hSw); obtain ⟨hS1, hS2, hS3, hS4, hS5⟩ := hSw; go_simp; try with_reducible rfl)
              try simp only [Act.put, List.setIfInBounds_toArray, List.set_cons_zero, List.set_cons_succ]
              refine wpAnyT_take (i := 3) (oi := { dst := some 49, op := Op.move (Operand.tmp 8), type := 119, pos := "ref.go:697", after := #[], guard := none }) (v := ?v4) rfl (by kernel_rfl) (by kernel_rfl) (by kernel_rfl) (by kernel_rfl) (by kernel_rfl) (fun _ _ _ h => h) (Or.inl ⟨by rfl, ?hy4⟩) (by assumption) ?rest4
              case hy4 => (intro w hSw; (try dsimp only at hSw); obtain ⟨hS1, hS2, hS3, hS4, hS5⟩ := hSw; go_simp; try with_reducible rfl)
              try simp only [Act.put, List.setIfInBounds_toArray, List.set_cons_zero, List.set_cons_succ]
              refine wpAnyT_ready (rs := [4]) (by kernel_rfl) (by simp) ?_
              refine AllReadyT.cons (o := { dst := some 50, op := Op.call { callee := Callee.value (Operand.func 59), args := #[Operand.tmp 47, Operand.tmp 48, Operand.tmp 49], argTypes := #[116, 131, 119] }, type := 52, pos := "ref.go:697", after := #[{ on := 1, ground := Ground.data }, { on := 2, ground := Ground.data }, { on := 3, ground := Ground.data }], guard := none }) rfl (fun K hK => ?_) AllReadyT.nil
              refine step_call (by rfl) 59 Tryd.f59 #[.tmp 47, .tmp 48, .tmp 49] #[116, 131, 119] rfl Tryd.func59 (by kernel_rfl) (by kernel_rfl) #[.pointer (some ⟨c.mb, 0, none⟩), ev ⟨rk, rn, rt, ⟨ea, en, ec⟩⟩, .map (some ib)] (by simp [Act.eval, ev]) _ HIH.out ?_
              rintro e w6 ⟨q3, T3, rfl, hO3, hR3, hq3⟩
              refine ⟨_, rfl, ?_⟩
              have hS6 := HSA2.out.call HFB.out hR3 (Nat.le_refl _)
              have hl1 := exsK_len (gOf l) R.E (a.take j2) R.ws
              have hl2 := exK_len (gOf l) R.E xx (exsK (gOf l) R.E (a.take j2) R.ws).ws
              obtain ⟨q4, w7, hrun, hF7, hS7⟩ := hS6.put hO3.sl (by omega)
              have g6 := hS6.gc
              have gz6 := hS6.gz
              have gl6 := hS6.gl
              have n0 := (hR3.2.1.cell (p := ⟨eb, 0, none⟩) ml hebT).trans m0
              have n1 := (hR3.2.1.cell (p := ⟨eb, 1, none⟩) ml hebT).trans m1
              have n2 := (hR3.2.1.cell (p := ⟨eb, 2, none⟩) ml hebT).trans m2
              have n3 := (hR3.2.1.cell (p := ⟨eb, 3, none⟩) ml hebT).trans m3
              have nl := Nat.lt_of_lt_of_le ml hR3.2.1.size
              have hgq : ¬ (Slc.v ⟨qx, qn, qc⟩).ownBlock = some gb := fun e => (hS6.qt _ e).2.2.2.1 rfl
              have HS7 := hide hS7
              refine hK.out _ _ ⟨g6, n0, n1, n2, n3⟩ ?_
              clear hK K hHeld
              try simp only [Act.put, List.setIfInBounds_toArray, List.set_cons_zero, List.set_cons_succ]
              refine wpAnyT_ready (rs := [5]) (by kernel_rfl) (by simp) ?_
              refine AllReadyT.cons (o := { dst := some 51, op := Op.call { callee := Callee.builtin Builtin.append, args := #[Operand.tmp 46, Operand.tmp 50], argTypes := #[52, 52] }, type := 52, pos := "ref.go:697", after := #[{ on := 0, ground := Ground.data }, { on := 4, ground := Ground.data }, { on := 4, ground := Ground.chain }], guard := none }) rfl (fun K hK => ?_) AllReadyT.nil
              refine step_run rfl _ _ 52 rfl _ _ (by simp [Act.eval]) (by simp [Act.eval]) hrun ?_
              have g7 := (hF7.cell (p := ⟨gb, 0, none⟩) gl6 hgq).trans g6
              have gz7 := (hF7.frozen (p := ⟨gb, 0, none⟩) gl6 hgq).trans gz6
              have gl7 := Nat.lt_of_lt_of_le gl6 hF7.size
              have o0 := (hF7.cell (p := ⟨eb, 0, none⟩) nl hebq).trans n0
              have o1 := (hF7.cell (p := ⟨eb, 1, none⟩) nl hebq).trans n1
              have o2 := (hF7.cell (p := ⟨eb, 2, none⟩) nl hebq).trans n2
              have o3 := (hF7.cell (p := ⟨eb, 3, none⟩) nl hebq).trans n3
              refine hK.out _ _ ⟨g7, o0, o1, o2, o3⟩ ?_
              clear hK K hrun hS6 hS7 hO3 hR3 hq3 hF7
              try simp only [Act.put, List.setIfInBounds_toArray, List.set_cons_zero, List.set_cons_succ]
              refine wpAnyT_ready (rs := [6]) (by kernel_rfl) (by simp) ?_
              refine AllReadyT.last (o := { dst := none, op := Op.store 52 (Operand.tmp 13) (Operand.tmp 51), type := 0, pos := "ref.go:697", after := #[{ on := 5, ground := Ground.data }, { on := 5, ground := Ground.chain }, { on := 0, ground := Ground.phase }, { on := 1, ground := Ground.phase }, { on := 2, ground := Ground.phase }, { on := 3, ground := Ground.phase }, { on := 4, ground := Ground.phase }, { on := 5, ground := Ground.phase }], guard := none }) rfl (by kernel_rfl) (fun K hK => ?_) AllReadyT.nil
              go_simp
              refine hK.out _ _ ?_
              clear hK K
              try simp only [Act.put, List.setIfInBounds_toArray, List.set_cons_zero, List.set_cons_succ]
              refine wpAny_done (by kernel_rfl) ?_ _
              clear n0 n1 n2 n3 o0 o1 o2 o3 m0 m1 m2 m3 g6 g7 gz6 gz7 gl6 gl7
              go_wp2_with fail
              go_roundw
              case rel =>
                refine ⟨j2 + 1, T3, q4, by omega, by go_num, ?_⟩
                rw [htk2, exsK_snoc]
                exact HS7
              case measure => simp [intOf]; omega
            · have hje2 : j2 = a.length := by omega
              have hSA := hR.out
              rw [hje2, List.take_length] at hSA
              obtain ⟨AX, hAX⟩ : ∃ AX, AX = exsK (gOf l) R.E a R.ws := ⟨_, rfl⟩
              rw [← hAX] at hSA
              have hno : NoJ AX.ins := by rw [hAX]; exact exsK_no _ _ _ _
              have hlen : AX.ins.length ≤ exsN a := by rw [hAX, exsK_len]; exact Nat.le_refl _
              have hwsl : AX.ws.length ≤ R.ws.length + exsN a := by rw [hAX]; exact exsK_ws _ _ _ _
              have hsn := stsK_snoc (gOf l) (.mk k t a x y) (L.take j) E v ws 0 R _ HRR.out.symm rfl
              rw [← htk] at hsn
              have HSN := hide hsn
              have s0 := hSA.s 0 _ rfl
              have s1 := hSA.s 1 _ rfl
              have s3 := hSA.s 3 _ rfl
              have s4 := hSA.s 4 _ rfl
              have ssl2 := hSA.sl
              have HS := hide hSA
              have HAX := hide hAX
              clear hR hSA hje2 hsn hAX hrg hn
              by_cases k1 : k = 1
              · subst k1
                have hS2 := HS.out.new (Fr.refl nothing wr).drew
                obtain ⟨w1, hup, hF1, hc2, hz2, hml, hS3⟩ := hS2.let_ t htl (by show R.v ≤ _; omega)
                simp only at hup hc2 hS3
                have hmc := hS2.g.rp.1.c2
                have hmz := hS2.g.rp.1.ml
                simp only at hmc
                have t1 := (hF1.cell (p := ⟨sb, 1, none⟩) hS2.sl hS2.sn.2.2.1).trans (hS2.s 1 _ rfl)
                have tl1 := Nat.lt_of_lt_of_le hS2.sl hF1.size
                have hlk := hS3.g.a.look (t := t) (by simp) htl
                simp only [upd, if_true] at hlk
                have t3 := hS3.s 1 _ rfl
                have tl3 := hS3.sl
                have hONE := hS3.one 4 (R.v : Nat) (by decide) hno (by show R.ins.length ≤ _; omega) (by omega)
                have HONE := hide hONE
                have hnmN : stsU (HasN l) (L.drop (j + 1)) (nmj ++ [t]) := by
                  have := HU2.out
                  unfold stN1 at this
                  simpa using this
                have HNM := hide hnmN
                rw [stK_let HAX.out.symm] at HSN
                have hv1 : ((R.v + 1 : Nat) : Int) = (R.v : Nat) + 1 := by omega
                rw [hv1] at hlk t3 tl3 HONE
                have hr1 : -9223372036854775808 ≤ ((R.v : Nat) : Int) + 1 := by omega
                have hr2 : ((R.v : Nat) : Int) + 1 ≤ 9223372036854775807 := by omega
                clear hS2 hS3 hF1 hONE hnmN hv1
                go_wp2_with fail
                refine wp_region_T (S := fun w' => w'.cell? ⟨sb, 1, none⟩ = some (.string (bs t)) ∧ w'.cell? ⟨c.mb, 2, none⟩ = some (.int .i64 (R.v : Nat))) (by kernel_rfl) [7] ?_ (fun hHeld => ?_)
                · exact ⟨s1, hmc⟩
                refine wpAnyT_take (i := 0) (oi := { dst := some 65, op := Op.move (Operand.tmp 8), type := 119, pos := "ref.go:702", after := #[], guard := none }) (v := ?v5) rfl (by kernel_rfl) (by kernel_rfl) (by kernel_rfl) (by kernel_rfl) (by kernel_rfl) (fun _ _ _ h => h) (Or.inl ⟨by rfl, ?hy5⟩) (by assumption) ?rest5
                case hy5 => (intro w hSw; (try dsimp only at hSw); obtain ⟨hS1, hS2⟩ := hSw; go_simp; try with_reducible rfl)
                try simp only [Act.put, List.setIfInBounds_toArray, List.set_cons_zero, List.set_cons_succ]
                refine wpAnyT_take (i := 1) (oi := { dst := some 66, op := Op.fieldAddr 128 (Operand.tmp 12) 1, type := 0, pos := "ref.go:702", after := #[], guard := none }) (v := ?v6) rfl (by kernel_rfl) (by kernel_rfl) (by kernel_rfl) (by kernel_rfl) (by kernel_rfl) (fun _ _ _ h => h) (Or.inl ⟨by rfl, ?hy6⟩) (by assumption) ?rest6
                case hy6 => (intro w hSw; (try dsimp only at hSw); obtain ⟨hS1, hS2⟩ := hSw; go_simp; try with_reducible rfl)
                try simp only [Act.put, List.setIfInBounds_toArray, List.set_cons_zero, List.set_cons_succ]
                refine wpAnyT_take (i := 2) (oi := { dst := some 67, op := Op.load 9 (Operand.tmp 66), type := 9, pos := "ref.go:702", after := #[{ on := 1, ground := Ground.data }], guard := none }) (v := ?v7) rfl (by kernel_rfl) (by kernel_rfl) (by kernel_rfl) (by kernel_rfl) (by kernel_rfl) (fun _ _ _ h => h) (Or.inl ⟨by rfl, ?hy7⟩) (by assumption) ?rest7
                case hy7 => (intro w hSw; (try dsimp only at hSw); obtain ⟨hS1, hS2⟩ := hSw; go_simp; try with_reducible rfl)
                try simp only [Act.put, List.setIfInBounds_toArray, List.set_cons_zero, List.set_cons_succ]
                refine wpAnyT_take (i := 3) (oi := { dst := some 68, op := Op.move (Operand.tmp 0), type := 116, pos := "ref.go:702", after := #[], guard := none }) (v := ?v8) rfl (by kernel_rfl) (by kernel_rfl) (by kernel_rfl) (by kernel_rfl) (by kernel_rfl) (fun _ _ _ h => h) (Or.inl ⟨by rfl, ?hy8⟩) (by assumption) ?rest8
                case hy8 => (intro w hSw; (try dsimp only at hSw); obtain ⟨hS1, hS2⟩ := hSw; go_simp; try with_reducible rfl)
                try simp only [Act.put, List.setIfInBounds_toArray, List.set_cons_zero, List.set_cons_succ]
                refine wpAnyT_ready (rs := [4]) (by kernel_rfl) (by simp) ?_
                refine AllReadyT.cons (o := { dst := some 69, op := Op.nilCheck (Operand.tmp 68), type := 0, pos := "ref.go:702", after := #[{ on := 3, ground := Ground.data }], guard := none }) rfl (fun K hK => ?_) AllReadyT.nil
                go_simp
                refine hK.out _ _ hHeld ?_
                clear hK K
                try simp only [Act.put, List.setIfInBounds_toArray, List.set_cons_zero, List.set_cons_succ]
                refine wpAnyT_take (i := 5) (oi := { dst := some 70, op := Op.fieldAddr 118 (Operand.tmp 69) 2, type := 0, pos := "ref.go:702", after := #[{ on := 4, ground := Ground.data }], guard := none }) (v := ?v9) rfl (by kernel_rfl) (by kernel_rfl) (by kernel_rfl) (by kernel_rfl) (by kernel_rfl) (fun _ _ _ h => h) (Or.inl ⟨by rfl, ?hy9⟩) (by assumption) ?rest9
                case hy9 => (intro w hSw; (try dsimp only at hSw); obtain ⟨hS1, hS2⟩ := hSw; go_simp; try with_reducible rfl)
                try simp only [Act.put, List.setIfInBounds_toArray, List.set_cons_zero, List.set_cons_succ]
                refine wpAnyT_take (i := 6) (oi := { dst := some 71, op := Op.load 3 (Operand.tmp 70), type := 3, pos := "ref.go:702", after := #[{ on := 5, ground := Ground.data }], guard := none }) (v := ?v10) rfl (by kernel_rfl) (by kernel_rfl) (by kernel_rfl) (by kernel_rfl) (by kernel_rfl) (fun _ _ _ h => h) (Or.inl ⟨by rfl, ?hy10⟩) (by assumption) ?rest10
                case hy10 => (intro w hSw; (try dsimp only at hSw); obtain ⟨hS1, hS2⟩ := hSw; go_simp; try with_reducible rfl)
                try simp only [Act.put, List.setIfInBounds_toArray, List.set_cons_zero, List.set_cons_succ]
                refine wpAnyT_ready (rs := [7]) (by kernel_rfl) (by simp) ?_
                refine AllReadyT.last (o := { dst := none, op := Op.mapUpdate 119 (Operand.tmp 65) (Operand.tmp 67) (Operand.tmp 71), type := 0, pos := "ref.go:702", after := #[{ on := 0, ground := Ground.data }, { on := 2, ground := Ground.data }, { on := 6, ground := Ground.data }, { on := 0, ground := Ground.phase }, { on := 1, ground := Ground.phase }, { on := 2, ground := Ground.phase }, { on := 3, ground := Ground.phase }, { on := 4, ground := Ground.phase }, { on := 5, ground := Ground.phase }, { on := 6, ground := Ground.phase }], guard := none }) rfl (by kernel_rfl) (fun K hK => ?_) AllReadyT.nil
                go_simp
                refine hK.out _ _ ?_
                clear hK K
                try simp only [Act.put, List.setIfInBounds_toArray, List.set_cons_zero, List.set_cons_succ]
                refine wpAny_done (by kernel_rfl) ?_ _
                clear hHeld
                go_wp2_with (go_at_call 60; refine HONE.out.mono ?_; rintro e w6 ⟨rfl, q', hG6⟩; have HG6 := hide hG6; clear hG6)
                go_roundw
                case rel =>
                  refine ⟨j + 1, by omega, by go_num, T2, q', nmj ++ [t], ?_, HNM.out⟩
                  rw [HSN.out]
                  exact HG6.out
                case measure => simp [intOf]; omega
              by_cases k2 : k = 2
              · subst k2
                have hmem := HU1.out.2.2.1 rfl
                have hlk := HS.out.g.a.look hmem htl
                simp only at hlk
                have HONE := hide (HS.out.one 4 (R.E t) (by decide) hno (by show R.ins.length ≤ _; omega) (by omega))
                have hnmN : stsU (HasN l) (L.drop (j + 1)) nmj := by
                  have := HU2.out
                  unfold stN1 at this
                  simpa using this
                have HNM := hide hnmN
                rw [stK_set HAX.out.symm] at HSN
                clear hnmN hmem k1
                go_wp2_with (go_at_call 60; refine HONE.out.mono ?_; rintro e w6 ⟨rfl, q', hG6⟩; have HG6 := hide hG6; clear hG6)
                go_roundw
                case rel =>
                  refine ⟨j + 1, by omega, by go_num, T2, q', nmj, ?_, HNM.out⟩
                  rw [HSN.out]
                  exact HG6.out
                case measure => simp [intOf]; omega
              have hnmN : stsU (HasN l) (L.drop (j + 1)) nmj := by
                have := HU2.out
                unfold stN1 at this
                simpa [k1] using this
              have HNM := hide hnmN
              clear hnmN
              by_cases k3 : k = 3
              · subst k3
                obtain ⟨hUx, hUy⟩ : stsU (HasN l) x nmj ∧ stsU (HasN l) y nmj := by
                  have := HU1.out.2.2.2
                  unfold stN1 at this
                  simpa using this
                have hS0 := HS.out.new (Fr.refl nothing wr).drew
                have hF0 := hS0.g.rp.2.1
                have hT0 := hS0.g.rp.2.2
                have hnx := ap_next hF0 hT0
                obtain ⟨hX1, hX2, hX3⟩ := HHX.out
                obtain ⟨X, hX⟩ : ∃ X, X = stsK (gOf l) x R.E R.v AX.ws 0 := ⟨_, rfl⟩
                have HIX := hide (ihX c T2 R.v AX.ws R.E nmj ib sx rx wr.drew hS0.g.rp.1 HFN.out hS0.g.a (hX1.keep hF0 hX2 (fun k hk => hk.1)) (fun k hk => hnx k (hX2 k hk)) ⟨hX3.1, fun i r z h1 h2 => st_stays _ _ _ _ _ _ _ (hX3.2 i r z h1 h2) hF0 (fun k hk => hk.1) hnx⟩ hUx (by omega) (by omega) (by omega) HSX.out.2.2.2.1 HKE.out.2.2.2.1)
                rw [← hX] at HIX
                have hle2 := stsK_le (gOf l) x R.E R.v AX.ws 0
                rw [← hX] at hle2
                have hvX : R.v ≤ X.v := by rw [hX]; exact stsK_v _ _ _ _ _ _
                have hlX := hle2.i
                have hlXv := hle2.v
                have hlXw := hle2.w
                have HX := hide hX
                have HUY := hide hUy
                clear hUx hUy hF0 hT0 hnx hX1 hX2 hX3 hX k1 k2 hle2 hS0
                go_wp2_with fail
                refine wp_region_held_drew (S := fun w' => w'.cell? ⟨sb, 3, none⟩ = some (.slice sx.a sx.n sx.c) ∧ w'.cell? ⟨sb, 4, none⟩ = some (.slice sy.a sy.n sy.c)) (by kernel_rfl) ⟨s3, s4⟩ (fun hHeld => ?_)
                refine wpAnyH_take (i := 0) (oi := { dst := some 95, op := Op.move (Operand.tmp 0), type := 116, pos := "ref.go:708", after := #[], guard := none }) (v := ?v11) rfl (by kernel_rfl) (by kernel_rfl) (by kernel_rfl) (fun _ _ _ h => h) (Or.inl ⟨by rfl, ?hy11⟩) (by assumption) ?rest11
                case hy11 => (intro w hSw; (try dsimp only at hSw); obtain ⟨hS1, hS2⟩ := hSw; go_simp; try with_reducible rfl)
                try simp only [Act.put, List.setIfInBounds_toArray, List.set_cons_zero, List.set_cons_succ]
                refine wpAnyH_take (i := 1) (oi := { dst := some 96, op := Op.fieldAddr 128 (Operand.tmp 12) 3, type := 0, pos := "ref.go:708", after := #[], guard := none }) (v := ?v12) rfl (by kernel_rfl) (by kernel_rfl) (by kernel_rfl) (fun _ _ _ h => h) (Or.inl ⟨by rfl, ?hy12⟩) (by assumption) ?rest12
                case hy12 => (intro w hSw; (try dsimp only at hSw); obtain ⟨hS1, hS2⟩ := hSw; go_simp; try with_reducible rfl)
                try simp only [Act.put, List.setIfInBounds_toArray, List.set_cons_zero, List.set_cons_succ]
                refine wpAnyH_take (i := 2) (oi := { dst := some 97, op := Op.load 111 (Operand.tmp 96), type := 111, pos := "ref.go:708", after := #[{ on := 1, ground := Ground.data }], guard := none }) (v := ?v13) rfl (by kernel_rfl) (by kernel_rfl) (by kernel_rfl) (fun _ _ _ h => h) (Or.inl ⟨by rfl, ?hy13⟩) (by assumption) ?rest13
                case hy13 => (intro w hSw; (try dsimp only at hSw); obtain ⟨hS1, hS2⟩ := hSw; go_simp; try with_reducible rfl)
                try simp only [Act.put, List.setIfInBounds_toArray, List.set_cons_zero, List.set_cons_succ]
                refine wpAnyH_take (i := 3) (oi := { dst := some 98, op := Op.move (Operand.tmp 8), type := 119, pos := "ref.go:708", after := #[], guard := none }) (v := ?v14) rfl (by kernel_rfl) (by kernel_rfl) (by kernel_rfl) (fun _ _ _ h => h) (Or.inl ⟨by rfl, ?hy14⟩) (by assumption) ?rest14
                case hy14 => (intro w hSw; (try dsimp only at hSw); obtain ⟨hS1, hS2⟩ := hSw; go_simp; try with_reducible rfl)
                try simp only [Act.put, List.setIfInBounds_toArray, List.set_cons_zero, List.set_cons_succ]
                refine wpAnyH_take (i := 5) (oi := { dst := some 100, op := Op.move (Operand.tmp 0), type := 116, pos := "ref.go:708", after := #[], guard := none }) (v := ?v15) rfl (by kernel_rfl) (by kernel_rfl) (by kernel_rfl) (fun _ _ _ h => h) (Or.inl ⟨by rfl, ?hy15⟩) (by assumption) ?rest15
                case hy15 => (intro w hSw; (try dsimp only at hSw); obtain ⟨hS1, hS2⟩ := hSw; go_simp; try with_reducible rfl)
                try simp only [Act.put, List.setIfInBounds_toArray, List.set_cons_zero, List.set_cons_succ]
                refine wpAnyH_take (i := 6) (oi := { dst := some 101, op := Op.fieldAddr 128 (Operand.tmp 12) 4, type := 0, pos := "ref.go:708", after := #[], guard := none }) (v := ?v16) rfl (by kernel_rfl) (by kernel_rfl) (by kernel_rfl) (fun _ _ _ h => h) (Or.inl ⟨by rfl, ?hy16⟩) (by assumption) ?rest16
                case hy16 => (intro w hSw; (try dsimp only at hSw); obtain ⟨hS1, hS2⟩ := hSw; go_simp; try with_reducible rfl)
                try simp only [Act.put, List.setIfInBounds_toArray, List.set_cons_zero, List.set_cons_succ]
                refine wpAnyH_take (i := 7) (oi := { dst := some 102, op := Op.load 111 (Operand.tmp 101), type := 111, pos := "ref.go:708", after := #[{ on := 6, ground := Ground.data }], guard := none }) (v := ?v17) rfl (by kernel_rfl) (by kernel_rfl) (by kernel_rfl) (fun _ _ _ h => h) (Or.inl ⟨by rfl, ?hy17⟩) (by assumption) ?rest17
                case hy17 => (intro w hSw; (try dsimp only at hSw); obtain ⟨hS1, hS2⟩ := hSw; go_simp; try with_reducible rfl)
                try simp only [Act.put, List.setIfInBounds_toArray, List.set_cons_zero, List.set_cons_succ]
                refine wpAnyH_take (i := 8) (oi := { dst := some 103, op := Op.move (Operand.tmp 8), type := 119, pos := "ref.go:708", after := #[], guard := none }) (v := ?v18) rfl (by kernel_rfl) (by kernel_rfl) (by kernel_rfl) (fun _ _ _ h => h) (Or.inl ⟨by rfl, ?hy18⟩) (by assumption) ?rest18
                case hy18 => (intro w hSw; (try dsimp only at hSw); obtain ⟨hS1, hS2⟩ := hSw; go_simp; try with_reducible rfl)
                try simp only [Act.put, List.setIfInBounds_toArray, List.set_cons_zero, List.set_cons_succ]
                refine wpAnyH_ready (rs := [4]) (by kernel_rfl) (by simp) ?_
                refine AllReadyH.cons (o := { dst := some 99, op := Op.call { callee := Callee.value (Operand.func 47), args := #[Operand.tmp 95, Operand.tmp 97, Operand.tmp 98], argTypes := #[116, 111, 119] }, type := 52, pos := "ref.go:708", after := #[{ on := 0, ground := Ground.data }, { on := 2, ground := Ground.data }, { on := 3, ground := Ground.data }], guard := none }) rfl (fun K hK => ?_) AllReadyH.nil
                refine step_call (by rfl) 47 Tryd.f47 #[.tmp 95, .tmp 97, .tmp 98] #[116, 111, 119] rfl Tryd.func47 (by kernel_rfl) (by kernel_rfl) #[.pointer (some ⟨c.mb, 0, none⟩), .slice sx.a sx.n sx.c, .map (some ib)] (by simp [Act.eval]) _ HIX.out ?_
                rintro e w6 ⟨q1, T3, rfl, hO1, hR1, hq1⟩
                refine ⟨_, rfl, ?_⟩
                have hS6 := HS.out.call (Fr.refl nothing wr).drew hR1 hvX
                simp only at hS6
                have hF6 := hS6.g.rp.2.1
                have hT6 := hS6.g.rp.2.2
                have hnx := ap_next hF6 hT6
                obtain ⟨hX1, hX2, hX3⟩ := HHY.out
                obtain ⟨Y, hY⟩ : ∃ Y, Y = stsK (gOf l) y R.E X.v X.ws 0 := ⟨_, rfl⟩
                have HIY := hide (ihY c T3 X.v X.ws R.E nmj ib sy ry w6 hS6.g.rp.1 HFN.out hS6.g.a (hX1.keep hF6 hX2 (fun k hk => hk.1)) (fun k hk => hnx k (hX2 k hk)) ⟨hX3.1, fun i r z h1 h2 => st_stays _ _ _ _ _ _ _ (hX3.2 i r z h1 h2) hF6 (fun k hk => hk.1) hnx⟩ HUY.out (by omega) (by omega) (by omega) HSX.out.2.2.2.2 HKE.out.2.2.2.2)
                rw [← hY] at HIY
                have hle2 := stsK_le (gOf l) y R.E X.v X.ws 0
                rw [← hY] at hle2
                have hvY : X.v ≤ Y.v := by rw [hY]; exact stsK_v _ _ _ _ _ _
                have hlY := hle2.i
                have HY := hide hY
                have HS6 := hide hS6
                have HO1 := hide hO1
                have HQ1 := hide hq1
                refine hK _ _ ⟨hS6.s 3 _ rfl, hS6.s 4 _ rfl⟩ (fun _ => ?_)
                clear hK K hF6 hT6 hnx hX1 hX2 hX3 hY hle2 hS6 hO1 hR1 hq1
                try simp only [Act.put, List.setIfInBounds_toArray, List.set_cons_zero, List.set_cons_succ]
                refine wpAnyH_ready (rs := [9]) (by kernel_rfl) (by simp) ?_
                refine AllReadyH.cons (o := { dst := some 104, op := Op.call { callee := Callee.value (Operand.func 47), args := #[Operand.tmp 100, Operand.tmp 102, Operand.tmp 103], argTypes := #[116, 111, 119] }, type := 52, pos := "ref.go:708", after := #[{ on := 5, ground := Ground.data }, { on := 7, ground := Ground.data }, { on := 8, ground := Ground.data }, { on := 4, ground := Ground.chain }], guard := none }) rfl (fun K hK => ?_) AllReadyH.nil
                refine step_call (by rfl) 47 Tryd.f47 #[.tmp 100, .tmp 102, .tmp 103] #[116, 111, 119] rfl Tryd.func47 (by kernel_rfl) (by kernel_rfl) #[.pointer (some ⟨c.mb, 0, none⟩), .slice sy.a sy.n sy.c, .map (some ib)] (by simp [Act.eval]) _ HIY.out ?_
                rintro e w7 ⟨q2, T4, rfl, hO2, hR2, hq2⟩
                refine ⟨_, rfl, ?_⟩
                have hS7 := HS6.out.call (Fr.refl nothing w6) hR2 hvY
                simp only at hS7
                have HS7 := hide hS7
                have HO1' := hide (HO1.out.fr hR2.2.1 HQ1.out)
                have HO2 := hide hO2
                have g7 := hS7.gc
                refine hK _ _ ⟨hS7.s 3 _ rfl, hS7.s 4 _ rfl⟩ (fun _ => ?_)
                clear hK K hHeld hS7 hO2 hR2 hq2 HO1 HQ1
                try simp only [Act.put, List.setIfInBounds_toArray, List.set_cons_zero, List.set_cons_succ]
                refine wpAnyH_take (i := 10) (oi := { dst := some 17, op := Op.assign (Operand.tmp 99), type := 52, pos := "ref.go:708", after := #[{ on := 4, ground := Ground.data }, { on := 9, ground := Ground.chain }, { on := 0, ground := Ground.phase }, { on := 1, ground := Ground.phase }, { on := 2, ground := Ground.phase }, { on := 3, ground := Ground.phase }, { on := 4, ground := Ground.phase }, { on := 5, ground := Ground.textOnly Departure.lateStores }, { on := 6, ground := Ground.textOnly Departure.lateStores }, { on := 7, ground := Ground.textOnly Departure.lateStores }, { on := 8, ground := Ground.textOnly Departure.lateStores }, { on := 9, ground := Ground.textOnly Departure.lateStoresUnsure }], guard := none }) (v := ?v19) rfl (by kernel_rfl) (by kernel_rfl) (by kernel_rfl) (fun _ _ _ h => h) (Or.inl ⟨by rfl, ?hy19⟩) (by assumption) ?rest19
                case hy19 => (intro w hSw; (try dsimp only at hSw); obtain ⟨hS1, hS2⟩ := hSw; go_simp; try with_reducible rfl)
                try simp only [Act.put, List.setIfInBounds_toArray, List.set_cons_zero, List.set_cons_succ]
                refine wpAnyH_take (i := 11) (oi := { dst := some 18, op := Op.assign (Operand.tmp 104), type := 52, pos := "ref.go:708", after := #[{ on := 9, ground := Ground.data }, { on := 10, ground := Ground.chain }, { on := 0, ground := Ground.phase }, { on := 1, ground := Ground.phase }, { on := 2, ground := Ground.phase }, { on := 3, ground := Ground.phase }, { on := 4, ground := Ground.phase }, { on := 5, ground := Ground.phase }, { on := 6, ground := Ground.phase }, { on := 7, ground := Ground.phase }, { on := 8, ground := Ground.phase }, { on := 9, ground := Ground.phase }, { on := 10, ground := Ground.phase }], guard := none }) (v := ?v20) rfl (by kernel_rfl) (by kernel_rfl) (by kernel_rfl) (fun _ _ _ h => h) (Or.inl ⟨by rfl, ?hy20⟩) (by assumption) ?rest20
                case hy20 => (intro w hSw; (try dsimp only at hSw); obtain ⟨hS1, hS2⟩ := hSw; go_simp; try with_reducible rfl)
                try simp only [Act.put, List.setIfInBounds_toArray, List.set_cons_zero, List.set_cons_succ]
                refine wpAnyH_done (by kernel_rfl) ?_ _
                obtain ⟨q1a, q1n, q1c⟩ := q1
                have hq1n : q1n = X.ins.length := HO1'.out.n
                obtain ⟨q2a, q2n, q2c⟩ := q2
                have hq2n : q2n = Y.ins.length := HO2.out.n
                obtain ⟨qx, qn, qc⟩ := qa
                have hqn : qn = AX.ins.length := HS.out.ga.n
                subst hq1n
                subst hq2n
                subst hqn
                replace g7 : w7.cell? ⟨gb, 0, none⟩ = some (.slice qx AX.ins.length qc) := g7
                go_wp2_with fail
                go_cut [19] (fun v19 wx => ∃ q5 : Slc, v19 = .slice q5.a q5.n q5.c ∧ Hid (Fr nothing w7 wx ∧ OwnI w7.heap.size q5 (AX.ins ++ [⟨16, ((AX.ins.length : Nat) : Int) + ((X.ins.length : Nat) : Int) + 2, 0⟩]) wx))
                case first =>
                  have hN1 : IntKind.i64.wrap (((AX.ins.length : Nat) : Int) + ((X.ins.length : Nat) : Int)) = ((AX.ins.length : Nat) : Int) + ((X.ins.length : Nat) : Int) := wrap_in _ (by omega) (by omega)
                  have hN2 : IntKind.i64.wrap (((AX.ins.length : Nat) : Int) + ((X.ins.length : Nat) : Int) + 2) = ((AX.ins.length : Nat) : Int) + ((X.ins.length : Nat) : Int) + 2 := wrap_in _ (by omega) (by omega)
                  have gl7 := HS7.out.gl
                  have hal7 := HS7.out.ga.sl
                  have hlA : AX.ins.length ≤ 900000 := by omega
                  have HA := hide (ordA w7 ⟨qx, AX.ins.length, qc⟩ AX.ins ⟨16, ((AX.ins.length : Nat) : Int) + ((X.ins.length : Nat) : Int) + 2, 0⟩ hal7 hlA)
                  have HB := hide (ordB w7 ⟨qx, AX.ins.length, qc⟩ AX.ins ⟨16, ((AX.ins.length : Nat) : Int) + ((X.ins.length : Nat) : Int) + 2, 0⟩ hal7 hlA)
                  have HC := hide (ordC w7 ⟨qx, AX.ins.length, qc⟩ AX.ins ⟨16, ((AX.ins.length : Nat) : Int) + ((X.ins.length : Nat) : Int) + 2, 0⟩ hal7 hlA)
                  have HG := hide (fun w' (hf : Fr nothing w7 w') => (show w'.cell? ⟨gb, 0, none⟩ = some (.slice qx AX.ins.length qc) from (hf.cell (p := ⟨gb, 0, none⟩) gl7 id).trans g7))
                  clear hal7 hlA
                  refine wp_region_held_drew (S := fun w' => w'.cell? ⟨gb, 0, none⟩ = some (.slice qx AX.ins.length qc)) (by kernel_rfl) g7 (fun hHeld => ?_)
                  refine wpAnyH_take (i := 1) (oi := { dst := some 106, op := Op.load 52 (Operand.tmp 13), type := 52, pos := "ref.go:709", after := #[], guard := none }) (v := ?v21) rfl (by kernel_rfl) (by kernel_rfl) (by kernel_rfl) (fun _ _ _ h => h) (Or.inl ⟨by rfl, ?hy21⟩) (by assumption) ?rest21
                  case hy21 => (intro w hSw; (try dsimp only at hSw); go_simp; try with_reducible rfl)
                  try simp only [Act.put, List.setIfInBounds_toArray, List.set_cons_zero, List.set_cons_succ]
                  refine wpAnyH_take (i := 3) (oi := { dst := some 108, op := Op.load 52 (Operand.tmp 13), type := 52, pos := "ref.go:709", after := #[], guard := none }) (v := ?v22) rfl (by kernel_rfl) (by kernel_rfl) (by kernel_rfl) (fun _ _ _ h => h) (Or.inl ⟨by rfl, ?hy22⟩) (by assumption) ?rest22
                  case hy22 => (intro w hSw; (try dsimp only at hSw); go_simp; try with_reducible rfl)
                  try simp only [Act.put, List.setIfInBounds_toArray, List.set_cons_zero, List.set_cons_succ]
                  refine wpAnyH_take (i := 4) (oi := { dst := some 109, op := Op.call { callee := Callee.builtin Builtin.len, args := #[Operand.tmp 108], argTypes := #[52] }, type := 3, pos := "ref.go:709", after := #[{ on := 3, ground := Ground.data }], guard := none }) (v := ?v23) rfl (by kernel_rfl) (by kernel_rfl) (by kernel_rfl) (fun _ _ _ h => h) (Or.inl ⟨by rfl, ?hy23⟩) (by assumption) ?rest23
                  case hy23 => (intro w hSw; (try dsimp only at hSw); go_simp; try with_reducible rfl)
                  try simp only [Act.put, List.setIfInBounds_toArray, List.set_cons_zero, List.set_cons_succ]
                  refine wpAnyH_take (i := 5) (oi := { dst := some 110, op := Op.move (Operand.tmp 17), type := 52, pos := "ref.go:709", after := #[], guard := none }) (v := ?v24) rfl (by kernel_rfl) (by kernel_rfl) (by kernel_rfl) (fun _ _ _ h => h) (Or.inl ⟨by rfl, ?hy24⟩) (by assumption) ?rest24
                  case hy24 => (intro w hSw; (try dsimp only at hSw); go_simp; try with_reducible rfl)
                  try simp only [Act.put, List.setIfInBounds_toArray, List.set_cons_zero, List.set_cons_succ]
                  refine wpAnyH_take (i := 6) (oi := { dst := some 111, op := Op.call { callee := Callee.builtin Builtin.len, args := #[Operand.tmp 110], argTypes := #[52] }, type := 3, pos := "ref.go:709", after := #[{ on := 5, ground := Ground.data }], guard := none }) (v := ?v25) rfl (by kernel_rfl) (by kernel_rfl) (by kernel_rfl) (fun _ _ _ h => h) (Or.inl ⟨by rfl, ?hy25⟩) (by assumption) ?rest25
                  case hy25 => (intro w hSw; (try dsimp only at hSw); go_simp; try with_reducible rfl)
                  try simp only [Act.put, List.setIfInBounds_toArray, List.set_cons_zero, List.set_cons_succ]
                  refine wpAnyH_take (i := 7) (oi := { dst := some 112, op := Op.binOp BinOp.add 3 (Operand.tmp 109) (Operand.tmp 111) 3, type := 3, pos := "ref.go:709", after := #[{ on := 4, ground := Ground.data }, { on := 6, ground := Ground.data }], guard := none }) (v := ?v26) rfl (by kernel_rfl) (by kernel_rfl) (by kernel_rfl) (fun _ _ _ h => h) (Or.inl ⟨by rfl, ?hy26⟩) (by assumption) ?rest26
                  case hy26 => (intro w hSw; (try dsimp only at hSw); go_simp; try with_reducible rfl)
                  try simp only [Act.put, List.setIfInBounds_toArray, List.set_cons_zero, List.set_cons_succ]
                  refine wpAnyH_take (i := 8) (oi := { dst := some 113, op := Op.binOp BinOp.add 3 (Operand.tmp 112) (Operand.const (Value.int IntKind.i64 2)) 3, type := 3, pos := "ref.go:709", after := #[{ on := 7, ground := Ground.data }], guard := none }) (v := ?v27) rfl (by kernel_rfl) (by kernel_rfl) (by kernel_rfl) (fun _ _ _ h => h) (Or.inl ⟨by rfl, ?hy27⟩) (by assumption) ?rest27
                  case hy27 => (intro w hSw; (try dsimp only at hSw); go_simp; try with_reducible rfl)
                  try simp only [Act.put, List.setIfInBounds_toArray, List.set_cons_zero, List.set_cons_succ]
                  refine wpAnyH_take (i := 9) (oi := { dst := some 114, op := Op.build 59 #[(0, Operand.const (Value.int IntKind.i64 16)), (1, Operand.tmp 113)], type := 59, pos := "ref.go:709", after := #[{ on := 8, ground := Ground.data }], guard := none }) (v := ?v28) rfl (by kernel_rfl) (by kernel_rfl) (by kernel_rfl) (fun _ _ _ h => h) (Or.inl ⟨by rfl, ?hy28⟩) (by assumption) ?rest28
                  case hy28 => (intro w hSw; (try dsimp only at hSw); go_simp; try with_reducible rfl)
                  try simp only [Act.put, List.setIfInBounds_toArray, List.set_cons_zero, List.set_cons_succ]
                  refine wpAnyH_ready (rs := [0, 10]) (by kernel_rfl) (by simp) ?_
                  refine AllReadyH.cons (o := { dst := some 105, op := Op.buildSlice 52 0 #[], type := 52, pos := "ref.go:709", after := #[], guard := none }) rfl (fun K hK => ?_) (AllReadyH.cons (o := { dst := some 115, op := Op.buildSlice 52 1 #[(0, Operand.tmp 114)], type := 52, pos := "ref.go:709", after := #[{ on := 9, ground := Ground.data }], guard := none }) rfl (fun K hK => ?_) AllReadyH.nil)
                  · go_simp
                    refine hK _ _ (HG.out _ ((Fr.refl nothing w7).alloc _).drew) (fun _ => ?_)
                    clear hK K
                    try simp only [Act.put, List.setIfInBounds_toArray, List.set_cons_zero, List.set_cons_succ]
                    refine wpAnyH_ready (rs := [2, 10]) (by kernel_rfl) (by simp) ?_
                    refine AllReadyH.cons (o := { dst := some 107, op := Op.call { callee := Callee.builtin Builtin.append, args := #[Operand.tmp 105, Operand.tmp 106], argTypes := #[52, 52] }, type := 52, pos := "ref.go:709", after := #[{ on := 0, ground := Ground.data }, { on := 1, ground := Ground.data }], guard := none }) rfl (fun K hK => ?_) (AllReadyH.cons (o := { dst := some 115, op := Op.buildSlice 52 1 #[(0, Operand.tmp 114)], type := 52, pos := "ref.go:709", after := #[{ on := 9, ground := Ground.data }], guard := none }) rfl (fun K hK => ?_) AllReadyH.nil)
                    · obtain ⟨q5, W2, q7, W4, r1, F2, r2, F4, own4⟩ := HA.out
                      refine step_run rfl _ _ 52 rfl _ _ (by simp [Act.eval]) (by simp [Act.eval]) r1 ?_
                      refine hK _ _ (HG.out _ F2) (fun _ => ?_)
                      clear hK K
                      try simp only [Act.put, List.setIfInBounds_toArray, List.set_cons_zero, List.set_cons_succ]
                      refine wpAnyH_ready (rs := [10]) (by kernel_rfl) (by simp) ?_
                      refine AllReadyH.cons (o := { dst := some 115, op := Op.buildSlice 52 1 #[(0, Operand.tmp 114)], type := 52, pos := "ref.go:709", after := #[{ on := 9, ground := Ground.data }], guard := none }) rfl (fun K hK => ?_) AllReadyH.nil
                      go_simp
                      refine hK _ _ (HG.out _ (F2.alloc _)) (fun _ => ?_)
                      clear hK K
                      try simp only [Act.put, List.setIfInBounds_toArray, List.set_cons_zero, List.set_cons_succ]
                      refine wpAnyH_ready (rs := [11]) (by kernel_rfl) (by simp) ?_
                      refine AllReadyH.cons (o := { dst := some 116, op := Op.call { callee := Callee.builtin Builtin.append, args := #[Operand.tmp 107, Operand.tmp 115], argTypes := #[52, 52] }, type := 52, pos := "ref.go:709", after := #[{ on := 2, ground := Ground.data }, { on := 10, ground := Ground.data }, { on := 2, ground := Ground.chain }], guard := none }) rfl (fun K hK => ?_) AllReadyH.nil
                      refine step_run rfl _ _ 52 rfl _ _ (by simp [Act.eval]) (by simp [Act.eval]) r2 ?_
                      refine hK _ _ (HG.out _ F4) (fun _ => ?_)
                      clear hK K
                      try simp only [Act.put, List.setIfInBounds_toArray, List.set_cons_zero, List.set_cons_succ]
                      refine wpAnyH_take (i := 12) (oi := { dst := some 19, op := Op.assign (Operand.tmp 116), type := 52, pos := "ref.go:709", after := #[{ on := 11, ground := Ground.data }, { on := 11, ground := Ground.chain }, { on := 0, ground := Ground.phase }, { on := 1, ground := Ground.phase }, { on := 2, ground := Ground.phase }, { on := 3, ground := Ground.phase }, { on := 4, ground := Ground.phase }, { on := 5, ground := Ground.phase }, { on := 6, ground := Ground.phase }, { on := 7, ground := Ground.phase }, { on := 8, ground := Ground.phase }, { on := 9, ground := Ground.phase }, { on := 10, ground := Ground.phase }, { on := 11, ground := Ground.phase }], guard := none }) (v := ?v29) rfl (by kernel_rfl) (by kernel_rfl) (by kernel_rfl) (fun _ _ _ h => h) (Or.inl ⟨by rfl, ?hy29⟩) (by assumption) ?rest29
                      case hy29 => (intro w hSw; (try dsimp only at hSw); go_simp; try with_reducible rfl)
                      try simp only [Act.put, List.setIfInBounds_toArray, List.set_cons_zero, List.set_cons_succ]
                      refine wpAnyH_done (by kernel_rfl) ?_ _
                      go_wp2_with fail
                      go_meet
                      case rel => exact ⟨q7, rfl, F4, own4⟩
                    · obtain ⟨q5, W2, q7, W4, r1, F2, r2, F4, own4⟩ := HB.out
                      go_simp
                      refine hK _ _ (HG.out _ (((Fr.refl nothing w7).alloc _).alloc _).drew) (fun _ => ?_)
                      clear hK K
                      try simp only [Act.put, List.setIfInBounds_toArray, List.set_cons_zero, List.set_cons_succ]
                      refine wpAnyH_ready (rs := [2]) (by kernel_rfl) (by simp) ?_
                      refine AllReadyH.cons (o := { dst := some 107, op := Op.call { callee := Callee.builtin Builtin.append, args := #[Operand.tmp 105, Operand.tmp 106], argTypes := #[52, 52] }, type := 52, pos := "ref.go:709", after := #[{ on := 0, ground := Ground.data }, { on := 1, ground := Ground.data }], guard := none }) rfl (fun K hK => ?_) AllReadyH.nil
                      refine step_run rfl _ _ 52 rfl _ _ (by simp [Act.eval]) (by simp [Act.eval]) r1 ?_
                      refine hK _ _ (HG.out _ F2) (fun _ => ?_)
                      clear hK K
                      try simp only [Act.put, List.setIfInBounds_toArray, List.set_cons_zero, List.set_cons_succ]
                      refine wpAnyH_ready (rs := [11]) (by kernel_rfl) (by simp) ?_
                      refine AllReadyH.cons (o := { dst := some 116, op := Op.call { callee := Callee.builtin Builtin.append, args := #[Operand.tmp 107, Operand.tmp 115], argTypes := #[52, 52] }, type := 52, pos := "ref.go:709", after := #[{ on := 2, ground := Ground.data }, { on := 10, ground := Ground.data }, { on := 2, ground := Ground.chain }], guard := none }) rfl (fun K hK => ?_) AllReadyH.nil
                      refine step_run rfl _ _ 52 rfl _ _ (by simp [Act.eval]) (by simp [Act.eval]) r2 ?_
                      refine hK _ _ (HG.out _ F4) (fun _ => ?_)
                      clear hK K
                      try simp only [Act.put, List.setIfInBounds_toArray, List.set_cons_zero, List.set_cons_succ]
                      refine wpAnyH_take (i := 12) (oi := { dst := some 19, op := Op.assign (Operand.tmp 116), type := 52, pos := "ref.go:709", after := #[{ on := 11, ground := Ground.data }, { on := 11, ground := Ground.chain }, { on := 0, ground := Ground.phase }, { on := 1, ground := Ground.phase }, { on := 2, ground := Ground.phase }, { on := 3, ground := Ground.phase }, { on := 4, ground := Ground.phase }, { on := 5, ground := Ground.phase }, { on := 6, ground := Ground.phase }, { on := 7, ground := Ground.phase }, { on := 8, ground := Ground.phase }, { on := 9, ground := Ground.phase }, { on := 10, ground := Ground.phase }, { on := 11, ground := Ground.phase }], guard := none }) (v := ?v30) rfl (by kernel_rfl) (by kernel_rfl) (by kernel_rfl) (fun _ _ _ h => h) (Or.inl ⟨by rfl, ?hy30⟩) (by assumption) ?rest30
                      case hy30 => (intro w hSw; (try dsimp only at hSw); go_simp; try with_reducible rfl)
                      try simp only [Act.put, List.setIfInBounds_toArray, List.set_cons_zero, List.set_cons_succ]
                      refine wpAnyH_done (by kernel_rfl) ?_ _
                      go_wp2_with fail
                      go_meet
                      case rel => exact ⟨q7, rfl, F4, own4⟩
                  · obtain ⟨q5, W2, q7, W4, r1, F2, r2, F4, own4⟩ := HC.out
                    go_simp
                    refine hK _ _ (HG.out _ ((Fr.refl nothing w7).alloc _).drew) (fun _ => ?_)
                    clear hK K
                    try simp only [Act.put, List.setIfInBounds_toArray, List.set_cons_zero, List.set_cons_succ]
                    refine wpAnyH_ready (rs := [0]) (by kernel_rfl) (by simp) ?_
                    refine AllReadyH.cons (o := { dst := some 105, op := Op.buildSlice 52 0 #[], type := 52, pos := "ref.go:709", after := #[], guard := none }) rfl (fun K hK => ?_) AllReadyH.nil
                    go_simp
                    refine hK _ _ (HG.out _ (((Fr.refl nothing w7).alloc _).alloc _).drew) (fun _ => ?_)
                    clear hK K
                    try simp only [Act.put, List.setIfInBounds_toArray, List.set_cons_zero, List.set_cons_succ]
                    refine wpAnyH_ready (rs := [2]) (by kernel_rfl) (by simp) ?_
                    refine AllReadyH.cons (o := { dst := some 107, op := Op.call { callee := Callee.builtin Builtin.append, args := #[Operand.tmp 105, Operand.tmp 106], argTypes := #[52, 52] }, type := 52, pos := "ref.go:709", after := #[{ on := 0, ground := Ground.data }, { on := 1, ground := Ground.data }], guard := none }) rfl (fun K hK => ?_) AllReadyH.nil
                    refine step_run rfl _ _ 52 rfl _ _ (by simp [Act.eval]) (by simp [Act.eval]) r1 ?_
                    refine hK _ _ (HG.out _ F2) (fun _ => ?_)
                    clear hK K
                    try simp only [Act.put, List.setIfInBounds_toArray, List.set_cons_zero, List.set_cons_succ]
                    refine wpAnyH_ready (rs := [11]) (by kernel_rfl) (by simp) ?_
                    refine AllReadyH.cons (o := { dst := some 116, op := Op.call { callee := Callee.builtin Builtin.append, args := #[Operand.tmp 107, Operand.tmp 115], argTypes := #[52, 52] }, type := 52, pos := "ref.go:709", after := #[{ on := 2, ground := Ground.data }, { on := 10, ground := Ground.data }, { on := 2, ground := Ground.chain }], guard := none }) rfl (fun K hK => ?_) AllReadyH.nil
                    refine step_run rfl _ _ 52 rfl _ _ (by simp [Act.eval]) (by simp [Act.eval]) r2 ?_
                    refine hK _ _ (HG.out _ F4) (fun _ => ?_)
                    clear hK K
                    try simp only [Act.put, List.setIfInBounds_toArray, List.set_cons_zero, List.set_cons_succ]
                    refine wpAnyH_take (i := 12) (oi := { dst := some 19, op := Op.assign (Operand.tmp 116), type := 52, pos := "ref.go:709", after := #[{ on := 11, ground := Ground.data }, { on := 11, ground := Ground.chain }, { on := 0, ground := Ground.phase }, { on := 1, ground := Ground.phase }, { on := 2, ground := Ground.phase }, { on := 3, ground := Ground.phase }, { on := 4, ground := Ground.phase }, { on := 5, ground := Ground.phase }, { on := 6, ground := Ground.phase }, { on := 7, ground := Ground.phase }, { on := 8, ground := Ground.phase }, { on := 9, ground := Ground.phase }, { on := 10, ground := Ground.phase }, { on := 11, ground := Ground.phase }], guard := none }) (v := ?v31) rfl (by kernel_rfl) (by kernel_rfl) (by kernel_rfl) (fun _ _ _ h => h) (Or.inl ⟨by rfl, ?hy31⟩) (by assumption) ?rest31
                    case hy31 => (intro w hSw; (try dsimp only at hSw); go_simp; try with_reducible rfl)
                    try simp only [Act.put, List.setIfInBounds_toArray, List.set_cons_zero, List.set_cons_succ]
                    refine wpAnyH_done (by kernel_rfl) ?_ _
                    go_wp2_with fail
                    go_meet
                    case rel => exact ⟨q7, rfl, F4, own4⟩
                case rest =>
                  obtain ⟨q5, rfl, hcc⟩ := hcut
                  obtain ⟨P1, hP1⟩ : ∃ P1, P1 = AX.ins ++ [In.mk 16 (((AX.ins.length : Nat) : Int) + ((X.ins.length : Nat) : Int) + 2) 0] := ⟨_, rfl⟩
                  rw [← hP1] at hcc
                  obtain ⟨P2, hP2⟩ : ∃ P2, P2 = P1 ++ shiftI (P1.length : Nat) X.ins := ⟨_, rfl⟩
                  obtain ⟨P3, hP3⟩ : ∃ P3, P3 = P2 ++ [In.mk 15 (((AX.ins.length : Nat) : Int) + ((X.ins.length : Nat) : Int) + 2 + ((Y.ins.length : Nat) : Int)) 0] := ⟨_, rfl⟩
                  have hS8 := HS7.out.new hcc.out.1
                  have g8 := hS8.gc
                  replace g8 : wc.cell? ⟨gb, 0, none⟩ = some (.slice qx AX.ins.length qc) := g8
                  have HS8 := hide hS8
                  have n1 : P1.length ≤ AX.ins.length + 1 := by rw [hP1]; simp
                  have n2 : P2.length ≤ AX.ins.length + 1 + X.ins.length := by rw [hP2]; simp only [List.length_append, shiftI_len]; omega
                  have n3 : P3.length ≤ AX.ins.length + 2 + X.ins.length := by rw [hP3]; simp only [List.length_append, List.length_singleton]; omega
                  have HP := hide (And.intro hP1 (And.intro hP2 hP3))
                  have HJX : Hid (∀ z ∈ X.ins, JOk z) := by
                    have h1 := stsK_j (gOf l) x R.E R.v AX.ws 0
                    rw [← HX.out] at h1
                    exact h1.ok (by omega)
                  have HJY : Hid (∀ z ∈ Y.ins, JOk z) := by
                    have h1 := stsK_j (gOf l) y R.E X.v X.ws 0
                    rw [← HY.out] at h1
                    exact h1.ok (by omega)
                  have HJJ : Hid (∀ z ∈ P3 ++ shiftI (P3.length : Nat) Y.ins, JOk z) := by
                    have h1 := stsK_j (gOf l) x R.E R.v AX.ws 0
                    rw [← HX.out] at h1
                    have h2 := stsK_j (gOf l) y R.E X.v X.ws 0
                    rw [← HY.out] at h2
                    refine JOk.app ?_ (JOk.shift h2 (by omega))
                    rw [hP3]
                    refine JOk.app ?_ (JOk.one ⟨by omega, by omega⟩)
                    rw [hP2]
                    refine JOk.app ?_ (JOk.shift h1 (by omega))
                    rw [hP1]
                    exact JOk.app (JOk.no hno) (JOk.one ⟨by omega, by omega⟩)
                  have HW : Hid (∀ w', Fr nothing wc w' → Sl encI 3 w' (Slc.v ⟨q1a, X.ins.length, q1c⟩) X.ins) := fun w' hf => ((HO1'.out.fr hcc.out.1 (fun _ _ => id)).fr hf (fun _ _ => id)).sl
                  have HQ5 : Hid (∀ w', Fr nothing wc w' → Sl encI 3 w' q5.v P1) := fun w' hf => (hcc.out.2.fr hf (fun _ _ => id)).sl
                  have HY2 := hide (HO2.out.fr hcc.out.1 (fun _ _ => id))
                  have HG := hide (fun w' (hf : Fr nothing wc w') => (show w'.cell? ⟨gb, 0, none⟩ = some (.slice qx AX.ins.length qc) from (hf.cell (p := ⟨gb, 0, none⟩) hS8.gl id).trans g8))
                  clear hS8 hP1 hP2 hP3
                  go_wp2_with fail
                  go_cut [19] (fun v19 wx => ∃ q6 : Slc, v19 = .slice q6.a q6.n q6.c ∧ Hid (Fr nothing wc wx ∧ OwnI wc.heap.size q6 P3 wx))
                  case first =>
                    have hN1 : IntKind.i64.wrap (((AX.ins.length : Nat) : Int) + ((X.ins.length : Nat) : Int)) = ((AX.ins.length : Nat) : Int) + ((X.ins.length : Nat) : Int) := wrap_in _ (by omega) (by omega)
                    have hN2 : IntKind.i64.wrap (((AX.ins.length : Nat) : Int) + ((X.ins.length : Nat) : Int) + 2) = ((AX.ins.length : Nat) : Int) + ((X.ins.length : Nat) : Int) + 2 := wrap_in _ (by omega) (by omega)
                    have hN3 : IntKind.i64.wrap (((AX.ins.length : Nat) : Int) + ((X.ins.length : Nat) : Int) + 2 + ((Y.ins.length : Nat) : Int)) = ((AX.ins.length : Nat) : Int) + ((X.ins.length : Nat) : Int) + 2 + ((Y.ins.length : Nat) : Int) := wrap_in _ (by omega) (by omega)
                    refine wp_region_held_drew (S := fun w' => w'.cell? ⟨gb, 0, none⟩ = some (.slice qx AX.ins.length qc)) (by kernel_rfl) g8 (fun hHeld => ?_)
                    refine wpAnyH_take (i := 0) (oi := { dst := some 117, op := Op.move (Operand.tmp 19), type := 52, pos := "ref.go:710", after := #[], guard := none }) (v := ?v32) rfl (by kernel_rfl) (by kernel_rfl) (by kernel_rfl) (fun _ _ _ h => h) (Or.inl ⟨by rfl, ?hy32⟩) (by assumption) ?rest32
                    case hy32 => (intro w hSw; (try dsimp only at hSw); go_simp; try with_reducible rfl)
                    try simp only [Act.put, List.setIfInBounds_toArray, List.set_cons_zero, List.set_cons_succ]
                    refine wpAnyH_take (i := 1) (oi := { dst := some 118, op := Op.move (Operand.tmp 17), type := 52, pos := "ref.go:710", after := #[], guard := none }) (v := ?v33) rfl (by kernel_rfl) (by kernel_rfl) (by kernel_rfl) (fun _ _ _ h => h) (Or.inl ⟨by rfl, ?hy33⟩) (by assumption) ?rest33
                    case hy33 => (intro w hSw; (try dsimp only at hSw); go_simp; try with_reducible rfl)
                    try simp only [Act.put, List.setIfInBounds_toArray, List.set_cons_zero, List.set_cons_succ]
                    refine wpAnyH_take (i := 3) (oi := { dst := some 120, op := Op.load 52 (Operand.tmp 13), type := 52, pos := "ref.go:710", after := #[], guard := none }) (v := ?v34) rfl (by kernel_rfl) (by kernel_rfl) (by kernel_rfl) (fun _ _ _ h => h) (Or.inl ⟨by rfl, ?hy34⟩) (by assumption) ?rest34
                    case hy34 => (intro w hSw; (try dsimp only at hSw); go_simp; try with_reducible rfl)
                    try simp only [Act.put, List.setIfInBounds_toArray, List.set_cons_zero, List.set_cons_succ]
                    refine wpAnyH_take (i := 4) (oi := { dst := some 121, op := Op.call { callee := Callee.builtin Builtin.len, args := #[Operand.tmp 120], argTypes := #[52] }, type := 3, pos := "ref.go:710", after := #[{ on := 3, ground := Ground.data }], guard := none }) (v := ?v35) rfl (by kernel_rfl) (by kernel_rfl) (by kernel_rfl) (fun _ _ _ h => h) (Or.inl ⟨by rfl, ?hy35⟩) (by assumption) ?rest35
                    case hy35 => (intro w hSw; (try dsimp only at hSw); go_simp; try with_reducible rfl)
                    try simp only [Act.put, List.setIfInBounds_toArray, List.set_cons_zero, List.set_cons_succ]
                    refine wpAnyH_take (i := 5) (oi := { dst := some 122, op := Op.move (Operand.tmp 17), type := 52, pos := "ref.go:710", after := #[], guard := none }) (v := ?v36) rfl (by kernel_rfl) (by kernel_rfl) (by kernel_rfl) (fun _ _ _ h => h) (Or.inl ⟨by rfl, ?hy36⟩) (by assumption) ?rest36
                    case hy36 => (intro w hSw; (try dsimp only at hSw); go_simp; try with_reducible rfl)
                    try simp only [Act.put, List.setIfInBounds_toArray, List.set_cons_zero, List.set_cons_succ]
                    refine wpAnyH_take (i := 6) (oi := { dst := some 123, op := Op.call { callee := Callee.builtin Builtin.len, args := #[Operand.tmp 122], argTypes := #[52] }, type := 3, pos := "ref.go:710", after := #[{ on := 5, ground := Ground.data }], guard := none }) (v := ?v37) rfl (by kernel_rfl) (by kernel_rfl) (by kernel_rfl) (fun _ _ _ h => h) (Or.inl ⟨by rfl, ?hy37⟩) (by assumption) ?rest37
                    case hy37 => (intro w hSw; (try dsimp only at hSw); go_simp; try with_reducible rfl)
                    try simp only [Act.put, List.setIfInBounds_toArray, List.set_cons_zero, List.set_cons_succ]
                    refine wpAnyH_take (i := 7) (oi := { dst := some 124, op := Op.binOp BinOp.add 3 (Operand.tmp 121) (Operand.tmp 123) 3, type := 3, pos := "ref.go:710", after := #[{ on := 4, ground := Ground.data }, { on := 6, ground := Ground.data }], guard := none }) (v := ?v38) rfl (by kernel_rfl) (by kernel_rfl) (by kernel_rfl) (fun _ _ _ h => h) (Or.inl ⟨by rfl, ?hy38⟩) (by assumption) ?rest38
                    case hy38 => (intro w hSw; (try dsimp only at hSw); go_simp; try with_reducible rfl)
                    try simp only [Act.put, List.setIfInBounds_toArray, List.set_cons_zero, List.set_cons_succ]
                    refine wpAnyH_take (i := 8) (oi := { dst := some 125, op := Op.binOp BinOp.add 3 (Operand.tmp 124) (Operand.const (Value.int IntKind.i64 2)) 3, type := 3, pos := "ref.go:710", after := #[{ on := 7, ground := Ground.data }], guard := none }) (v := ?v39) rfl (by kernel_rfl) (by kernel_rfl) (by kernel_rfl) (fun _ _ _ h => h) (Or.inl ⟨by rfl, ?hy39⟩) (by assumption) ?rest39
                    case hy39 => (intro w hSw; (try dsimp only at hSw); go_simp; try with_reducible rfl)
                    try simp only [Act.put, List.setIfInBounds_toArray, List.set_cons_zero, List.set_cons_succ]
                    refine wpAnyH_take (i := 9) (oi := { dst := some 126, op := Op.move (Operand.tmp 18), type := 52, pos := "ref.go:710", after := #[], guard := none }) (v := ?v40) rfl (by kernel_rfl) (by kernel_rfl) (by kernel_rfl) (fun _ _ _ h => h) (Or.inl ⟨by rfl, ?hy40⟩) (by assumption) ?rest40
                    case hy40 => (intro w hSw; (try dsimp only at hSw); go_simp; try with_reducible rfl)
                    try simp only [Act.put, List.setIfInBounds_toArray, List.set_cons_zero, List.set_cons_succ]
                    refine wpAnyH_take (i := 10) (oi := { dst := some 127, op := Op.call { callee := Callee.builtin Builtin.len, args := #[Operand.tmp 126], argTypes := #[52] }, type := 3, pos := "ref.go:710", after := #[{ on := 9, ground := Ground.data }], guard := none }) (v := ?v41) rfl (by kernel_rfl) (by kernel_rfl) (by kernel_rfl) (fun _ _ _ h => h) (Or.inl ⟨by rfl, ?hy41⟩) (by assumption) ?rest41
                    case hy41 => (intro w hSw; (try dsimp only at hSw); go_simp; try with_reducible rfl)
                    try simp only [Act.put, List.setIfInBounds_toArray, List.set_cons_zero, List.set_cons_succ]
                    refine wpAnyH_take (i := 11) (oi := { dst := some 128, op := Op.binOp BinOp.add 3 (Operand.tmp 125) (Operand.tmp 127) 3, type := 3, pos := "ref.go:710", after := #[{ on := 8, ground := Ground.data }, { on := 10, ground := Ground.data }], guard := none }) (v := ?v42) rfl (by kernel_rfl) (by kernel_rfl) (by kernel_rfl) (fun _ _ _ h => h) (Or.inl ⟨by rfl, ?hy42⟩) (by assumption) ?rest42
                    case hy42 => (intro w hSw; (try dsimp only at hSw); go_simp; try with_reducible rfl)
                    try simp only [Act.put, List.setIfInBounds_toArray, List.set_cons_zero, List.set_cons_succ]
                    refine wpAnyH_take (i := 12) (oi := { dst := some 129, op := Op.build 59 #[(0, Operand.const (Value.int IntKind.i64 15)), (1, Operand.tmp 128)], type := 59, pos := "ref.go:710", after := #[{ on := 11, ground := Ground.data }], guard := none }) (v := ?v43) rfl (by kernel_rfl) (by kernel_rfl) (by kernel_rfl) (fun _ _ _ h => h) (Or.inl ⟨by rfl, ?hy43⟩) (by assumption) ?rest43
                    case hy43 => (intro w hSw; (try dsimp only at hSw); go_simp; try with_reducible rfl)
                    try simp only [Act.put, List.setIfInBounds_toArray, List.set_cons_zero, List.set_cons_succ]
                    refine wpAnyH_ready (rs := [2, 13]) (by kernel_rfl) (by simp) ?_
                    refine AllReadyH.cons (o := { dst := some 119, op := Op.call { callee := Callee.value (Operand.func 61), args := #[Operand.tmp 117, Operand.tmp 118], argTypes := #[52, 52] }, type := 52, pos := "ref.go:710", after := #[{ on := 0, ground := Ground.data }, { on := 1, ground := Ground.data }], guard := none }) rfl (fun K hK => ?_) (AllReadyH.cons (o := { dst := some 130, op := Op.buildSlice 52 1 #[(0, Operand.tmp 129)], type := 52, pos := "ref.go:710", after := #[{ on := 12, ground := Ground.data }], guard := none }) rfl (fun K hK => ?_) AllReadyH.nil)
                    · have D0 : Fr nothing wc wc.drew := (Fr.refl nothing wc).drew
                      refine step_call (by rfl) 61 Tryd.f61 #[.tmp 117, .tmp 118] #[52, 52] rfl Tryd.func61 (by kernel_rfl) (by kernel_rfl) #[.slice q5.a q5.n q5.c, .slice q1a X.ins.length q1c] (by simp [Act.eval]) _ (join_any q5 ⟨q1a, X.ins.length, q1c⟩ _ X.ins _ (HQ5.out _ D0) (HW.out _ D0) (by omega) HJX.out) ?_
                      rintro e W1 ⟨q6, rfl, own6, F6⟩
                      refine ⟨_, rfl, ?_⟩
                      have F61 : Fr nothing wc W1 := D0.trans F6
                      rw [← HP.out.2.1] at own6
                      refine hK _ _ (HG.out _ F61) (fun _ => ?_)
                      clear hK K
                      try simp only [Act.put, List.setIfInBounds_toArray, List.set_cons_zero, List.set_cons_succ]
                      refine wpAnyH_ready (rs := [13]) (by kernel_rfl) (by simp) ?_
                      refine AllReadyH.cons (o := { dst := some 130, op := Op.buildSlice 52 1 #[(0, Operand.tmp 129)], type := 52, pos := "ref.go:710", after := #[{ on := 12, ground := Ground.data }], guard := none }) rfl (fun K hK => ?_) AllReadyH.nil
                      go_simp
                      refine hK _ _ (HG.out _ (F61.alloc _)) (fun _ => ?_)
                      clear hK K
                      try simp only [Act.put, List.setIfInBounds_toArray, List.set_cons_zero, List.set_cons_succ]
                      have FL : Fr nothing W1 (W1.alloc (litO ⟨15, ((AX.ins.length : Nat) : Int) + ((X.ins.length : Nat) : Int) + 2 + ((Y.ins.length : Nat) : Int), 0⟩)) := (Fr.refl _ _).alloc _
                      obtain ⟨q7, W3, r3, own7, F7, t7⟩ := (own6.fr FL (fun _ _ => id)).app (x := ⟨some ⟨W1.heap.size, 0, none⟩, 1, 1⟩) (sl_litI W1 ⟨15, ((AX.ins.length : Nat) : Int) + ((X.ins.length : Nat) : Int) + 2 + ((Y.ins.length : Nat) : Int), 0⟩) (Nat.le_trans F6.size FL.size) (by simp only [List.length_singleton]; omega)
                      rw [← HP.out.2.2] at own7
                      have F37 : Fr nothing wc W3 := (F61.trans FL).then F7 (fun k hk e => by exact absurd (Nat.lt_of_lt_of_le hk (own6.lt e).1) (Nat.lt_irrefl _))
                      refine wpAnyH_ready (rs := [14]) (by kernel_rfl) (by simp) ?_
                      refine AllReadyH.cons (o := { dst := some 131, op := Op.call { callee := Callee.builtin Builtin.append, args := #[Operand.tmp 119, Operand.tmp 130], argTypes := #[52, 52] }, type := 52, pos := "ref.go:710", after := #[{ on := 2, ground := Ground.data }, { on := 13, ground := Ground.data }, { on := 2, ground := Ground.chain }], guard := none }) rfl (fun K hK => ?_) AllReadyH.nil
                      refine step_run rfl _ _ 52 rfl _ _ (by simp [Act.eval]) (by simp [Act.eval]) r3 ?_
                      refine hK _ _ (HG.out _ F37) (fun _ => ?_)
                      clear hK K
                      try simp only [Act.put, List.setIfInBounds_toArray, List.set_cons_zero, List.set_cons_succ]
                      refine wpAnyH_take (i := 15) (oi := { dst := some 19, op := Op.assign (Operand.tmp 131), type := 52, pos := "ref.go:710", after := #[{ on := 14, ground := Ground.data }, { on := 14, ground := Ground.chain }, { on := 0, ground := Ground.phase }, { on := 1, ground := Ground.phase }, { on := 2, ground := Ground.phase }, { on := 3, ground := Ground.phase }, { on := 4, ground := Ground.phase }, { on := 5, ground := Ground.phase }, { on := 6, ground := Ground.phase }, { on := 7, ground := Ground.phase }, { on := 8, ground := Ground.phase }, { on := 9, ground := Ground.phase }, { on := 10, ground := Ground.phase }, { on := 11, ground := Ground.phase }, { on := 12, ground := Ground.phase }, { on := 13, ground := Ground.phase }, { on := 14, ground := Ground.phase }], guard := none }) (v := ?v44) rfl (by kernel_rfl) (by kernel_rfl) (by kernel_rfl) (fun _ _ _ h => h) (Or.inl ⟨by rfl, ?hy44⟩) (by assumption) ?rest44
                      case hy44 => (intro w hSw; (try dsimp only at hSw); go_simp; try with_reducible rfl)
                      try simp only [Act.put, List.setIfInBounds_toArray, List.set_cons_zero, List.set_cons_succ]
                      refine wpAnyH_done (by kernel_rfl) ?_ _
                      go_wp2_with fail
                      go_meet
                      case rel => exact ⟨q7, rfl, F37, own7⟩
                    · have D0 : Fr nothing wc (wc.alloc (litO ⟨15, ((AX.ins.length : Nat) : Int) + ((X.ins.length : Nat) : Int) + 2 + ((Y.ins.length : Nat) : Int), 0⟩)).drew := ((Fr.refl nothing wc).alloc _).drew
                      have hSL : Sl encI 3 (wc.alloc (litO ⟨15, ((AX.ins.length : Nat) : Int) + ((X.ins.length : Nat) : Int) + 2 + ((Y.ins.length : Nat) : Int), 0⟩)).drew (Slc.v ⟨some ⟨wc.heap.size, 0, none⟩, 1, 1⟩) [⟨15, ((AX.ins.length : Nat) : Int) + ((X.ins.length : Nat) : Int) + 2 + ((Y.ins.length : Nat) : Int), 0⟩] := (sl_litI wc ⟨15, ((AX.ins.length : Nat) : Int) + ((X.ins.length : Nat) : Int) + 2 + ((Y.ins.length : Nat) : Int), 0⟩).fr (Fr.refl nothing _).drew (fun _ _ => id)
                      go_simp
                      refine hK _ _ (HG.out _ D0) (fun _ => ?_)
                      clear hK K
                      try simp only [Act.put, List.setIfInBounds_toArray, List.set_cons_zero, List.set_cons_succ]
                      refine wpAnyH_ready (rs := [2]) (by kernel_rfl) (by simp) ?_
                      refine AllReadyH.cons (o := { dst := some 119, op := Op.call { callee := Callee.value (Operand.func 61), args := #[Operand.tmp 117, Operand.tmp 118], argTypes := #[52, 52] }, type := 52, pos := "ref.go:710", after := #[{ on := 0, ground := Ground.data }, { on := 1, ground := Ground.data }], guard := none }) rfl (fun K hK => ?_) AllReadyH.nil
                      refine step_call (by rfl) 61 Tryd.f61 #[.tmp 117, .tmp 118] #[52, 52] rfl Tryd.func61 (by kernel_rfl) (by kernel_rfl) #[.slice q5.a q5.n q5.c, .slice q1a X.ins.length q1c] (by simp [Act.eval]) _ (join_any q5 ⟨q1a, X.ins.length, q1c⟩ _ X.ins _ (HQ5.out _ D0) (HW.out _ D0) (by omega) HJX.out) ?_
                      rintro e W1 ⟨q6, rfl, own6, F6⟩
                      refine ⟨_, rfl, ?_⟩
                      have F61 : Fr nothing wc W1 := D0.trans F6
                      rw [← HP.out.2.1] at own6
                      refine hK _ _ (HG.out _ F61) (fun _ => ?_)
                      clear hK K
                      try simp only [Act.put, List.setIfInBounds_toArray, List.set_cons_zero, List.set_cons_succ]
                      obtain ⟨q7, W3, r3, own7, F7, t7⟩ := own6.app (x := ⟨some ⟨wc.heap.size, 0, none⟩, 1, 1⟩) (hSL.fr F6 (fun _ _ => id)) F6.size (by simp only [List.length_singleton]; omega)
                      rw [← HP.out.2.2] at own7
                      have F37 : Fr nothing wc W3 := F61.then F7 (fun k hk e => by exact absurd (Nat.lt_of_lt_of_le hk (Nat.le_trans D0.size (own6.lt e).1)) (Nat.lt_irrefl _))
                      refine wpAnyH_ready (rs := [14]) (by kernel_rfl) (by simp) ?_
                      refine AllReadyH.cons (o := { dst := some 131, op := Op.call { callee := Callee.builtin Builtin.append, args := #[Operand.tmp 119, Operand.tmp 130], argTypes := #[52, 52] }, type := 52, pos := "ref.go:710", after := #[{ on := 2, ground := Ground.data }, { on := 13, ground := Ground.data }, { on := 2, ground := Ground.chain }], guard := none }) rfl (fun K hK => ?_) AllReadyH.nil
                      refine step_run rfl _ _ 52 rfl _ _ (by simp [Act.eval]) (by simp [Act.eval]) r3 ?_
                      refine hK _ _ (HG.out _ F37) (fun _ => ?_)
                      clear hK K
                      try simp only [Act.put, List.setIfInBounds_toArray, List.set_cons_zero, List.set_cons_succ]
                      refine wpAnyH_take (i := 15) (oi := { dst := some 19, op := Op.assign (Operand.tmp 131), type := 52, pos := "ref.go:710", after := #[{ on := 14, ground := Ground.data }, { on := 14, ground := Ground.chain }, { on := 0, ground := Ground.phase }, { on := 1, ground := Ground.phase }, { on := 2, ground := Ground.phase }, { on := 3, ground := Ground.phase }, { on := 4, ground := Ground.phase }, { on := 5, ground := Ground.phase }, { on := 6, ground := Ground.phase }, { on := 7, ground := Ground.phase }, { on := 8, ground := Ground.phase }, { on := 9, ground := Ground.phase }, { on := 10, ground := Ground.phase }, { on := 11, ground := Ground.phase }, { on := 12, ground := Ground.phase }, { on := 13, ground := Ground.phase }, { on := 14, ground := Ground.phase }], guard := none }) (v := ?v45) rfl (by kernel_rfl) (by kernel_rfl) (by kernel_rfl) (fun _ _ _ h => h) (Or.inl ⟨by rfl, ?hy45⟩) (by assumption) ?rest45
                      case hy45 => (intro w hSw; (try dsimp only at hSw); go_simp; try with_reducible rfl)
                      try simp only [Act.put, List.setIfInBounds_toArray, List.set_cons_zero, List.set_cons_succ]
                      refine wpAnyH_done (by kernel_rfl) ?_ _
                      go_wp2_with fail
                      go_meet
                      case rel => exact ⟨q7, rfl, F37, ⟨own7.n, own7.row.mono D0.size⟩⟩
                  case rest =>
                    obtain ⟨q6, rfl, hcd⟩ := hcut
                    have hS9 := HS8.out.new hcd.out.1
                    have o9 := hS9.g.o
                    have oz9 := hS9.g.oz
                    have ol9 := hS9.g.ol
                    have HS9 := hide hS9
                    have HY9 := hide (HY2.out.fr hcd.out.1 (fun _ _ => id))
                    obtain ⟨qo1, qo2, qo3⟩ := q
                    replace o9 : wc.cell? ⟨ob, 0, none⟩ = some (.slice qo1 qo2 qo3) := o9
                    clear hS9
                    go_wp2_with fail
                    refine wp_region_T (S := fun w' => w'.cell? ⟨ob, 0, none⟩ = some (.slice qo1 qo2 qo3)) (by kernel_rfl) [5] o9 (fun hHeld => ?_)
                    refine wpAnyT_take (i := 0) (oi := { dst := some 132, op := Op.load 52 (Operand.tmp 7), type := 52, pos := "ref.go:711", after := #[], guard := none }) (v := ?v46) rfl (by kernel_rfl) (by kernel_rfl) (by kernel_rfl) (by kernel_rfl) (by kernel_rfl) (fun _ _ _ h => h) (Or.inl ⟨by rfl, ?hy46⟩) (by assumption) ?rest46
                    case hy46 => (intro w hSw; (try dsimp only at hSw); go_simp; try with_reducible rfl)
                    try simp only [Act.put, List.setIfInBounds_toArray, List.set_cons_zero, List.set_cons_succ]
                    refine wpAnyT_take (i := 1) (oi := { dst := some 133, op := Op.move (Operand.tmp 19), type := 52, pos := "ref.go:711", after := #[], guard := none }) (v := ?v47) rfl (by kernel_rfl) (by kernel_rfl) (by kernel_rfl) (by kernel_rfl) (by kernel_rfl) (fun _ _ _ h => h) (Or.inl ⟨by rfl, ?hy47⟩) (by assumption) ?rest47
                    case hy47 => (intro w hSw; (try dsimp only at hSw); go_simp; try with_reducible rfl)
                    try simp only [Act.put, List.setIfInBounds_toArray, List.set_cons_zero, List.set_cons_succ]
                    refine wpAnyT_take (i := 2) (oi := { dst := some 134, op := Op.move (Operand.tmp 18), type := 52, pos := "ref.go:711", after := #[], guard := none }) (v := ?v48) rfl (by kernel_rfl) (by kernel_rfl) (by kernel_rfl) (by kernel_rfl) (by kernel_rfl) (fun _ _ _ h => h) (Or.inl ⟨by rfl, ?hy48⟩) (by assumption) ?rest48
                    case hy48 => (intro w hSw; (try dsimp only at hSw); go_simp; try with_reducible rfl)
                    try simp only [Act.put, List.setIfInBounds_toArray, List.set_cons_zero, List.set_cons_succ]
                    refine wpAnyT_ready (rs := [3]) (by kernel_rfl) (by simp) ?_
                    refine AllReadyT.cons (o := { dst := some 135, op := Op.call { callee := Callee.value (Operand.func 61), args := #[Operand.tmp 133, Operand.tmp 134], argTypes := #[52, 52] }, type := 52, pos := "ref.go:711", after := #[{ on := 1, ground := Ground.data }, { on := 2, ground := Ground.data }], guard := none }) rfl (fun K hK => ?_) AllReadyT.nil
                    have D0 : Fr nothing wc wc.drew := (Fr.refl nothing wc).drew
                    refine step_call (by rfl) 61 Tryd.f61 #[.tmp 133, .tmp 134] #[52, 52] rfl Tryd.func61 (by kernel_rfl) (by kernel_rfl) #[.slice q6.a q6.n q6.c, .slice q2a Y.ins.length q2c] (by simp [Act.eval]) _ (join_any q6 ⟨q2a, Y.ins.length, q2c⟩ P3 Y.ins _ (hcd.out.2.fr D0 (fun _ _ => id)).sl (HY9.out.fr D0 (fun _ _ => id)).sl (by omega) HJY.out) ?_
                    rintro e W1 ⟨q7, rfl, own7, F7⟩
                    refine ⟨_, rfl, ?_⟩
                    have F71 : Fr nothing wc W1 := D0.trans F7
                    refine hK.out _ _ ((F71.cell (p := ⟨ob, 0, none⟩) ol9 id).trans o9) ?_
                    clear hK K
                    try simp only [Act.put, List.setIfInBounds_toArray, List.set_cons_zero, List.set_cons_succ]
                    refine wpAnyT_ready (rs := [4]) (by kernel_rfl) (by simp) ?_
                    refine AllReadyT.cons (o := { dst := some 136, op := Op.call { callee := Callee.value (Operand.func 61), args := #[Operand.tmp 132, Operand.tmp 135], argTypes := #[52, 52] }, type := 52, pos := "ref.go:711", after := #[{ on := 0, ground := Ground.data }, { on := 3, ground := Ground.data }, { on := 3, ground := Ground.chain }], guard := none }) rfl (fun K hK => ?_) AllReadyT.nil
                    refine step_call (by rfl) 61 Tryd.f61 #[.tmp 132, .tmp 135] #[52, 52] rfl Tryd.func61 (by kernel_rfl) (by kernel_rfl) #[.slice qo1 qo2 qo3, .slice q7.a q7.n q7.c] (by simp [Act.eval]) _ (join_any ⟨qo1, qo2, qo3⟩ q7 R.ins _ W1 (HS9.out.g.ow.fr F71 (fun _ _ => id)).sl own7.sl (by simp only [List.length_append, shiftI_len]; omega) HJJ.out) ?_
                    rintro e W4 ⟨q8, rfl, own8, F8⟩
                    refine ⟨_, rfl, ?_⟩
                    have F48 := F71.trans F8
                    have o8 := (F48.cell (p := ⟨ob, 0, none⟩) ol9 id).trans o9
                    have oz8 := (F48.frozen (p := ⟨ob, 0, none⟩) ol9 id).trans oz9
                    have ol8 := Nat.lt_of_lt_of_le ol9 F48.size
                    refine hK.out _ _ o8 ?_
                    clear hK K
                    try simp only [Act.put, List.setIfInBounds_toArray, List.set_cons_zero, List.set_cons_succ]
                    refine wpAnyT_ready (rs := [5]) (by kernel_rfl) (by simp) ?_
                    refine AllReadyT.last (o := { dst := none, op := Op.store 52 (Operand.tmp 7) (Operand.tmp 136), type := 0, pos := "ref.go:711", after := #[{ on := 4, ground := Ground.data }, { on := 4, ground := Ground.chain }, { on := 0, ground := Ground.phase }, { on := 1, ground := Ground.phase }, { on := 2, ground := Ground.phase }, { on := 3, ground := Ground.phase }, { on := 4, ground := Ground.phase }], guard := none }) rfl (by kernel_rfl) (fun K hK => ?_) AllReadyT.nil
                    go_simp
                    refine hK.out _ _ ?_
                    clear hK K
                    try simp only [Act.put, List.setIfInBounds_toArray, List.set_cons_zero, List.set_cons_succ]
                    refine wpAny_done (by kernel_rfl) ?_ _
                    obtain ⟨e1, e2, hfo⟩ := set_one W4 ob 0 (.slice q8.a q8.n q8.c) o8
                    have HEND := hide (HS9.out.stored (Q := stsK (gOf l) (L.take (j + 1)) E v ws 0) F48 hfo e1 (by rw [World.frozen?_setCell]; exact oz8) F71.size own8 (by rw [HSN.out, if_is (gOf l) R.E R.v R.ws t a x y AX X Y HAX.out.symm HX.out.symm HY.out.symm _ P1 P2 P3 HP.out.1 HP.out.2.1 HP.out.2.2]; simp))
                    clear e1 e2 hfo o8 oz8 ol8 F48 F71 F7 F8 own7 own8
                    go_wp2_with fail
                    go_roundw
                    case rel => exact ⟨j + 1, by omega, by go_num, T4, q8, nmj, HEND.out, HNM.out⟩
                    case measure => simp [intOf]; omega
              by_cases k4 : k = 4
              · subst k4
                have hUx : stsU (HasN l) x nmj := by
                  have := HU1.out.2.2.2.1
                  unfold stN1 at this
                  simpa using this
                have hF0 := HS.out.g.rp.2.1
                have hT0 := HS.out.g.rp.2.2
                have hnx := ap_next hF0 hT0
                obtain ⟨hX1, hX2, hX3⟩ := HHX.out
                obtain ⟨X, hX⟩ : ∃ X, X = stsK (gOf l) x R.E R.v AX.ws 0 := ⟨_, rfl⟩
                have HIX := hide (ihX c T2 R.v AX.ws R.E nmj ib sx rx wr HS.out.g.rp.1 HFN.out HS.out.g.a (hX1.keep hF0 hX2 (fun k hk => hk.1)) (fun k hk => hnx k (hX2 k hk)) ⟨hX3.1, fun i r z h1 h2 => st_stays _ _ _ _ _ _ _ (hX3.2 i r z h1 h2) hF0 (fun k hk => hk.1) hnx⟩ hUx (by omega) (by omega) (by omega) HSX.out.2.2.2.1 HKE.out.2.2.2.1)
                rw [← hX] at HIX
                have hvX : R.v ≤ X.v := by rw [hX]; exact stsK_v _ _ _ _ _ _
                have hlX : X.ins.length ≤ 2 * stsN x := by rw [hX]; exact (stsK_le _ _ _ _ _ _).i
                have HX := hide hX
                clear hUx hF0 hT0 hnx hX1 hX2 hX3 hX k1 k2 k3
                go_wp2_with (go_at_call 47; refine HIX.out.mono ?_; rintro e w6 ⟨q1, T3, rfl, hO1, hR1, hq1⟩; have HO1 := hide hO1; have HR1 := hide hR1; clear hO1 hR1 hq1)
                have hS6 := HS.out.call (Fr.refl nothing wr) HR1.out hvX
                simp only at hS6
                have g6 := hS6.gc
                have HS6 := hide hS6
                obtain ⟨q1a, q1n, q1c⟩ := q1
                have hq1n : q1n = X.ins.length := HO1.out.n
                obtain ⟨qx, qn, qc⟩ := qa
                have hqn : qn = AX.ins.length := HS.out.ga.n
                subst hq1n
                subst hqn
                replace g6 : w6.cell? ⟨gb, 0, none⟩ = some (.slice qx AX.ins.length qc) := g6
                clear hS6
                go_cut [21] (fun v21 wx => ∃ q5 : Slc, v21 = .slice q5.a q5.n q5.c ∧ Hid (Fr nothing w6 wx ∧ OwnI w6.heap.size q5 (AX.ins ++ [⟨16, ((AX.ins.length : Nat) : Int) + ((X.ins.length : Nat) : Int) + 2, 0⟩]) wx))
                case first =>
                  have hN1 : IntKind.i64.wrap (((AX.ins.length : Nat) : Int) + ((X.ins.length : Nat) : Int)) = ((AX.ins.length : Nat) : Int) + ((X.ins.length : Nat) : Int) := wrap_in _ (by omega) (by omega)
                  have hN2 : IntKind.i64.wrap (((AX.ins.length : Nat) : Int) + ((X.ins.length : Nat) : Int) + 2) = ((AX.ins.length : Nat) : Int) + ((X.ins.length : Nat) : Int) + 2 := wrap_in _ (by omega) (by omega)
                  have gl6 := HS6.out.gl
                  have hal6 := HS6.out.ga.sl
                  have hlA : AX.ins.length ≤ 900000 := by omega
                  have HA := hide (ordA w6 ⟨qx, AX.ins.length, qc⟩ AX.ins ⟨16, ((AX.ins.length : Nat) : Int) + ((X.ins.length : Nat) : Int) + 2, 0⟩ hal6 hlA)
                  have HB := hide (ordB w6 ⟨qx, AX.ins.length, qc⟩ AX.ins ⟨16, ((AX.ins.length : Nat) : Int) + ((X.ins.length : Nat) : Int) + 2, 0⟩ hal6 hlA)
                  have HC := hide (ordC w6 ⟨qx, AX.ins.length, qc⟩ AX.ins ⟨16, ((AX.ins.length : Nat) : Int) + ((X.ins.length : Nat) : Int) + 2, 0⟩ hal6 hlA)
                  have HG := hide (fun w' (hf : Fr nothing w6 w') => (show w'.cell? ⟨gb, 0, none⟩ = some (.slice qx AX.ins.length qc) from (hf.cell (p := ⟨gb, 0, none⟩) gl6 id).trans g6))
                  clear hal6 hlA
                  refine wp_region_held_drew (S := fun w' => w'.cell? ⟨gb, 0, none⟩ = some (.slice qx AX.ins.length qc)) (by kernel_rfl) g6 (fun hHeld => ?_)
                  refine wpAnyH_take (i := 1) (oi := { dst := some 145, op := Op.load 52 (Operand.tmp 13), type := 52, pos := "ref.go:714", after := #[], guard := none }) (v := ?v49) rfl (by kernel_rfl) (by kernel_rfl) (by kernel_rfl) (fun _ _ _ h => h) (Or.inl ⟨by rfl, ?hy49⟩) (by assumption) ?rest49
                  case hy49 => (intro w hSw; (try dsimp only at hSw); go_simp; try with_reducible rfl)
                  try simp only [Act.put, List.setIfInBounds_toArray, List.set_cons_zero, List.set_cons_succ]
                  refine wpAnyH_take (i := 3) (oi := { dst := some 147, op := Op.load 52 (Operand.tmp 13), type := 52, pos := "ref.go:714", after := #[], guard := none }) (v := ?v50) rfl (by kernel_rfl) (by kernel_rfl) (by kernel_rfl) (fun _ _ _ h => h) (Or.inl ⟨by rfl, ?hy50⟩) (by assumption) ?rest50
                  case hy50 => (intro w hSw; (try dsimp only at hSw); go_simp; try with_reducible rfl)
                  try simp only [Act.put, List.setIfInBounds_toArray, List.set_cons_zero, List.set_cons_succ]
                  refine wpAnyH_take (i := 4) (oi := { dst := some 148, op := Op.call { callee := Callee.builtin Builtin.len, args := #[Operand.tmp 147], argTypes := #[52] }, type := 3, pos := "ref.go:714", after := #[{ on := 3, ground := Ground.data }], guard := none }) (v := ?v51) rfl (by kernel_rfl) (by kernel_rfl) (by kernel_rfl) (fun _ _ _ h => h) (Or.inl ⟨by rfl, ?hy51⟩) (by assumption) ?rest51
                  case hy51 => (intro w hSw; (try dsimp only at hSw); go_simp; try with_reducible rfl)
                  try simp only [Act.put, List.setIfInBounds_toArray, List.set_cons_zero, List.set_cons_succ]
                  refine wpAnyH_take (i := 5) (oi := { dst := some 149, op := Op.move (Operand.tmp 20), type := 52, pos := "ref.go:714", after := #[], guard := none }) (v := ?v52) rfl (by kernel_rfl) (by kernel_rfl) (by kernel_rfl) (fun _ _ _ h => h) (Or.inl ⟨by rfl, ?hy52⟩) (by assumption) ?rest52
                  case hy52 => (intro w hSw; (try dsimp only at hSw); go_simp; try with_reducible rfl)
                  try simp only [Act.put, List.setIfInBounds_toArray, List.set_cons_zero, List.set_cons_succ]
                  refine wpAnyH_take (i := 6) (oi := { dst := some 150, op := Op.call { callee := Callee.builtin Builtin.len, args := #[Operand.tmp 149], argTypes := #[52] }, type := 3, pos := "ref.go:714", after := #[{ on := 5, ground := Ground.data }], guard := none }) (v := ?v53) rfl (by kernel_rfl) (by kernel_rfl) (by kernel_rfl) (fun _ _ _ h => h) (Or.inl ⟨by rfl, ?hy53⟩) (by assumption) ?rest53
                  case hy53 => (intro w hSw; (try dsimp only at hSw); go_simp; try with_reducible rfl)
                  try simp only [Act.put, List.setIfInBounds_toArray, List.set_cons_zero, List.set_cons_succ]
                  refine wpAnyH_take (i := 7) (oi := { dst := some 151, op := Op.binOp BinOp.add 3 (Operand.tmp 148) (Operand.tmp 150) 3, type := 3, pos := "ref.go:714", after := #[{ on := 4, ground := Ground.data }, { on := 6, ground := Ground.data }], guard := none }) (v := ?v54) rfl (by kernel_rfl) (by kernel_rfl) (by kernel_rfl) (fun _ _ _ h => h) (Or.inl ⟨by rfl, ?hy54⟩) (by assumption) ?rest54
                  case hy54 => (intro w hSw; (try dsimp only at hSw); go_simp; try with_reducible rfl)
                  try simp only [Act.put, List.setIfInBounds_toArray, List.set_cons_zero, List.set_cons_succ]
                  refine wpAnyH_take (i := 8) (oi := { dst := some 152, op := Op.binOp BinOp.add 3 (Operand.tmp 151) (Operand.const (Value.int IntKind.i64 2)) 3, type := 3, pos := "ref.go:714", after := #[{ on := 7, ground := Ground.data }], guard := none }) (v := ?v55) rfl (by kernel_rfl) (by kernel_rfl) (by kernel_rfl) (fun _ _ _ h => h) (Or.inl ⟨by rfl, ?hy55⟩) (by assumption) ?rest55
                  case hy55 => (intro w hSw; (try dsimp only at hSw); go_simp; try with_reducible rfl)
                  try simp only [Act.put, List.setIfInBounds_toArray, List.set_cons_zero, List.set_cons_succ]
                  refine wpAnyH_take (i := 9) (oi := { dst := some 153, op := Op.build 59 #[(0, Operand.const (Value.int IntKind.i64 16)), (1, Operand.tmp 152)], type := 59, pos := "ref.go:714", after := #[{ on := 8, ground := Ground.data }], guard := none }) (v := ?v56) rfl (by kernel_rfl) (by kernel_rfl) (by kernel_rfl) (fun _ _ _ h => h) (Or.inl ⟨by rfl, ?hy56⟩) (by assumption) ?rest56
                  case hy56 => (intro w hSw; (try dsimp only at hSw); go_simp; try with_reducible rfl)
                  try simp only [Act.put, List.setIfInBounds_toArray, List.set_cons_zero, List.set_cons_succ]
                  refine wpAnyH_ready (rs := [0, 10]) (by kernel_rfl) (by simp) ?_
                  refine AllReadyH.cons (o := { dst := some 144, op := Op.buildSlice 52 0 #[], type := 52, pos := "ref.go:714", after := #[], guard := none }) rfl (fun K hK => ?_) (AllReadyH.cons (o := { dst := some 154, op := Op.buildSlice 52 1 #[(0, Operand.tmp 153)], type := 52, pos := "ref.go:714", after := #[{ on := 9, ground := Ground.data }], guard := none }) rfl (fun K hK => ?_) AllReadyH.nil)
                  · go_simp
                    refine hK _ _ (HG.out _ ((Fr.refl nothing w6).alloc _).drew) (fun _ => ?_)
                    clear hK K
                    try simp only [Act.put, List.setIfInBounds_toArray, List.set_cons_zero, List.set_cons_succ]
                    refine wpAnyH_ready (rs := [2, 10]) (by kernel_rfl) (by simp) ?_
                    refine AllReadyH.cons (o := { dst := some 146, op := Op.call { callee := Callee.builtin Builtin.append, args := #[Operand.tmp 144, Operand.tmp 145], argTypes := #[52, 52] }, type := 52, pos := "ref.go:714", after := #[{ on := 0, ground := Ground.data }, { on := 1, ground := Ground.data }], guard := none }) rfl (fun K hK => ?_) (AllReadyH.cons (o := { dst := some 154, op := Op.buildSlice 52 1 #[(0, Operand.tmp 153)], type := 52, pos := "ref.go:714", after := #[{ on := 9, ground := Ground.data }], guard := none }) rfl (fun K hK => ?_) AllReadyH.nil)
                    · obtain ⟨q5, W2, q7, W4, r1, F2, r2, F4, own4⟩ := HA.out
                      refine step_run rfl _ _ 52 rfl _ _ (by simp [Act.eval]) (by simp [Act.eval]) r1 ?_
                      refine hK _ _ (HG.out _ F2) (fun _ => ?_)
                      clear hK K
                      try simp only [Act.put, List.setIfInBounds_toArray, List.set_cons_zero, List.set_cons_succ]
                      refine wpAnyH_ready (rs := [10]) (by kernel_rfl) (by simp) ?_
                      refine AllReadyH.cons (o := { dst := some 154, op := Op.buildSlice 52 1 #[(0, Operand.tmp 153)], type := 52, pos := "ref.go:714", after := #[{ on := 9, ground := Ground.data }], guard := none }) rfl (fun K hK => ?_) AllReadyH.nil
                      go_simp
                      refine hK _ _ (HG.out _ (F2.alloc _)) (fun _ => ?_)
                      clear hK K
                      try simp only [Act.put, List.setIfInBounds_toArray, List.set_cons_zero, List.set_cons_succ]
                      refine wpAnyH_ready (rs := [11]) (by kernel_rfl) (by simp) ?_
                      refine AllReadyH.cons (o := { dst := some 155, op := Op.call { callee := Callee.builtin Builtin.append, args := #[Operand.tmp 146, Operand.tmp 154], argTypes := #[52, 52] }, type := 52, pos := "ref.go:714", after := #[{ on := 2, ground := Ground.data }, { on := 10, ground := Ground.data }, { on := 2, ground := Ground.chain }], guard := none }) rfl (fun K hK => ?_) AllReadyH.nil
                      refine step_run rfl _ _ 52 rfl _ _ (by simp [Act.eval]) (by simp [Act.eval]) r2 ?_
                      refine hK _ _ (HG.out _ F4) (fun _ => ?_)
                      clear hK K
                      try simp only [Act.put, List.setIfInBounds_toArray, List.set_cons_zero, List.set_cons_succ]
                      refine wpAnyH_take (i := 12) (oi := { dst := some 21, op := Op.assign (Operand.tmp 155), type := 52, pos := "ref.go:714", after := #[{ on := 11, ground := Ground.data }, { on := 11, ground := Ground.chain }, { on := 0, ground := Ground.phase }, { on := 1, ground := Ground.phase }, { on := 2, ground := Ground.phase }, { on := 3, ground := Ground.phase }, { on := 4, ground := Ground.phase }, { on := 5, ground := Ground.phase }, { on := 6, ground := Ground.phase }, { on := 7, ground := Ground.phase }, { on := 8, ground := Ground.phase }, { on := 9, ground := Ground.phase }, { on := 10, ground := Ground.phase }, { on := 11, ground := Ground.phase }], guard := none }) (v := ?v57) rfl (by kernel_rfl) (by kernel_rfl) (by kernel_rfl) (fun _ _ _ h => h) (Or.inl ⟨by rfl, ?hy57⟩) (by assumption) ?rest57
                      case hy57 => (intro w hSw; (try dsimp only at hSw); go_simp; try with_reducible rfl)
                      try simp only [Act.put, List.setIfInBounds_toArray, List.set_cons_zero, List.set_cons_succ]
                      refine wpAnyH_done (by kernel_rfl) ?_ _
                      go_wp2_with fail
                      go_meet
                      case rel => exact ⟨q7, rfl, F4, own4⟩
                    · obtain ⟨q5, W2, q7, W4, r1, F2, r2, F4, own4⟩ := HB.out
                      go_simp
                      refine hK _ _ (HG.out _ (((Fr.refl nothing w6).alloc _).alloc _).drew) (fun _ => ?_)
                      clear hK K
                      try simp only [Act.put, List.setIfInBounds_toArray, List.set_cons_zero, List.set_cons_succ]
                      refine wpAnyH_ready (rs := [2]) (by kernel_rfl) (by simp) ?_
                      refine AllReadyH.cons (o := { dst := some 146, op := Op.call { callee := Callee.builtin Builtin.append, args := #[Operand.tmp 144, Operand.tmp 145], argTypes := #[52, 52] }, type := 52, pos := "ref.go:714", after := #[{ on := 0, ground := Ground.data }, { on := 1, ground := Ground.data }], guard := none }) rfl (fun K hK => ?_) AllReadyH.nil
                      refine step_run rfl _ _ 52 rfl _ _ (by simp [Act.eval]) (by simp [Act.eval]) r1 ?_
                      refine hK _ _ (HG.out _ F2) (fun _ => ?_)
                      clear hK K
                      try simp only [Act.put, List.setIfInBounds_toArray, List.set_cons_zero, List.set_cons_succ]
                      refine wpAnyH_ready (rs := [11]) (by kernel_rfl) (by simp) ?_
                      refine AllReadyH.cons (o := { dst := some 155, op := Op.call { callee := Callee.builtin Builtin.append, args := #[Operand.tmp 146, Operand.tmp 154], argTypes := #[52, 52] }, type := 52, pos := "ref.go:714", after := #[{ on := 2, ground := Ground.data }, { on := 10, ground := Ground.data }, { on := 2, ground := Ground.chain }], guard := none }) rfl (fun K hK => ?_) AllReadyH.nil
                      refine step_run rfl _ _ 52 rfl _ _ (by simp [Act.eval]) (by simp [Act.eval]) r2 ?_
                      refine hK _ _ (HG.out _ F4) (fun _ => ?_)
                      clear hK K
                      try simp only [Act.put, List.setIfInBounds_toArray, List.set_cons_zero, List.set_cons_succ]
                      refine wpAnyH_take (i := 12) (oi := { dst := some 21, op := Op.assign (Operand.tmp 155), type := 52, pos := "ref.go:714", after := #[{ on := 11, ground := Ground.data }, { on := 11, ground := Ground.chain }, { on := 0, ground := Ground.phase }, { on := 1, ground := Ground.phase }, { on := 2, ground := Ground.phase }, { on := 3, ground := Ground.phase }, { on := 4, ground := Ground.phase }, { on := 5, ground := Ground.phase }, { on := 6, ground := Ground.phase }, { on := 7, ground := Ground.phase }, { on := 8, ground := Ground.phase }, { on := 9, ground := Ground.phase }, { on := 10, ground := Ground.phase }, { on := 11, ground := Ground.phase }], guard := none }) (v := ?v58) rfl (by kernel_rfl) (by kernel_rfl) (by kernel_rfl) (fun _ _ _ h => h) (Or.inl ⟨by rfl, ?hy58⟩) (by assumption) ?rest58
                      case hy58 => (intro w hSw; (try dsimp only at hSw); go_simp; try with_reducible rfl)
                      try simp only [Act.put, List.setIfInBounds_toArray, List.set_cons_zero, List.set_cons_succ]
                      refine wpAnyH_done (by kernel_rfl) ?_ _
                      go_wp2_with fail
                      go_meet
                      case rel => exact ⟨q7, rfl, F4, own4⟩
                  · obtain ⟨q5, W2, q7, W4, r1, F2, r2, F4, own4⟩ := HC.out
                    go_simp
                    refine hK _ _ (HG.out _ ((Fr.refl nothing w6).alloc _).drew) (fun _ => ?_)
                    clear hK K
                    try simp only [Act.put, List.setIfInBounds_toArray, List.set_cons_zero, List.set_cons_succ]
                    refine wpAnyH_ready (rs := [0]) (by kernel_rfl) (by simp) ?_
                    refine AllReadyH.cons (o := { dst := some 144, op := Op.buildSlice 52 0 #[], type := 52, pos := "ref.go:714", after := #[], guard := none }) rfl (fun K hK => ?_) AllReadyH.nil
                    go_simp
                    refine hK _ _ (HG.out _ (((Fr.refl nothing w6).alloc _).alloc _).drew) (fun _ => ?_)
                    clear hK K
                    try simp only [Act.put, List.setIfInBounds_toArray, List.set_cons_zero, List.set_cons_succ]
                    refine wpAnyH_ready (rs := [2]) (by kernel_rfl) (by simp) ?_
                    refine AllReadyH.cons (o := { dst := some 146, op := Op.call { callee := Callee.builtin Builtin.append, args := #[Operand.tmp 144, Operand.tmp 145], argTypes := #[52, 52] }, type := 52, pos := "ref.go:714", after := #[{ on := 0, ground := Ground.data }, { on := 1, ground := Ground.data }], guard := none }) rfl (fun K hK => ?_) AllReadyH.nil
                    refine step_run rfl _ _ 52 rfl _ _ (by simp [Act.eval]) (by simp [Act.eval]) r1 ?_
                    refine hK _ _ (HG.out _ F2) (fun _ => ?_)
                    clear hK K
                    try simp only [Act.put, List.setIfInBounds_toArray, List.set_cons_zero, List.set_cons_succ]
                    refine wpAnyH_ready (rs := [11]) (by kernel_rfl) (by simp) ?_
                    refine AllReadyH.cons (o := { dst := some 155, op := Op.call { callee := Callee.builtin Builtin.append, args := #[Operand.tmp 146, Operand.tmp 154], argTypes := #[52, 52] }, type := 52, pos := "ref.go:714", after := #[{ on := 2, ground := Ground.data }, { on := 10, ground := Ground.data }, { on := 2, ground := Ground.chain }], guard := none }) rfl (fun K hK => ?_) AllReadyH.nil
                    refine step_run rfl _ _ 52 rfl _ _ (by simp [Act.eval]) (by simp [Act.eval]) r2 ?_
                    refine hK _ _ (HG.out _ F4) (fun _ => ?_)
                    clear hK K
                    try simp only [Act.put, List.setIfInBounds_toArray, List.set_cons_zero, List.set_cons_succ]
                    refine wpAnyH_take (i := 12) (oi := { dst := some 21, op := Op.assign (Operand.tmp 155), type := 52, pos := "ref.go:714", after := #[{ on := 11, ground := Ground.data }, { on := 11, ground := Ground.chain }, { on := 0, ground := Ground.phase }, { on := 1, ground := Ground.phase }, { on := 2, ground := Ground.phase }, { on := 3, ground := Ground.phase }, { on := 4, ground := Ground.phase }, { on := 5, ground := Ground.phase }, { on := 6, ground := Ground.phase }, { on := 7, ground := Ground.phase }, { on := 8, ground := Ground.phase }, { on := 9, ground := Ground.phase }, { on := 10, ground := Ground.phase }, { on := 11, ground := Ground.phase }], guard := none }) (v := ?v59) rfl (by kernel_rfl) (by kernel_rfl) (by kernel_rfl) (fun _ _ _ h => h) (Or.inl ⟨by rfl, ?hy59⟩) (by assumption) ?rest59
                    case hy59 => (intro w hSw; (try dsimp only at hSw); go_simp; try with_reducible rfl)
                    try simp only [Act.put, List.setIfInBounds_toArray, List.set_cons_zero, List.set_cons_succ]
                    refine wpAnyH_done (by kernel_rfl) ?_ _
                    go_wp2_with fail
                    go_meet
                    case rel => exact ⟨q7, rfl, F4, own4⟩
                case rest =>
                  obtain ⟨q5, rfl, hcc⟩ := hcut
                  have hS7 := HS6.out.new hcc.out.1
                  have o7 := hS7.g.o
                  have oz7 := hS7.g.oz
                  have ol7 := hS7.g.ol
                  have HS7 := hide hS7
                  obtain ⟨qo1, qo2, qo3⟩ := q
                  replace o7 : wc.cell? ⟨ob, 0, none⟩ = some (.slice qo1 qo2 qo3) := o7
                  have hjX : ∀ z ∈ X.ins, JOk z := by
                    have h1 := stsK_j (gOf l) x R.E R.v AX.ws 0
                    rw [← HX.out] at h1
                    exact h1.ok (by omega)
                  have HJX := hide hjX
                  have HW : Hid (∀ w', Fr nothing wc w' → Sl encI 3 w' (Slc.v ⟨q1a, X.ins.length, q1c⟩) X.ins) := fun w' hf => ((HO1.out.fr hcc.out.1 (fun _ _ => id)).fr hf (fun _ _ => id)).sl
                  have HQ5 : Hid (∀ w', Fr nothing wc w' → Sl encI 3 w' q5.v (AX.ins ++ [⟨16, ((AX.ins.length : Nat) : Int) + ((X.ins.length : Nat) : Int) + 2, 0⟩])) := fun w' hf => (hcc.out.2.fr hf (fun _ _ => id)).sl
                  clear hS7 hjX
                  go_wp2_with fail
                  refine wp_region_T (S := fun w' => w'.cell? ⟨ob, 0, none⟩ = some (.slice qo1 qo2 qo3)) (by kernel_rfl) [8] o7 (fun hHeld => ?_)
                  refine wpAnyT_take (i := 0) (oi := { dst := some 156, op := Op.load 52 (Operand.tmp 7), type := 52, pos := "ref.go:715", after := #[], guard := none }) (v := ?v60) rfl (by kernel_rfl) (by kernel_rfl) (by kernel_rfl) (by kernel_rfl) (by kernel_rfl) (fun _ _ _ h => h) (Or.inl ⟨by rfl, ?hy60⟩) (by assumption) ?rest60
                  case hy60 => (intro w hSw; (try dsimp only at hSw); go_simp; try with_reducible rfl)
                  try simp only [Act.put, List.setIfInBounds_toArray, List.set_cons_zero, List.set_cons_succ]
                  refine wpAnyT_take (i := 1) (oi := { dst := some 157, op := Op.move (Operand.tmp 21), type := 52, pos := "ref.go:715", after := #[], guard := none }) (v := ?v61) rfl (by kernel_rfl) (by kernel_rfl) (by kernel_rfl) (by kernel_rfl) (by kernel_rfl) (fun _ _ _ h => h) (Or.inl ⟨by rfl, ?hy61⟩) (by assumption) ?rest61
                  case hy61 => (intro w hSw; (try dsimp only at hSw); go_simp; try with_reducible rfl)
                  try simp only [Act.put, List.setIfInBounds_toArray, List.set_cons_zero, List.set_cons_succ]
                  refine wpAnyT_take (i := 2) (oi := { dst := some 158, op := Op.move (Operand.tmp 20), type := 52, pos := "ref.go:715", after := #[], guard := none }) (v := ?v62) rfl (by kernel_rfl) (by kernel_rfl) (by kernel_rfl) (by kernel_rfl) (by kernel_rfl) (fun _ _ _ h => h) (Or.inl ⟨by rfl, ?hy62⟩) (by assumption) ?rest62
                  case hy62 => (intro w hSw; (try dsimp only at hSw); go_simp; try with_reducible rfl)
                  try simp only [Act.put, List.setIfInBounds_toArray, List.set_cons_zero, List.set_cons_succ]
                  refine wpAnyT_take (i := 4) (oi := { dst := some 160, op := Op.build 59 #[(0, Operand.const (Value.int IntKind.i64 15)), (1, Operand.const (Value.int IntKind.i64 0))], type := 59, pos := "ref.go:715", after := #[], guard := none }) (v := ?v63) rfl (by kernel_rfl) (by kernel_rfl) (by kernel_rfl) (by kernel_rfl) (by kernel_rfl) (fun _ _ _ h => h) (Or.inl ⟨by rfl, ?hy63⟩) (by assumption) ?rest63
                  case hy63 => (intro w hSw; (try dsimp only at hSw); go_simp; try with_reducible rfl)
                  try simp only [Act.put, List.setIfInBounds_toArray, List.set_cons_zero, List.set_cons_succ]
                  refine wpAnyT_ready (rs := [3, 5]) (by kernel_rfl) (by simp) ?_
                  have HJJ : Hid (∀ z ∈ ((AX.ins ++ [⟨16, ((AX.ins.length : Nat) : Int) + ((X.ins.length : Nat) : Int) + 2, 0⟩]) ++ shiftI ((AX.ins ++ [In.mk 16 (((AX.ins.length : Nat) : Int) + ((X.ins.length : Nat) : Int) + 2) 0]).length : Nat) X.ins) ++ [In.mk 15 0 0], JOk z) := by
                    have h1 := stsK_j (gOf l) x R.E R.v AX.ws 0
                    rw [← HX.out] at h1
                    exact JOk.app (JOk.app (JOk.app (JOk.no hno) (JOk.one ⟨by omega, by omega⟩)) (JOk.shift h1 (by simp only [List.length_append, List.length_singleton]; omega))) (JOk.one ⟨by decide, by decide⟩)
                  refine AllReadyT.cons (o := { dst := some 159, op := Op.call { callee := Callee.value (Operand.func 61), args := #[Operand.tmp 157, Operand.tmp 158], argTypes := #[52, 52] }, type := 52, pos := "ref.go:715", after := #[{ on := 1, ground := Ground.data }, { on := 2, ground := Ground.data }], guard := none }) rfl (fun K hK => ?_) (AllReadyT.cons (o := { dst := some 161, op := Op.buildSlice 52 1 #[(0, Operand.tmp 160)], type := 52, pos := "ref.go:715", after := #[{ on := 4, ground := Ground.data }], guard := none }) rfl (fun K hK => ?_) AllReadyT.nil)
                  · have D0 : Fr nothing wc wc.drew := (Fr.refl nothing wc).drew
                    refine step_call (by rfl) 61 Tryd.f61 #[.tmp 157, .tmp 158] #[52, 52] rfl Tryd.func61 (by kernel_rfl) (by kernel_rfl) #[.slice q5.a q5.n q5.c, .slice q1a X.ins.length q1c] (by simp [Act.eval]) _ (join_any q5 ⟨q1a, X.ins.length, q1c⟩ _ X.ins _ (HQ5.out _ D0) (HW.out _ D0) (by simp only [List.length_append, List.length_singleton]; omega) HJX.out) ?_
                    rintro e W1 ⟨q6, rfl, own6, F6⟩
                    refine ⟨_, rfl, ?_⟩
                    have F61 : Fr nothing wc W1 := D0.trans F6
                    refine hK.out _ _ ((F61.cell (p := ⟨ob, 0, none⟩) ol7 id).trans o7) ?_
                    clear hK K
                    try simp only [Act.put, List.setIfInBounds_toArray, List.set_cons_zero, List.set_cons_succ]
                    refine wpAnyT_ready (rs := [5]) (by kernel_rfl) (by simp) ?_
                    refine AllReadyT.cons (o := { dst := some 161, op := Op.buildSlice 52 1 #[(0, Operand.tmp 160)], type := 52, pos := "ref.go:715", after := #[{ on := 4, ground := Ground.data }], guard := none }) rfl (fun K hK => ?_) AllReadyT.nil
                    go_simp
                    refine hK.out _ _ (((F61.alloc _).cell (p := ⟨ob, 0, none⟩) ol7 id).trans o7) ?_
                    clear hK K
                    try simp only [Act.put, List.setIfInBounds_toArray, List.set_cons_zero, List.set_cons_succ]
                    have FL : Fr nothing W1 (W1.alloc (litO ⟨15, 0, 0⟩)) := (Fr.refl _ _).alloc _
                    obtain ⟨q7, W3, r3, own7, F7, t7⟩ := (own6.fr FL (fun _ _ => id)).app (x := ⟨some ⟨W1.heap.size, 0, none⟩, 1, 1⟩) (sl_litI W1 ⟨15, 0, 0⟩) (Nat.le_trans F6.size FL.size) (by simp only [List.length_append, List.length_singleton, shiftI_len]; omega)
                    have F37 : Fr nothing wc W3 := (F61.trans FL).then F7 (fun k hk e => by have h1 := (own6.lt e).1; have h2 : wc.drew.heap.size = wc.heap.size := rfl; omega)
                    refine wpAnyT_ready (rs := [6]) (by kernel_rfl) (by simp) ?_
                    refine AllReadyT.cons (o := { dst := some 162, op := Op.call { callee := Callee.builtin Builtin.append, args := #[Operand.tmp 159, Operand.tmp 161], argTypes := #[52, 52] }, type := 52, pos := "ref.go:715", after := #[{ on := 3, ground := Ground.data }, { on := 5, ground := Ground.data }, { on := 3, ground := Ground.chain }], guard := none }) rfl (fun K hK => ?_) AllReadyT.nil
                    refine step_run rfl _ _ 52 rfl _ _ (by simp [Act.eval]) (by simp [Act.eval]) r3 ?_
                    refine hK.out _ _ ((F37.cell (p := ⟨ob, 0, none⟩) ol7 id).trans o7) ?_
                    clear hK K
                    try simp only [Act.put, List.setIfInBounds_toArray, List.set_cons_zero, List.set_cons_succ]
                    refine wpAnyT_ready (rs := [7]) (by kernel_rfl) (by simp) ?_
                    refine AllReadyT.cons (o := { dst := some 163, op := Op.call { callee := Callee.value (Operand.func 61), args := #[Operand.tmp 156, Operand.tmp 162], argTypes := #[52, 52] }, type := 52, pos := "ref.go:715", after := #[{ on := 0, ground := Ground.data }, { on := 6, ground := Ground.data }, { on := 6, ground := Ground.chain }], guard := none }) rfl (fun K hK => ?_) AllReadyT.nil
                    refine step_call (by rfl) 61 Tryd.f61 #[.tmp 156, .tmp 162] #[52, 52] rfl Tryd.func61 (by kernel_rfl) (by kernel_rfl) #[.slice qo1 qo2 qo3, .slice q7.a q7.n q7.c] (by simp [Act.eval]) _ (join_any ⟨qo1, qo2, qo3⟩ q7 R.ins _ W3 (HS7.out.g.ow.fr F37 (fun _ _ => id)).sl own7.sl (by simp only [List.length_append, List.length_singleton, shiftI_len]; omega) HJJ.out) ?_
                    rintro e W4 ⟨q8, rfl, own8, F8⟩
                    refine ⟨_, rfl, ?_⟩
                    have F48 := F37.trans F8
                    have o8 := (F48.cell (p := ⟨ob, 0, none⟩) ol7 id).trans o7
                    have oz8 := (F48.frozen (p := ⟨ob, 0, none⟩) ol7 id).trans oz7
                    have ol8 := Nat.lt_of_lt_of_le ol7 F48.size
                    refine hK.out _ _ o8 ?_
                    clear hK K
                    try simp only [Act.put, List.setIfInBounds_toArray, List.set_cons_zero, List.set_cons_succ]
                    refine wpAnyT_ready (rs := [8]) (by kernel_rfl) (by simp) ?_
                    refine AllReadyT.last (o := { dst := none, op := Op.store 52 (Operand.tmp 7) (Operand.tmp 163), type := 0, pos := "ref.go:715", after := #[{ on := 7, ground := Ground.data }, { on := 7, ground := Ground.chain }, { on := 0, ground := Ground.phase }, { on := 1, ground := Ground.phase }, { on := 2, ground := Ground.phase }, { on := 3, ground := Ground.phase }, { on := 4, ground := Ground.phase }, { on := 5, ground := Ground.phase }, { on := 6, ground := Ground.phase }, { on := 7, ground := Ground.phase }], guard := none }) rfl (by kernel_rfl) (fun K hK => ?_) AllReadyT.nil
                    go_simp
                    refine hK.out _ _ ?_
                    clear hK K
                    try simp only [Act.put, List.setIfInBounds_toArray, List.set_cons_zero, List.set_cons_succ]
                    refine wpAny_done (by kernel_rfl) ?_ _
                    obtain ⟨e1, e2, hfo⟩ := set_one W4 ob 0 (.slice q8.a q8.n q8.c) o8
                    have HEND := hide (HS7.out.stored (Q := stsK (gOf l) (L.take (j + 1)) E v ws 0) F48 hfo e1 (by rw [World.frozen?_setCell]; exact oz8) F37.size own8 (by rw [HSN.out, while_is (gOf l) R.E R.v R.ws t a x y AX X HAX.out.symm HX.out.symm]; simp))
                    clear e1 e2 hfo o8 oz8 ol8 F48 F37 F7 F8 own7 own8 t7 r3
                    go_wp2_with fail
                    go_roundw
                    case rel => exact ⟨j + 1, by omega, by go_num, T3, q8, nmj, HEND.out, HNM.out⟩
                    case measure => simp [intOf]; omega
                  · have D0 : Fr nothing wc (wc.alloc (litO ⟨15, 0, 0⟩)).drew := ((Fr.refl nothing wc).alloc _).drew
                    have hSL : Sl encI 3 (wc.alloc (litO ⟨15, 0, 0⟩)).drew (Slc.v ⟨some ⟨wc.heap.size, 0, none⟩, 1, 1⟩) [⟨15, 0, 0⟩] := (sl_litI wc ⟨15, 0, 0⟩).fr (Fr.refl nothing _).drew (fun _ _ => id)
                    go_simp
                    refine hK.out _ _ ((D0.cell (p := ⟨ob, 0, none⟩) ol7 id).trans o7) ?_
                    clear hK K
                    try simp only [Act.put, List.setIfInBounds_toArray, List.set_cons_zero, List.set_cons_succ]
                    refine wpAnyT_ready (rs := [3]) (by kernel_rfl) (by simp) ?_
                    refine AllReadyT.cons (o := { dst := some 159, op := Op.call { callee := Callee.value (Operand.func 61), args := #[Operand.tmp 157, Operand.tmp 158], argTypes := #[52, 52] }, type := 52, pos := "ref.go:715", after := #[{ on := 1, ground := Ground.data }, { on := 2, ground := Ground.data }], guard := none }) rfl (fun K hK => ?_) AllReadyT.nil
                    refine step_call (by rfl) 61 Tryd.f61 #[.tmp 157, .tmp 158] #[52, 52] rfl Tryd.func61 (by kernel_rfl) (by kernel_rfl) #[.slice q5.a q5.n q5.c, .slice q1a X.ins.length q1c] (by simp [Act.eval]) _ (join_any q5 ⟨q1a, X.ins.length, q1c⟩ _ X.ins _ (HQ5.out _ D0) (HW.out _ D0) (by simp only [List.length_append, List.length_singleton]; omega) HJX.out) ?_
                    rintro e W1 ⟨q6, rfl, own6, F6⟩
                    refine ⟨_, rfl, ?_⟩
                    have F61 : Fr nothing wc W1 := D0.trans F6
                    refine hK.out _ _ ((F61.cell (p := ⟨ob, 0, none⟩) ol7 id).trans o7) ?_
                    clear hK K
                    try simp only [Act.put, List.setIfInBounds_toArray, List.set_cons_zero, List.set_cons_succ]
                    obtain ⟨q7, W3, r3, own7, F7, t7⟩ := own6.app (x := ⟨some ⟨wc.heap.size, 0, none⟩, 1, 1⟩) (hSL.fr F6 (fun _ _ => id)) F6.size (by simp only [List.length_append, List.length_singleton, shiftI_len]; omega)
                    have F37 : Fr nothing wc W3 := F61.then F7 (fun k hk e => by exact absurd (Nat.lt_of_lt_of_le hk (Nat.le_trans D0.size (own6.lt e).1)) (Nat.lt_irrefl _))
                    refine wpAnyT_ready (rs := [6]) (by kernel_rfl) (by simp) ?_
                    refine AllReadyT.cons (o := { dst := some 162, op := Op.call { callee := Callee.builtin Builtin.append, args := #[Operand.tmp 159, Operand.tmp 161], argTypes := #[52, 52] }, type := 52, pos := "ref.go:715", after := #[{ on := 3, ground := Ground.data }, { on := 5, ground := Ground.data }, { on := 3, ground := Ground.chain }], guard := none }) rfl (fun K hK => ?_) AllReadyT.nil
                    refine step_run rfl _ _ 52 rfl _ _ (by simp [Act.eval]) (by simp [Act.eval]) r3 ?_
                    refine hK.out _ _ ((F37.cell (p := ⟨ob, 0, none⟩) ol7 id).trans o7) ?_
                    clear hK K
                    try simp only [Act.put, List.setIfInBounds_toArray, List.set_cons_zero, List.set_cons_succ]
                    refine wpAnyT_ready (rs := [7]) (by kernel_rfl) (by simp) ?_
                    refine AllReadyT.cons (o := { dst := some 163, op := Op.call { callee := Callee.value (Operand.func 61), args := #[Operand.tmp 156, Operand.tmp 162], argTypes := #[52, 52] }, type := 52, pos := "ref.go:715", after := #[{ on := 0, ground := Ground.data }, { on := 6, ground := Ground.data }, { on := 6, ground := Ground.chain }], guard := none }) rfl (fun K hK => ?_) AllReadyT.nil
                    refine step_call (by rfl) 61 Tryd.f61 #[.tmp 156, .tmp 162] #[52, 52] rfl Tryd.func61 (by kernel_rfl) (by kernel_rfl) #[.slice qo1 qo2 qo3, .slice q7.a q7.n q7.c] (by simp [Act.eval]) _ (join_any ⟨qo1, qo2, qo3⟩ q7 R.ins _ W3 (HS7.out.g.ow.fr F37 (fun _ _ => id)).sl own7.sl (by simp only [List.length_append, List.length_singleton, shiftI_len]; omega) HJJ.out) ?_
                    rintro e W4 ⟨q8, rfl, own8, F8⟩
                    refine ⟨_, rfl, ?_⟩
                    have F48 := F37.trans F8
                    have o8 := (F48.cell (p := ⟨ob, 0, none⟩) ol7 id).trans o7
                    have oz8 := (F48.frozen (p := ⟨ob, 0, none⟩) ol7 id).trans oz7
                    have ol8 := Nat.lt_of_lt_of_le ol7 F48.size
                    refine hK.out _ _ o8 ?_
                    clear hK K
                    try simp only [Act.put, List.setIfInBounds_toArray, List.set_cons_zero, List.set_cons_succ]
                    refine wpAnyT_ready (rs := [8]) (by kernel_rfl) (by simp) ?_
                    refine AllReadyT.last (o := { dst := none, op := Op.store 52 (Operand.tmp 7) (Operand.tmp 163), type := 0, pos := "ref.go:715", after := #[{ on := 7, ground := Ground.data }, { on := 7, ground := Ground.chain }, { on := 0, ground := Ground.phase }, { on := 1, ground := Ground.phase }, { on := 2, ground := Ground.phase }, { on := 3, ground := Ground.phase }, { on := 4, ground := Ground.phase }, { on := 5, ground := Ground.phase }, { on := 6, ground := Ground.phase }, { on := 7, ground := Ground.phase }], guard := none }) rfl (by kernel_rfl) (fun K hK => ?_) AllReadyT.nil
                    go_simp
                    refine hK.out _ _ ?_
                    clear hK K
                    try simp only [Act.put, List.setIfInBounds_toArray, List.set_cons_zero, List.set_cons_succ]
                    refine wpAny_done (by kernel_rfl) ?_ _
                    obtain ⟨e1, e2, hfo⟩ := set_one W4 ob 0 (.slice q8.a q8.n q8.c) o8
                    have HEND := hide (HS7.out.stored (Q := stsK (gOf l) (L.take (j + 1)) E v ws 0) F48 hfo e1 (by rw [World.frozen?_setCell]; exact oz8) F37.size own8 (by rw [HSN.out, while_is (gOf l) R.E R.v R.ws t a x y AX X HAX.out.symm HX.out.symm]; simp))
                    clear e1 e2 hfo o8 oz8 ol8 F48 F37 F7 F8 own7 own8 t7 r3
                    go_wp2_with fail
                    go_roundw
                    case rel => exact ⟨j + 1, by omega, by go_num, T3, q8, nmj, HEND.out, HNM.out⟩
                    case measure => simp [intOf]; omega
              have hkr : -9223372036854775808 ≤ k ∧ k ≤ 9223372036854775807 := by have := HKE.out; omega
              obtain ⟨m1, m2, m3, m4, m5, r1, r2, r3, r4, r5, r6, hF5, hl5⟩ := sts_run wr
              have hlk := r6 k hkr.1 hkr.2
              have e1 := stsF_op k k1 k2 k3 k4
              rw [e1] at hlk
              have hS5 := HS.out.new hF5
              have t0 := hS5.s 0 _ rfl
              have tl0 := hS5.sl
              have HONE := hide (hS5.one (stOp k) 0 (stOp_no k) hno (by show R.ins.length ≤ _; omega) (by omega))
              rw [stK_plain HAX.out.symm k1 k2 k3 k4] at HSN
              have hmm := @run_makeMap Tryd.prog
              have p1 : (k == 1) = false := by simpa using k1
              have p2 : (k == 2) = false := by simpa using k2
              have p3 : (k == 3) = false := by simpa using k3
              have p4 : (k == 4) = false := by simpa using k4
              clear hS5 hF5 e1 r6 hkr
              go_wp2_with (go_at_call 60; refine HONE.out.mono ?_; rintro e w6 ⟨rfl, q', hG6⟩; have HG6 := hide hG6; clear hG6)
              go_roundw
              case rel =>
                refine ⟨j + 1, by omega, by go_num, T2, q', nmj, ?_, HNM.out⟩
                rw [HSN.out]
                exact HG6.out
              case measure => simp [intOf]; omega
        · obtain ⟨T', q, nmj, hG, hUj⟩ := hR.out
          have hje : j = L.length := by omega
          rw [hje, List.take_length] at hG
          have hoc := hG.o
          have hol2 := hG.ol
          have HG := hide hG
          clear hR hG hUj hje hrg hn
          obtain ⟨qx, qn, qc⟩ := q
          replace hoc : wr.cell? ⟨ob, 0, none⟩ = some (.slice qx qn qc) := hoc
          go_wp2_with fail
          go_ret
          exact ⟨⟨qx, qn, qc⟩, T', rfl, HG.out.ow, HG.out.rp, fun b hb => (HG.out.qt b hb).1⟩
    · have HC2 := hide (show Cp ab (w.heap.size + 1) (w.heap.size + 2) A w2 ∧ Fr (fun k => k = w.heap.size + 2 ∨ k = w.heap.size + 1) w3 w2 from ⟨hC2, hF.trans hF2⟩)
      clear hC hF hC2 hF2 hrel
      go_wp2_with (at_next; go_must (refine wpList_next_run rfl _ rfl _ rfl hn ?_))
      go_roundw
      case rel => exact HC2.out
      case measure => exact hlt
end Go.Proofs.YtpemfikdmkmgbaaDoor
end
