/- A statement. -/
import Derived.Test.YtbplfhjpajkcoabDoorStmtA
namespace Go.Proofs.YtbplfhjpajkcoabDoor
open Go.RowKit

theorem times_some_StmtC {α : Type} {one : Bs → R α} {n : Nat} {l l' : Bs} {xs : List α} (hn : 1 ≤ n) (h : times one n l = .ok xs l') : ∃ a x b, one a = .ok x b := by
  obtain ⟨m, rfl⟩ : ∃ m, n = m + 1 := ⟨n - 1, by omega⟩
  obtain ⟨x, l1, h1, _⟩ := go_ok h
  exact ⟨l, x, l1, h1⟩
set_option maxHeartbeats 1000000 in
set_option maxRecDepth 20000 in
theorem stmt_main_c (T : ByteArray) (mb rb p : Nat) (w : World) (deep : Int) (hd0 : 0 ≤ deep) (hd1 : deep ≤ 100) (h : Ry T mb rb p w) {l : Bs} (hb : bracketP 40 (T.data.toList.drop p) = .ok () l) {v l2 : Bs} (hw : wordP l = .ok v l2) (i0 : ((formOf v).s == 0) = false) (i1 : ((formOf v).s == 1) = false) (i2 : ((formOf v).s == 2) = false)
    (one : Bs → R Ex) (hless : Less one) (nest : Bs → R (List St))
    (hone : ∀ p w, Ry T mb rb p w → Calls Tryd.prog 55 #[.pointer (some ⟨rb, 0, none⟩), .int .i64 (deep + 1)] w (EPost T mb rb w (one (T.data.toList.drop p))))
    (hnest : (∃ a x b, one a = .ok x b) → ∀ p w, Ry T mb rb p w → Calls Tryd.prog 34 #[.pointer (some ⟨rb, 0, none⟩), .int .i64 (deep + 1)] w (LPost encS 5 StOk T mb rb w (nest (T.data.toList.drop p))))
    {res : R St} (hres : res = (times one (formOf v).n l2).go fun a l => (restP nest (formOf v).s l).go fun xy l => .ok (.mk (formOf v).s [] a xy.1 xy.2) l) :
    Calls Tryd.prog 51 #[.pointer (some ⟨rb, 0, none⟩), .int .i64 deep] w (SPost T mb rb w res) := by
  have hvl : v.length ≤ 1500 := by
    have h1 := word_len hw
    have h2 := bracket_less 40 _ _ _ hb
    rw [drop_len] at h2
    have := h.big
    omega
  have hn12 := form_s v (by simpa using i0)
  have hF0 : Fr (fun k => k = rb) w (w.alloc (.cells z43 43)) := (Fr.refl _ w).alloc _
  have h0 : Ry T mb rb p (w.alloc (.cells z43 43)) := h.fr ((Fr.refl _ w).alloc _)
  have hrb : rb < w.heap.size := h.rx.rd.lt
  have hmb : mb < w.heap.size := World.ownsMap.lt h.rx.fm
  have h2b := h.two
  have hbig := h.big
  have HC := hide (bracket_ok T _ rb p _ h0.rx.rd h.le h.big 40 hb)
  have HF0 := hide hF0
  have H0 := hide h0
  clear h h0 hb hF0
  have HRES := hide hres
  clear hres
  have HONE := hide hone
  have HNEST := hide hnest
  clear hone hnest
  obtain ⟨j0, hj0, hy0, hy1, hy2⟩ := info_parts size90
  go_enter Tryd.func51, Tryd.ntmps51
  go_wp2_with (first
    | (go_at_call 31; refine HC.out.mono ?_; rintro e w1 ⟨p1, rfl, hat, hR1, hF1⟩; have HY1 := hide (H0.out.of hR1 hat.1 hF1); have HB1 := hide ((B5.made w).fr hF1 (by show ¬ w.heap.size = rb; omega)); have HF1 := hide (HF0.out.trans hF1); have HW := hide (word_ok T _ rb p1 w1 hR1 hat.1 hbig (by rw [hat.2]; exact hw)); clear hF1 hat hR1)
    | (go_at_call 47; refine HW.out.mono ?_; rintro e w2 ⟨p2, rfl, hat2, hR2, hF2⟩; have hY2 := HY1.out.of hR2 hat2.1 hF2; have hlk := hY2.rx.fm.look v (by unfold maxLen; omega); have b2 := hR2.fms; have hb := hR2.lt; have HY2 := hide hY2; have HA2 := hide hat2; have HB2 := hide (HB1.out.fr hF2 (by show ¬ w.heap.size = rb; omega)); have HF2 := hide (HF1.out.trans hF2); have hWS := wS_cells w2 (formOf v); have HWS := hide hWS; have HYS := hide (hY2.fr hWS.2.2.2.1); have HBS := hide (HB2.out.fr hWS.2.2.2.1 id); have HFS : Hid (Fr (fun k => k = rb) w (wS w2 (formOf v))) := ((HF2.out.alloc _).alloc _); have hl9 := hWS.2.2.1; have hb2 : w.heap.size < w2.heap.size := HB2.out.lt; clear hWS; generalize formOf v = f at *; clear hF2 hat2 hR2 hY2))
  have hJ0 : ∃ (WL : World) (pL : Nat), WL = (wS w2 f) ∧ At T pL l2 ∧ JT T mb rb WL (w2.heap.size + 1) f.s [] [] pL WL ∧ B5 w.heap.size WL ∧ Fr (fun k => k = rb) w WL ∧ w2.heap.size + 1 < WL.heap.size := by
    exact ⟨_, p2, rfl, HA2.out, ⟨HYS.out, Fr.refl _ _, HWS.out.1 0, HWS.out.1 1, HWS.out.1 3, HWS.out.1 4, HWS.out.2.1 2, HWS.out.2.1 3, HWS.out.2.1 4, Nat.zero_le _, _, HWS.out.1 2, Row.nil _ (Nat.le_refl _)⟩, HBS.out, HFS.out, by rw [HWS.out.2.2.1]; omega⟩
  obtain ⟨WL, pL, hWL, hatL, hJL, hBL, hFL, hbL⟩ := hJ0
  first | rw [← hWL] | skip
  have HJL := hide hJL
  have HBL := hide hBL
  have HFL := hide hFL
  have HAL := hide hatL
  have hrL : rb < WL.heap.size := Nat.lt_of_lt_of_le hrb hFL.size
  have hmL : mb < WL.heap.size := Nat.lt_of_lt_of_le hmb hFL.size
  have HWL := hide hWL
  clear hJL hBL hFL hatL hWL
  have hbw : w.heap.size < w2.heap.size + 1 := by omega
  generalize hbst : w2.heap.size + 1 = bst at *
  have HBST := hide hbst
  clear hbst
  go_loopw [61] (fun i wr => ∃ (k : Nat) (acc : List Ex) (q : Nat), k ≤ f.n ∧ i = .int .i64 k ∧ Hid (JT T mb rb WL bst f.s [] acc q wr ∧ times one f.n l2 = (times one (f.n - k) (T.data.toList.drop q)).go fun ys l => .ok (acc ++ ys) l)) (fun i _ => f.n - (intOf i).toNat)
  case atStart =>
    refine ⟨0, [], pL, Nat.zero_le _, rfl, Eq.subst (motive := fun W => JT T mb rb WL bst f.s [] [] pL W) HWL.out HJL.out, ?_⟩
    rw [HAL.out.2]
    show times one f.n l2 = _
    cases times one f.n l2 <;> rfl
  case round =>
    obtain ⟨k, acc, q, hk, rfl, hR⟩ := hrel
    have hJ := hR.out.1
    obtain ⟨v0, hx2, hrow⟩ := hJ.row
    obtain ⟨va, vc, rfl⟩ := hrow.shape
    have hszr := hJ.fr.size
    have l3 : bst < wr.heap.size := by omega
    have hacc : acc.length ≤ 1500 := by have := hJ.le; have := hJ.ry.le; omega
    have HB5 := hide (HBL.out.fr hJ.fr (by show ¬ (w.heap.size = rb ∨ w.heap.size = bst); omega))
    have HFr : Hid (Fr (fun k => k = rb) w wr) := HFL.out.then hJ.fr (fun j hj e => by rcases e with e | e; (exact e); omega)
    have HJ := hide hJ
    have HROW := hide hrow
    have hqb := hJ.ry.le
    by_cases hlt : k < f.n
    · obtain ⟨m, hm⟩ : ∃ m, f.n - k = m + 1 := ⟨f.n - k - 1, by omega⟩
      have HC := hide (HONE.out q wr hJ.ry)
      have hzk : (k : Int) < (f.n : Int) := by omega
      clear hJ
      cases ho : one (T.data.toList.drop q) with
      | bad z =>
        rw [ho] at HC
        have HEQ : Hid (res = .bad z) := by
          show res = _
          rw [HRES.out, hR.out.2, hm, times, ho]
          rfl
        clear hrow
        go_wp2_with (go_at_call 55; refine HC.out.mono ?_; rintro e w5 ⟨r, z5, rfl, hF5, hr5⟩; obtain ⟨rfl, hz⟩ : z5 = z ∧ z ≠ 0 := (by rcases hr5 with ⟨_, _, _, h, _⟩ | ⟨h, hz⟩; (cases h); (cases h; exact ⟨rfl, hz⟩)); obtain ⟨c0, c1, c2, c3, c4, f0, f1, f2, f3, f4, hlt5⟩ := (HB5.out.fr hF5 (by show ¬ w.heap.size = rb; omega)).cells; have HF5 := hide hF5; clear hF5 hr5)
        refine bodyPost_ret (v := .tuple #[sv ⟨0, [], nilS, nilS, nilS⟩, .int .i64 z5]) (by simp [results, Tryd.results51, go_sem, c0, c1, c2, c3, c4, hlt5, bs]) rfl ?_
        exact ⟨_, z5, rfl, ((HFr.out.trans HF5.out).then (put5_fr w5 w.heap.size _ _ _ _ _) (fun j hj e => by omega)).alloc _, .inr ⟨HEQ.out, hz⟩⟩
      | ok x l1 =>
        rw [ho] at HC
        have hb0 := HJ.out.fa
        obtain ⟨rs, hown, _, _⟩ := id hrow
        clear hrow
        go_wp2_with (go_at_call 55; refine HC.out.mono ?_; rintro e w5 ⟨r, z5, rfl, hF5, hr5⟩; obtain ⟨p5, rfl, hat5, hY5, hE5⟩ : ∃ p5, z5 = 0 ∧ At T p5 l1 ∧ Ry T mb rb p5 w5 ∧ ExOk w5 (fun k => wr.heap.size ≤ k ∧ k < w5.heap.size) r x := (by rcases hr5 with ⟨_, _, p5, h, h2, h3, h4, h5⟩ | ⟨h, hz⟩; (cases h; exact ⟨p5, h2, h3, h4, h5⟩); (cases h)); have b3 : w5.cell? ⟨bst, 2, none⟩ = some (.slice va acc.length vc) := (hF5.cell (p := ⟨bst, 2, none⟩) l3 (by show ¬ bst = rb; omega)).trans hx2; have bz : w5.frozen? ⟨bst, 2, none⟩ = false := (hF5.frozen (p := ⟨bst, 2, none⟩) l3 (by show ¬ bst = rb; omega)).trans hb0; have m3 : bst < w5.heap.size := (Nat.lt_of_lt_of_le l3 hF5.size); have hown2 : w5.ownsRow WL.heap.size 90 4 (.slice va acc.length vc) acc.length (rs.flatMap encE) := (owns_fr hown hF5 (fun k hk e => by have := (hown.lt k hk).1; omega)); have HF5 := hide hF5; have HY5 := hide hY5; have HE5 := hide hE5; have HA5 := hide hat5; clear hF5 hr5 hY5 hE5 hat5)
        have HLT := hide (HA5.out.less' (p := q) (hless _ _ _ ho))
        have HTT : Hid (times one f.n l2 = (times one (f.n - (k + 1)) (T.data.toList.drop p5)).go fun ys l => .ok (acc ++ [x] ++ ys) l) := by
          show times one f.n l2 = _
          rw [hR.out.2, hm, times, ho, HA5.out.2, show f.n - (k + 1) = m by omega]
          simp only [R.go]
          cases times one m l1 <;> simp
        have hrl : (rs.flatMap encE).length = acc.length * 4 := hown.1
        have hw5 : WL.heap.size ≤ w5.heap.size := Nat.le_trans hszr HF5.out.size
        have OF := hide (owns_far hown2 (b := bst) hbL)
        have OL := hide (fun k => (hown2.lt k))
        clear hown hx2
        have i00 : (0 : Int) ≤ (acc.length : Int) := by omega
        have i01 : (acc.length : Int) < (acc.length : Int) + 1 := by omega
        have i02 : (acc.length : Int) < ((acc.length + 1 : Nat) : Int) := by omega
        have e0 := World.new_ne w5 ⟨bst, 2, none⟩ b3
        go_region_law
          ((refine step_append_lies _ rfl (.tmp 75) (.tmp 78) 41 rfl WL.heap.size 90 j0 _ 4 56 Tryd.underlying41 hj0 hy0 hy1 hy2 rfl (by decide) (.slice va acc.length vc) acc.length _ (by simp [Act.eval, Act.put]) (by exact (hown2.alloc _).alloc _) ⟨w5.heap.size + 1, 0, none⟩ 1 1 [.int .i64 0, .int .i64 0, .string ⟨#[]⟩, .slice none 0 0] (by simp [Act.eval, Act.put]) rfl (by exact new4 _ _ _ _ _ _ (by simp)) (by simp [Value.oneCell']) (by decide) (by unfold maxLen; omega) (by omega) (by simp; omega) _ rfl ?_; intro g cp w6 hr6 hg6 hat6 hlt6; have k3 : w6.cell? ⟨bst, 2, none⟩ = some (.slice va acc.length vc) := (hg6.cell_far ⟨bst, 2, none⟩ (by simp; omega) OF.out).trans ((al2_old m3).trans b3); have kz : w6.frozen? ⟨bst, 2, none⟩ = false := (hg6.frozen_far ⟨bst, 2, none⟩ (by simp; omega) OF.out).trans ((al2_oldf m3).trans bz); have kA : ∀ j, w6.cell? ⟨w5.heap.size, j, none⟩ = #[Value.int .i64 r.k, .int .i64 r.n, .string (bs r.t), .slice r.s.a r.s.n r.s.c][j]? := (fun j => (hg6.cell_far ⟨w5.heap.size, j, none⟩ (by simp; omega) (fun e => by have := (OL.out _ e.symm).2; simp at this)).trans ((World.cell?_alloc_past _ _ _ (by simp)).trans (World.cell?_alloc_new _ _ _ _))); have kA0 := kA 0; have kA1 := kA 1; have kA2 := kA 2; have kA3 := kA 3; simp only [List.getElem?_toArray, List.getElem?_cons_zero, List.getElem?_cons_succ] at kA0 kA1 kA2 kA3; clear kA; have k6 : bst < w6.heap.size := (by have := hg6.size; simp at this; omega); obtain ⟨⟨q0, q1, q2, q3⟩, y0, y1, y2, y3⟩ := new_cells4 hr6 hrl; have gbx : ¬ g = bst := (by rcases hat6 with h | h; (intro e; subst e; exact OF.out h.symm); (simp at h; omega)); have gA : ¬ g = w5.heap.size := (by rcases hat6 with h | h; (have := (OL.out _ h).2; omega); (simp at h; omega)); have gbx' : ¬ bst = g := (fun e => gbx e.symm); have gA' : ¬ w5.heap.size = g := (fun e => gA e.symm); have HR6 := hide hr6; have HG6 := hide hg6; have HAT := hide hat6; clear hr6 hg6 hat6))
        all_goals go_wp2
        all_goals go_roundw
        all_goals first
          | (refine ⟨k + 1, acc ++ [x], p5, by omega, by go_num, stA_fin HLT.out hbL ⟨by omega, by omega, by omega⟩ hmL hrL HJ.out HROW.out HF5.out HY5.out HE5.out HG6.out HR6.out HAT.out (by simp) hown2 gbx k3 ?_, HTT.out⟩)
          | (simp [intOf]; omega)
        all_goals first
          | exact .inl (by with_reducible rfl)
          | exact .inr (by with_reducible rfl)
    · obtain rfl : k = f.n := by omega
      have hzk : ¬ (f.n : Int) < (f.n : Int) := by omega
      have HTM : Hid (times one f.n l2 = .ok acc (T.data.toList.drop q)) := by
        show times one f.n l2 = _
        rw [hR.out.2, Nat.sub_self, times]
        simp [R.go]
      have HX := hide (rest_any T mb rb q bst wr deep f.s hd0 hd1 hJ.ry ⟨hJ.k, hJ.x, hJ.y, hJ.fx, hJ.fy, by omega, by omega, by omega⟩ nest (HNEST.out (times_some_StmtC hn12.1 HTM.out)))
      have y0 := hJ.k
      have y1 := hJ.t
      clear hJ hrow
      go_wp2_with (go_at_call 56; refine HX.out.mono ?_; rintro e w7 ⟨z7, sx, sy, rfl, hF7, h012, d3, d4, hr7⟩; have d0 := (h012 0 (by decide)).trans y0; have d1 := (h012 1 (by decide)).trans y1; have d2 := (h012 2 (by decide)).trans hx2; obtain ⟨c0, c1, c2, c3, c4, f0, f1, f2, f3, f4, hlt7⟩ := (HB5.out.fr hF7 (by show ¬ (w.heap.size = rb ∨ w.heap.size = bst); omega)).cells; have l7 : bst < w7.heap.size := (Nat.lt_of_lt_of_le l3 hF7.size); have HF7 := hide hF7; have HR7 := hide hr7; clear hF7 hr7 h012)
      refine bodyPost_ret (v := .tuple #[sv ⟨f.s, [], ⟨va, acc.length, vc⟩, sx, sy⟩, .int .i64 z7]) (by simp [results, Tryd.results51, go_sem, c0, c1, c2, c3, c4, bs]) rfl ?_
      rcases HR7.out with ⟨xy, l7, p7, e1, e2, e3, e4, e5, e6⟩ | ⟨e1, e2⟩
      · subst e2
        exact st_ok (by rw [HRES.out, HTM.out]; simp only [R.go]; rw [e1]) HFL.out hbw hbL hrb hmb HJ.out HROW.out HF7.out e3 e4 e5 e6 _ _ _ _ _
      · exact st_bad _ (by rw [HRES.out, HTM.out]; simp only [R.go]; rw [e1]) e2 (HFr.out.then HF7.out (fun j hj e => by rcases e with e | e; (exact e); omega)) _ _ _ _ _
end Go.Proofs.YtbplfhjpajkcoabDoor
