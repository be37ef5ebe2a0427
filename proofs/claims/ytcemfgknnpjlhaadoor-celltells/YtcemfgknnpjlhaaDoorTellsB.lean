/- The program tells what the document tells: the walk, way B. -/
import Derived.Test.YtcemfgknnpjlhaaDoorNews
import Derived.Test.YtcemfgknnpjlhaaDoorRefShow
namespace Go.Proofs.YtcemfgknnpjlhaaDoor
open Go.RowKit Go.Ws
set_option maxRecDepth 20000 in
set_option maxHeartbeats 20000000 in
theorem tells_B (cl : List Cel) (vl : List Val) (va vb : Val) (op n : Int) (s : ByteArray) (deep : Int) (hv lv : Value) (w : World) (hh : Sl encC 6 w hv cl) (hl : Sl encV 3 w lv vl) (wc : ∀ c ∈ cl, WfC c) (wl : ∀ v ∈ vl, WfV v) (wa : WfV va) (wb : WfV vb) (hs : s.size ≤ maxLen)
    (hn0 : -9223372036854775808 ≤ n) (hn1 : n ≤ 9223372036854775807) (hmh : cl.length * 64 ≤ 140737488351232) (hml : vl.length * 32 ≤ 140737488351232) (hdl : -9223372036854775808 ≤ deep) (ht : Tab w) (ea : wrongR va 1073741824 = 0) (eb : ¬ wrongR vb 1073741824 = 0) :
    Calls Tryd.prog 3 #[hv, lv, vv va, vv vb, .int .i64 op, .int .i64 n, .string s, .int .i64 deep] w fun e w' => e = .returned (.bool true) ∧ Below w.heap.size w w' := by
  obtain ⟨la, lc, rfl, hll, q1⟩ := id hl
  obtain ⟨ha, hcp, rfl, hhl, q2⟩ := id hh
  clear q1 q2
  unfold maxLen at hll hhl
  have HX := hide (And.intro hh (And.intro hl (And.intro wc (And.intro wl (And.intro wa (And.intro wb (And.intro hs ht)))))))
  clear hh hl wc wl wa wb hs ht
  have BW : Hid (Below w.heap.size w ((w.alloc (.cells #[.int .i64 va.k, .int .i64 va.n, .string va.t] 25)).alloc (.cells #[.int .i64 vb.k, .int .i64 vb.n, .string vb.t] 25))) := ((Below.refl _ w).alloc (Nat.le_refl _) _).alloc (by simp) _
  generalize hW : (w.alloc (.cells #[.int .i64 va.k, .int .i64 va.n, .string va.t] 25)).alloc (.cells #[.int .i64 vb.k, .int .i64 vb.n, .string vb.t] 25) = W at BW
  have z0 : W.heap.size = w.heap.size + 2 := by subst hW; simp
  have hne1 := neq25 ⟨0, n.tmod 1073741825, ⟨#[]⟩⟩
  have hne2 := neq25 ⟨1, 0, cutT s⟩
  have C1 := hide ((int_any n W.drew hn0 hn1).mono fun e w'' (x : _ ∧ _) => (show e = .returned (vv ⟨0, n.tmod 1073741825, ⟨#[]⟩⟩) ∧ Below W.heap.size W w'' from ⟨x.1, (Below.refl _ W).drew.trans x.2⟩))
  have C2 := hide (fun w' (h : Below W.heap.size W w') => (refint_any n w' hn0 hn1).mono fun e w'' (x : _ ∧ _) => (show e = .returned (vv ⟨0, n.tmod 1073741825, ⟨#[]⟩⟩) ∧ Below W.heap.size W w'' from ⟨x.1, h.trans (x.2.mono h.size)⟩))
  have C3 := hide (fun w' (h : Below W.heap.size W w') => (text_any s w' HX.out.2.2.2.2.2.2.1).mono fun e w'' (x : _ ∧ _) => (show e = .returned (vv ⟨1, 0, cutT s⟩) ∧ Below W.heap.size W w'' from ⟨x.1, h.trans (x.2.mono h.size)⟩))
  have C4 := hide (fun w' (h : Below W.heap.size W w') => (reftext_any s w' HX.out.2.2.2.2.2.2.1).mono fun e w'' (x : _ ∧ _) => (show e = .returned (vv ⟨1, 0, cutT s⟩) ∧ Below W.heap.size W w'' from ⟨x.1, h.trans (x.2.mono h.size)⟩))
  have C5 := hide (fun w' (h : Below W.heap.size W w') => (wrong_any va n w' HX.out.2.2.2.2.1.2.2).mono fun e w'' (x : _ ∧ _) => (show e = .returned (.int .i64 (wrongR va n)) ∧ Below W.heap.size W w'' from ⟨x.1, h.trans (x.2.mono h.size)⟩))
  have C6 := hide (fun w' (h : Below W.heap.size W w') => (wrongRef_any va n w' HX.out.2.2.2.2.1.2.2).mono fun e w'' (x : _ ∧ _) => (show e = .returned (.int .i64 (wrongR va n)) ∧ Below W.heap.size W w'' from ⟨x.1, h.trans (x.2.mono h.size)⟩))
  have KA : Hid (∀ w', Below W.heap.size W w' → w'.cell? ⟨w.heap.size, 0, none⟩ = some (.int .i64 va.k) ∧ w'.cell? ⟨w.heap.size, 1, none⟩ = some (.int .i64 va.n) ∧ w'.cell? ⟨w.heap.size, 2, none⟩ = some (.string va.t) ∧ w'.cell? ⟨w.heap.size + 1, 0, none⟩ = some (.int .i64 vb.k) ∧ w'.cell? ⟨w.heap.size + 1, 1, none⟩ = some (.int .i64 vb.n) ∧ w'.cell? ⟨w.heap.size + 1, 2, none⟩ = some (.string vb.t) ∧ w.heap.size + 1 < w'.heap.size) := fun w' h => by
    have f0 := fun j => (h.cell (p := ⟨w.heap.size, j, none⟩) (by show w.heap.size < _; omega))
    have f1 := fun j => (h.cell (p := ⟨w.heap.size + 1, j, none⟩) (by show w.heap.size + 1 < _; omega))
    have hsz := h.size
    subst hW
    exact ⟨(f0 0).trans (World.cell?_alloc2_first _ _ _ _), (f0 1).trans (World.cell?_alloc2_first _ _ _ _), (f0 2).trans (World.cell?_alloc2_first _ _ _ _), (f1 0).trans (World.cell?_alloc2_new _ _ _ _), (f1 1).trans (World.cell?_alloc2_new _ _ _ _), (f1 2).trans (World.cell?_alloc2_new _ _ _ _), by omega⟩
  clear hn0 hn1
  go_enter Tryd.func3, Tryd.ntmps3
  go_wp2_with fail
  clear hW
  go_cut [45] (fun v45 wx => v45 = .bool false ∧ Hid (Below W.heap.size W wx))
  case first =>
    go_region_law (first
      | (refine step_call rfl 6 Tryd.f6 #[.tmp 25] #[3] rfl Tryd.func6 (by kernel_rfl) (by kernel_rfl) #[.int .i64 n] (by first | (simp [Act.eval]; done) | simp [Act.eval, Act.put]) _ (by exact C1.out) ?_; rintro e w1 ⟨rfl, hb1⟩; have H1 := hide hb1; clear hb1; refine ⟨_, rfl, ?_⟩)
      | (refine step_call rfl 7 Tryd.f7 #[.tmp 27] #[3] rfl Tryd.func7 (by kernel_rfl) (by kernel_rfl) #[.int .i64 n] (by first | (simp [Act.eval]; done) | simp [Act.eval, Act.put]) _ (by exact C2.out w1 H1.out) ?_; rintro e w2 ⟨rfl, hb2⟩; have H2 := hide hb2; clear hb2; refine ⟨_, rfl, ?_⟩)
      | (refine step_call rfl 8 Tryd.f8 #[.tmp 31] #[9] rfl Tryd.func8 (by kernel_rfl) (by kernel_rfl) #[.string s] (by first | (simp [Act.eval]; done) | simp [Act.eval, Act.put]) _ (by exact C3.out w2 H2.out) ?_; rintro e w3 ⟨rfl, hb3⟩; have H3 := hide hb3; clear hb3; refine ⟨_, rfl, ?_⟩)
      | (refine step_call rfl 9 Tryd.f9 #[.tmp 33] #[9] rfl Tryd.func9 (by kernel_rfl) (by kernel_rfl) #[.string s] (by first | (simp [Act.eval]; done) | simp [Act.eval, Act.put]) _ (by exact C4.out w3 H3.out) ?_; rintro e w4 ⟨rfl, hb4⟩; have H4 := hide hb4; obtain ⟨k0, k1, k2, k3, k4, k5, k6⟩ := KA.out w4 hb4; clear hb4; refine ⟨_, rfl, ?_⟩)
      | (refine step_call rfl 10 Tryd.f10 #[.tmp 38, .tmp 39] #[25, 3] rfl Tryd.func10 (by kernel_rfl) (by kernel_rfl) #[vv va, .int .i64 n] (by first | (simp [Act.eval]; done) | simp [Act.eval, Act.put]) _ (by exact C5.out w4 H4.out) ?_; rintro e w5 ⟨rfl, hb5⟩; have H5 := hide hb5; obtain ⟨l0, l1, l2, l3, l4, l5, l6⟩ := KA.out w5 hb5; clear hb5; refine ⟨_, rfl, ?_⟩)
      | (refine step_call rfl 11 Tryd.f11 #[.tmp 41, .tmp 42] #[25, 3] rfl Tryd.func11 (by kernel_rfl) (by kernel_rfl) #[vv va, .int .i64 n] (by first | (simp [Act.eval]; done) | simp [Act.eval, Act.put]) _ (by exact C6.out w5 H5.out) ?_; rintro e w6 ⟨rfl, hb6⟩; have H6 := hide hb6; obtain ⟨m0, m1, m2, m3, m4, m5, m6⟩ := KA.out w6 hb6; clear hb6; refine ⟨_, rfl, ?_⟩))

    all_goals
      go_wp2
      go_meet
      case rel => exact ⟨rfl, H6⟩
  case rest =>
    obtain ⟨rfl, H1⟩ := hcut
    obtain ⟨k0, k1, k2, k3, k4, k5, k6⟩ := KA.out wc H1.out
    clear C1 C2 C3 C4 C5 C6 hne1 hne2
    · go_wp2_with fail
      refine (wrongRef_any va 1073741824 wc HX.out.2.2.2.2.1.2.2).mono ?_
      rintro e w2 ⟨rfl, hb2⟩
      have H2 : Hid (Below W.heap.size W w2) := H1.out.trans (hb2.mono H1.out.size)
      clear hb2
      obtain ⟨x0, x1, x2, y0, y1, y2, y6⟩ := KA.out w2 H2.out
      rw [ea]
      go_wp2_with fail
      refine (wrongRef_any vb 1073741824 w2 HX.out.2.2.2.2.2.1.2.2).mono ?_
      rintro e wt ⟨rfl, hbt⟩
      have HT : Hid (Below W.heap.size W wt) := H2.out.trans (hbt.mono H2.out.size)
      clear hbt
      obtain ⟨z0, z1, z2, r0, r1, r2, r6⟩ := KA.out wt HT.out
      go_wp2_with fail
      obtain ⟨j0, hj0, hyy0, hyy1, hyy2⟩ := info_parts size25
      have hbt : Hid (Below w.heap.size w wt) := BW.out.trans (HT.out.mono (by omega))
      have N1 : Hid (∀ X, Below wt.heap.size wt X → ∀ j u, (vl.flatMap encV)[j]? = some u → ∃ ad, la = some ad ∧ X.cell? (ad.add j) = some u) := fun X hX => sl_more HX.out.2.1 (hbt.out.trans (hX.mono hbt.out.size))
      have R1 : Hid ((wt.alloc (.cells #[] 25)).drew.ownsRow wt.heap.size 25 3 (.slice (some ⟨wt.heap.size, 0, none⟩) 0 0) 0 []) := owns_fr (row_empty wt 25 (Nat.le_refl _)) ((Fr.refl nothing _).drew) (fun _ _ => id)
      have BE : Hid (Below wt.heap.size wt (wt.alloc (.cells #[] 25)).drew) := ((Below.refl _ wt).alloc (Nat.le_refl _) _).drew
      have BF : Hid (Below wt.heap.size wt ((wt.alloc (.cells #[] 25)).alloc (.cells #[.int .i64 vb.k, .int .i64 vb.n, .string vb.t] 25)).drew) := (((Below.refl _ wt).alloc (Nat.le_refl _) _).alloc (by simp) _).drew
      have BG : Hid (Below wt.heap.size wt ((wt.alloc (.cells #[.int .i64 vb.k, .int .i64 vb.n, .string vb.t] 25)).alloc (.cells #[] 25)).drew) := (((Below.refl _ wt).alloc (Nat.le_refl _) _).alloc (by simp) _).drew
      have R2 : Hid (((wt.alloc (.cells #[] 25)).alloc (.cells #[.int .i64 vb.k, .int .i64 vb.n, .string vb.t] 25)).drew.ownsRow wt.heap.size 25 3 (.slice (some ⟨wt.heap.size, 0, none⟩) 0 0) 0 []) := owns_fr (row_empty wt 25 (Nat.le_refl _)) (((Fr.refl nothing _).alloc _).drew) (fun _ _ => id)
      have R3 : Hid (((wt.alloc (.cells #[.int .i64 vb.k, .int .i64 vb.n, .string vb.t] 25)).alloc (.cells #[] 25)).drew.ownsRow wt.heap.size 25 3 (.slice (some ⟨wt.heap.size + 1, 0, none⟩) 0 0) 0 []) := by
        have := row_empty (base := wt.heap.size) (wt.alloc (.cells #[.int .i64 vb.k, .int .i64 vb.n, .string vb.t] 25)) 25 (by simp)
        rw [World.size_alloc] at this
        exact owns_fr this ((Fr.refl nothing _).drew) (fun _ _ => id)
      have NW : Hid (∀ w5, ((wt.alloc (.cells #[] 25)).alloc (.cells #[.int .i64 vb.k, .int .i64 vb.n, .string vb.t] 25)).drew.grownBy w5 (Value.slice (some ⟨wt.heap.size, 0, none⟩) 0 0).ownBlock → ∀ j u, (encV vb)[j]? = some u → w5.cell? ((⟨wt.heap.size + 1, 0, none⟩ : Addr).add j) = some u) := fun w5 hg => by
        have h := newV (wt.alloc (.cells #[] 25)) vb 25
        rw [World.size_alloc] at h
        exact news_far h hg (by simp) (by simp [Value.ownBlock])
      have NX : Hid (∀ w5, ((wt.alloc (.cells #[.int .i64 vb.k, .int .i64 vb.n, .string vb.t] 25)).alloc (.cells #[] 25)).drew.grownBy w5 (Value.slice (some ⟨wt.heap.size + 1, 0, none⟩) 0 0).ownBlock → ∀ j u, (encV vb)[j]? = some u → w5.cell? ((⟨wt.heap.size, 0, none⟩ : Addr).add j) = some u) := fun w5 hg => by
        have h := newV wt vb 25
        refine news_far (fun j u hj => ?_) hg (by simp; omega) (by simp [Value.ownBlock])
        have h1 := h j u hj
        rw [add_eq] at h1 ⊢
        exact (World.cell?_alloc_past _ _ _ (by simp)).trans h1
      have L1 := hide (flat_length encV 3 encV_length vl)
      have O1 := hide (flat_ones vl)
      have C14 : Hid (∀ w6 lv, Below wt.heap.size wt w6 → Sl encV 3 w6 lv (vl ++ [vb]) → Calls Tryd.prog 14 #[.slice ha cl.length hcp, lv] w6 fun e w' => e = .returned (.bool (rightB cl (vl ++ [vb]))) ∧ Below wt.heap.size wt w') := fun w6 lv h6 hs6 =>
        (right_any cl (vl ++ [vb]) _ lv w6 (HX.out.1.below (hbt.out.trans (h6.mono hbt.out.size)) (Nat.le_refl _)) hs6 HX.out.2.2.1 (fun v hv => by
          rcases List.mem_append.1 hv with h | h
          · exact HX.out.2.2.2.1 v h
          · obtain rfl : v = vb := by simpa using h
            exact HX.out.2.2.2.2.2.1)).mono fun e w' h => ⟨h.1, h6.trans (h.2.mono h6.size)⟩
      generalize hR : rightB cl (vl ++ [vb]) = rr at C14
      go_cut [88] (fun v88 wx => ∃ tt, v88 = .bool tt ∧ Hid (tt = (!rr || decide (5 < deep)) ∧ Below wt.heap.size wt wx))
      case first =>
        cases rr
        all_goals
          first
            | go_region_law (first
              | (refine step_append_more _ rfl (.tmp 77) (.tmp 78) 23 rfl wt.heap.size 25 j0 _ 3 32 Tryd.underlying23 hj0 hyy0 hyy1 hyy2 rfl (by decide) (wt.heap.size) (by simp [Act.eval]) (by exact R1.out) la vl.length lc (vl.flatMap encV) (by simp [Act.eval]) L1.out (by exact N1.out _ BE.out) O1.out (by unfold maxLen; omega) (by omega) (by exact BE.out.size) ?_; intro g cp w5 hr5 hg5; rw [Nat.zero_add, List.nil_append] at hr5; have B5 : Hid (Below wt.heap.size wt w5) := Below.grown BE.out hg5 BE.out.size (fun j hj => by have : wt.heap.size = j := (by simpa [Value.ownBlock] using hj); omega); obtain ⟨p0, p1, p2, p3, p4, p5, p6⟩ := KA.out w5 (HT.out.trans (B5.out.mono HT.out.size)))
              | (refine step_append_more _ rfl (.tmp 77) (.tmp 78) 23 rfl wt.heap.size 25 j0 _ 3 32 Tryd.underlying23 hj0 hyy0 hyy1 hyy2 rfl (by decide) (wt.heap.size) (by simp [Act.eval]) (by exact R2.out) la vl.length lc (vl.flatMap encV) (by simp [Act.eval]) L1.out (by exact N1.out _ BF.out) O1.out (by unfold maxLen; omega) (by omega) (by exact BF.out.size) ?_; intro g cp w5 hr5 hg5; rw [Nat.zero_add, List.nil_append] at hr5; have B5 : Hid (Below wt.heap.size wt w5) := Below.grown BF.out hg5 BF.out.size (fun j hj => by have : wt.heap.size = j := (by simpa [Value.ownBlock] using hj); omega); obtain ⟨p0, p1, p2, p3, p4, p5, p6⟩ := KA.out w5 (HT.out.trans (B5.out.mono HT.out.size)))
              | (refine step_append_more _ rfl (.tmp 77) (.tmp 78) 23 rfl wt.heap.size 25 j0 _ 3 32 Tryd.underlying23 hj0 hyy0 hyy1 hyy2 rfl (by decide) (wt.heap.size + 1) (by simp [Act.eval]) (by exact R3.out) la vl.length lc (vl.flatMap encV) (by simp [Act.eval]) L1.out (by exact N1.out _ BG.out) O1.out (by unfold maxLen; omega) (by omega) (by exact BG.out.size) ?_; intro g cp w5 hr5 hg5; rw [Nat.zero_add, List.nil_append] at hr5; have B5 : Hid (Below wt.heap.size wt w5) := Below.grown BG.out hg5 BG.out.size (fun j hj => by have : wt.heap.size + 1 = j := (by simpa [Value.ownBlock] using hj); omega); obtain ⟨p0, p1, p2, p3, p4, p5, p6⟩ := KA.out w5 (HT.out.trans (B5.out.mono HT.out.size)))
              | (refine step_append_lies _ rfl (.tmp 79) (.tmp 81) 23 rfl wt.heap.size 25 j0 _ 3 32 Tryd.underlying23 hj0 hyy0 hyy1 hyy2 rfl (by decide) (.slice (some ⟨g, 0, none⟩) vl.length cp) vl.length (vl.flatMap encV) (by simp [Act.eval]) (by exact hr5.alloc _) ⟨w5.heap.size, 0, none⟩ 1 1 (encV vb) (by simp [Act.eval]) rfl (by exact newV _ _ _) (encV_one _) (by decide) (by unfold maxLen; omega) (by omega) (by have := B5.out.size; first | exact this | (simp; omega)) _ rfl ?_; intro g6 cp6 w6 hr6 hg6 hat6 hlt6; have S6 : Hid (Sl encV 3 w6 (.slice (some ⟨g6, 0, none⟩) (vl.length + 1) cp6) (vl ++ [vb])) := sl_of_owns encV_length (by simpa using hr6); have B6 : Hid (Below wt.heap.size wt w6) := (by first | exact Below.grown (B5.out.alloc B5.out.size _) hg6 (by have := B5.out.size; simp; omega) (fun j hj => (hr5.lt j hj).1) | exact Below.grown B5.out hg6 B5.out.size (fun j hj => (hr5.lt j hj).1)))
              | (refine step_append_lies _ rfl (.tmp 79) (.tmp 81) 23 rfl wt.heap.size 25 j0 _ 3 32 Tryd.underlying23 hj0 hyy0 hyy1 hyy2 rfl (by decide) (.slice (some ⟨g, 0, none⟩) vl.length cp) vl.length (vl.flatMap encV) (by simp [Act.eval]) (by exact hr5) ⟨wt.heap.size + 1, 0, none⟩ 1 1 (encV vb) (by simp [Act.eval]) rfl (by exact NW.out _ hg5) (encV_one _) (by decide) (by unfold maxLen; omega) (by omega) (by have := B5.out.size; first | exact this | (simp; omega)) _ rfl ?_; intro g6 cp6 w6 hr6 hg6 hat6 hlt6; have S6 : Hid (Sl encV 3 w6 (.slice (some ⟨g6, 0, none⟩) (vl.length + 1) cp6) (vl ++ [vb])) := sl_of_owns encV_length (by simpa using hr6); have B6 : Hid (Below wt.heap.size wt w6) := (by first | exact Below.grown (B5.out.alloc B5.out.size _) hg6 (by have := B5.out.size; simp; omega) (fun j hj => (hr5.lt j hj).1) | exact Below.grown B5.out hg6 B5.out.size (fun j hj => (hr5.lt j hj).1)))
              | (refine step_append_lies _ rfl (.tmp 79) (.tmp 81) 23 rfl wt.heap.size 25 j0 _ 3 32 Tryd.underlying23 hj0 hyy0 hyy1 hyy2 rfl (by decide) (.slice (some ⟨g, 0, none⟩) vl.length cp) vl.length (vl.flatMap encV) (by simp [Act.eval]) (by exact hr5) ⟨wt.heap.size, 0, none⟩ 1 1 (encV vb) (by simp [Act.eval]) rfl (by exact NX.out _ hg5) (encV_one _) (by decide) (by unfold maxLen; omega) (by omega) (by have := B5.out.size; first | exact this | (simp; omega)) _ rfl ?_; intro g6 cp6 w6 hr6 hg6 hat6 hlt6; have S6 : Hid (Sl encV 3 w6 (.slice (some ⟨g6, 0, none⟩) (vl.length + 1) cp6) (vl ++ [vb])) := sl_of_owns encV_length (by simpa using hr6); have B6 : Hid (Below wt.heap.size wt w6) := (by first | exact Below.grown (B5.out.alloc B5.out.size _) hg6 (by have := B5.out.size; simp; omega) (fun j hj => (hr5.lt j hj).1) | exact Below.grown B5.out hg6 B5.out.size (fun j hj => (hr5.lt j hj).1)))
              | (refine step_call rfl 14 Tryd.f14 #[.tmp 76, .tmp 82] #[22, 23] rfl Tryd.func14 (by kernel_rfl) (by kernel_rfl) #[.slice ha cl.length hcp, .slice (some ⟨g6, 0, none⟩) (vl.length + 1) cp6] (by simp [Act.eval]) _ (by exact C14.out w6 _ B6.out S6.out) ?_; rintro e w7 ⟨rfl, hb7⟩; have H7 := hide hb7; clear hb7; refine ⟨_, rfl, ?_⟩))
            | fail
          all_goals
            go_wp2
            go_meet
            case rel => exact ⟨_, rfl, by simp, H7.out⟩
      case rest =>
        obtain ⟨tt, rfl, H8b⟩ := hcut
        have H8 := hide H8b.out.2
        have htt := hide H8b.out.1
        clear H8b N1 R1 BE BF BG R2 R3 NW NX L1 O1 C14
        cases tt
        rotate_left
        · go_wp2
          go_ret
          exact ⟨rfl, hbt.out.trans (H8.out.mono hbt.out.size)⟩
        · obtain ⟨rfl, hd5⟩ : rr = true ∧ deep ≤ 5 := by
            have := htt.out
            simpa using this
          have h8 : Hid (Below w.heap.size w wc) := hbt.out.trans (H8.out.mono hbt.out.size)
          have OKX : Hid ((∀ v ∈ vl, okV cl.length v = true) ∧ okV cl.length vb = true ∧ ∀ c ∈ cl, okC cl.length c = true ∧ WfC c) := by
            have h := hR
            simp only [rightB, Bool.and_eq_true, List.all_eq_true] at h
            exact ⟨fun v hv => h.1 v (by simp [hv]), h.1 vb (by simp), fun c hc => ⟨h.2 c hc, HX.out.2.2.1 c hc⟩⟩
          have HR2 : Hid ((∀ c ∈ cl, RightV cl.length c.l ∧ RightV cl.length c.r) ∧ ∀ v ∈ vl, RightV cl.length v) := ⟨fun c hc => by
            have := (OKX.out.2.2 c hc).1
            simp only [okC, Bool.and_eq_true] at this
            exact ⟨right_vals this.1, right_vals this.2⟩, fun v hv => right_vals (OKX.out.1 v hv)⟩
          go_wp2_with fail
          refine (canon_any cl vl _ _ wc (HX.out.1.below h8.out (Nat.le_refl _)) (HX.out.2.1.below h8.out (Nat.le_refl _)) hmh hml).mono ?_
          rintro e w9 ⟨xv, kv, rfl, hx9, hk9, hb9⟩
          have h9 : Hid (Below w.heap.size w w9) := h8.out.trans (hb9.mono h8.out.size)
          have H9 := hide (And.intro hx9 (And.intro hk9 hb9))
          clear hx9 hk9 hb9
          go_wp2_with fail
          refine (ref_canon cl vl _ _ w9 (HX.out.1.below h9.out (Nat.le_refl _)) (HX.out.2.1.below h9.out (Nat.le_refl _)) hmh hml HR2.out).mono ?_
          rintro e wz ⟨yv, jv, rfl, hyz, hjz, hbz⟩
          have hz : Hid (Below w.heap.size w wz) := h9.out.trans (hbz.mono h9.out.size)
          have HZ := hide (And.intro hyz (And.intro hjz (And.intro (H9.out.1.below hbz (Nat.le_refl _)) (H9.out.2.1.below hbz (Nat.le_refl _)))))
          have BZ : Hid (Below W.heap.size W wz) := HT.out.trans ((H8.out.trans ((H9.out.2.2.mono H8.out.size).trans (hbz.mono (Nat.le_trans H8.out.size H9.out.2.2.size)))).mono HT.out.size)
          clear hyz hjz hbz
          obtain ⟨_, _, _, v0, v1, v2, v6⟩ := KA.out wz BZ.out
          have D1 : Hid (Calls Tryd.prog 17 #[.slice ha cl.length hcp, vv vb, .int .i64 deep] wz.drew fun e w' => e = .returned (.string ⟨(showV cl deep.toNat vb).toArray⟩) ∧ Below wz.heap.size wz w') := (show_any wz.drew cl _ vb deep (HX.out.1.below hz.out.drew (Nat.le_refl _)) (tab_below HX.out.2.2.2.2.2.2.2 hz.out.drew) OKX.out.2.2 OKX.out.2.1 HX.out.2.2.2.2.2.1 (by omega) hdl).mono fun e w' h => ⟨h.1, (Below.refl _ wz).drew.trans h.2⟩
          have D2 : Hid (∀ X, Below wz.heap.size wz X → Calls Tryd.prog 18 #[.slice ha cl.length hcp, vv vb, .int .i64 deep] X fun e w' => e = .returned (.string ⟨(showV cl deep.toNat vb).toArray⟩) ∧ Below wz.heap.size wz w') := fun X hX => (ref_all cl _ OKX.out.2.2 deep.toNat vb deep X rfl (by omega) hdl OKX.out.2.1 HX.out.2.2.2.2.2.1 (HX.out.1.below (hz.out.trans (hX.mono hz.out.size)) (Nat.le_refl _)) (tab_below HX.out.2.2.2.2.2.2.2 (hz.out.trans (hX.mono hz.out.size)))).mono fun e w' h => ⟨h.1, hX.trans (h.2.mono hX.size)⟩
          have D3 : Hid (∀ X, Below wz.heap.size wz X → Calls Tryd.prog 19 #[xv, yv] X fun e w' => e = .returned (.bool true) ∧ Below wz.heap.size wz w') := fun X hX => (sameVals_yes (canonV cl vl) _ _ X (HZ.out.2.2.1.below hX (Nat.le_refl _)) (HZ.out.1.below hX (Nat.le_refl _))).mono fun e w' h => ⟨h.1, hX.trans (h.2.mono hX.size)⟩
          have D4 : Hid (∀ X, Below wz.heap.size wz X → Calls Tryd.prog 20 #[kv, jv] X fun e w' => e = .returned (.bool true) ∧ Below wz.heap.size wz w') := fun X hX => (sameCels_yes (canonC cl vl) _ _ X (HZ.out.2.2.2.below hX (Nat.le_refl _)) (HZ.out.2.1.below hX (Nat.le_refl _))).mono fun e w' h => ⟨h.1, hX.trans (h.2.mono hX.size)⟩
          generalize showV cl deep.toNat vb = sv at D1 D2
          go_wp2_with fail
          have SK : Hid (∀ X, Below wz.heap.size wz X → X.cell? ⟨w.heap.size + 1, 0, none⟩ = some (.int .i64 vb.k) ∧ X.cell? ⟨w.heap.size + 1, 1, none⟩ = some (.int .i64 vb.n) ∧ X.cell? ⟨w.heap.size + 1, 2, none⟩ = some (.string vb.t)) := fun X hX => by
            obtain ⟨_, _, _, a, b, c, _⟩ := KA.out X (BZ.out.trans (hX.mono BZ.out.size))
            exact ⟨a, b, c⟩
          have BD : Hid (Below wz.heap.size wz wz.drew) := (Below.refl _ wz).drew
          clear KA HZ
          go_region_held3 (fun w' => w'.cell? ⟨w.heap.size + 1, 0, none⟩ = some (.int .i64 vb.k) ∧ w'.cell? ⟨w.heap.size + 1, 1, none⟩ = some (.int .i64 vb.n) ∧ w'.cell? ⟨w.heap.size + 1, 2, none⟩ = some (.string vb.t)) (first | with_reducible exact SK.out _ BD.out | with_reducible exact SK.out _ HPP.out | with_reducible exact SK.out _ HO.out | with_reducible exact SK.out _ HN.out | with_reducible exact SK.out _ HM.out)
            (first
              | (go_at_call 17; refine (D1.out).mono ?_; rintro e wm ⟨rfl, hbm⟩; have HM := hide hbm; clear hbm)
              | (go_at_call 18; refine (D2.out wm HM.out).mono ?_; rintro e wn ⟨rfl, hbn⟩; have HN := hide hbn; clear hbn)
              | (go_at_call 19; refine (D3.out wn HN.out).mono ?_; rintro e wo ⟨rfl, hbo⟩; have HO := hide hbo; clear hbo)
              | (go_at_call 20; refine (D4.out wo HO.out).mono ?_; rintro e wp ⟨rfl, hbp⟩; have HPP := hide hbp; clear hbp))
          all_goals go_wp2
          all_goals go_ret
          all_goals exact ⟨rfl, hz.out.trans (HPP.out.mono hz.out.size)⟩
end Go.Proofs.YtcemfgknnpjlhaaDoor
