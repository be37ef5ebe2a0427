/- Package verify: what is wrong with an agent. -/
import Derived.Test.YtgocmpooppejdaaFFrame
import Derived.Test.YtgocmpooppejdaaOrders
set_option maxHeartbeats 0
set_option maxRecDepth 100000
namespace Go.Proofs.Ytgocmpooppejdaa
open Go Go.RowKit
theorem vProgram_any (p : Pz) (sc sw : Slc) (w : World) (hP : PzOk w sc sw p) (hW : WfZ p) :
    Calls Try.prog 5 #[.agg #[.slice sc.a sc.n sc.c, .slice sw.a sw.n sw.c]] w fun e w' => e = .returned (.int .i64 (programC p)) ∧ Fr nothing w w' := by
  have hF1 : Fr nothing w (w.alloc (.cells #[.slice sc.a sc.n sc.c, .slice sw.a sw.n sw.c] 25)) := (Fr.refl _ _).alloc _
  have HPR := hide (program_any p sc sw _ (hP.fr hF1) hW)
  have HF1 := hide hF1
  clear hF1 hP
  go_enter Try.func5, Try.ntmps5
  go_wp2_with (go_at_call 11; refine HPR.out.mono ?_; rintro e w2 ⟨q, rfl, hf2, hh2⟩; have HF2 := hide (HF1.out.trans hf2); clear hf2 hh2)
  go_ret
  exact ⟨rfl, HF2.out⟩
theorem fine_of {p : Pz} (h : programC p = 0) : FineZ p := by
  unfold programC at h
  split at h
  · rename_i h1; exact absurd h h1
  rename_i h1
  have hz := hed_zero (Classical.not_not.1 h1)
  refine ⟨fun c hc => ?_⟩
  have hb := hz.2.2.2.2.2 c hc
  refine ⟨?_, hb.2.2.2.2.2, by omega, by omega⟩
  have hc0 := firstE_zero h c hc
  unfold codeC at hc0
  split at hc0
  · rename_i h2; exact absurd hc0 h2
  · exact hc0
theorem firstN_step {f : Nat → Int} {n k : Nat} (hk : k < n) : firstN f (n - k) k = if f k ≠ 0 then f k else firstN f (n - (k + 1)) (k + 1) := by
  obtain ⟨m, hm⟩ : ∃ m, n - k = m + 1 := ⟨n - k - 1, by omega⟩
  rw [hm, firstN, show n - (k + 1) = m by omega]
theorem cell_two (n : Int) (c : Cel) : firstE (wrongV n) [c.l, c.r] = cellC n c := by
  unfold cellC
  rw [firstE, firstE, firstE]
  by_cases h1 : wrongV n c.l = 0
  · by_cases h2 : wrongV n c.r = 0 <;> simp [h1, h2]
  · simp [h1]
theorem vAgent_any (a : Ag) (sc sw sf sh : Slc) (away : Bool) (w : World) (hA : AgOk w sc sw sf sh a) (hW : WfA a) :
    Calls Try.prog 6 #[.agg (agC a sc sw sf sh), .bool away] w fun e w' => e = .returned (.int .i64 (agentC a away)) ∧ Fr nothing w w' := by
  obtain ⟨rs, hrs, hea⟩ := hA.fr
  obtain ⟨n1, m1⟩ := sl_len hrs
  obtain ⟨n2, m2⟩ := sl_len hA.hp
  rw [hea.1] at n1 m1
  obtain ⟨sfa, sfn, sfc⟩ := sf
  obtain ⟨sha, shn, shc⟩ := sh
  simp only at n1 n2
  subst n1 n2
  have hl := hW.l
  have hFA : Fr nothing w (w.alloc (.cells (agC a sc sw ⟨sfa, a.fr.length, sfc⟩ ⟨sha, a.hp.length, shc⟩) 31)) := (Fr.refl _ _).alloc _
  have ma := made_cells (Fr.refl nothing (w.alloc (.cells (agC a sc sw ⟨sfa, a.fr.length, sfc⟩ ⟨sha, a.hp.length, shc⟩) 31))) id
  obtain ⟨w1, hw1⟩ : ∃ x, x = w.alloc (.cells (agC a sc sw ⟨sfa, a.fr.length, sfc⟩ ⟨sha, a.hp.length, shc⟩) 31) := ⟨_, rfl⟩
  rw [← hw1] at hFA ma
  obtain ⟨ab, hab⟩ : ∃ x, x = w.heap.size := ⟨_, rfl⟩
  have HCC : Hid (∀ w', Fr nothing w1 w' → (w'.cell? ⟨ab, 0, none⟩ = some (.int .i64 a.id) ∧ w'.cell? ⟨ab, 1, none⟩ = some (.int .i64 a.trip) ∧ w'.cell? ⟨ab, 2, none⟩ = some (.slice sc.a sc.n sc.c) ∧ w'.cell? ⟨ab, 3, none⟩ = some (.slice sw.a sw.n sw.c) ∧ w'.cell? ⟨ab, 4, none⟩ = some (.slice sfa a.fr.length sfc)) ∧ (w'.cell? ⟨ab, 5, none⟩ = some (.slice sha a.hp.length shc) ∧ w'.cell? ⟨ab, 6, none⟩ = some (.int .i64 a.fuel) ∧ w'.cell? ⟨ab, 7, none⟩ = some (.int .i64 a.cells) ∧ w'.cell? ⟨ab, 8, none⟩ = some (.int .i64 a.hops)) ∧ ab < w'.heap.size) := by
    rw [hab]
    intro w' hf
    have hc : ∀ j, w'.cell? ⟨w.heap.size, j, none⟩ = w1.cell? ⟨w.heap.size, j, none⟩ := fun j => hf.cell (p := ⟨w.heap.size, j, none⟩) ma.2.2 id
    exact ⟨⟨(hc 0).trans (ma.1 0), (hc 1).trans (ma.1 1), (hc 2).trans (ma.1 2), (hc 3).trans (ma.1 3), (hc 4).trans (ma.1 4)⟩, ⟨(hc 5).trans (ma.1 5), (hc 6).trans (ma.1 6), (hc 7).trans (ma.1 7), (hc 8).trans (ma.1 8)⟩, Nat.lt_of_lt_of_le ma.2.2 hf.size⟩
  have HA1 := hide (hA.fr' hFA)
  have HRS := hide (hrs.fr hFA (fun _ _ => id))
  have HEA : Hid (Each (FmOk w1) rs a.fr) := ⟨hea.1, fun i r x e1 e2 => (hea.2 i r x e1 e2).fr hFA⟩
  have HF1 := hide hFA
  have HW := hide hW
  have HPR := hide (program_any a.pg sc sw w1 HA1.out.pg hW.pg)
  have HCT := hide (fun w2 => counts_any a sc sw ⟨sfa, a.fr.length, sfc⟩ ⟨sha, a.hp.length, shc⟩ w2 rfl rfl ⟨hl.2, hl.1⟩)
  have hd : agentC a away = if programC a.pg ≠ 0 then programC a.pg else if countsC a ≠ 0 then countsC a else if firstN (frameE a away) a.fr.length 0 ≠ 0 then firstN (frameE a away) a.fr.length 0 else firstE (cellC a.hp.length) a.hp := rfl
  obtain ⟨R, hR⟩ : ∃ R, agentC a away = R := ⟨_, rfl⟩
  rw [hR] at hd ⊢
  have hfin := @fine_of a.pg
  unfold PrP at HPR
  obtain ⟨pe, hpe⟩ : ∃ x, programC a.pg = x := ⟨_, rfl⟩
  rw [hpe] at hd HPR hfin
  have a0 := ma.1 0
  have a1 := ma.1 1
  have a2 := ma.1 2
  have a3 := ma.1 3
  have al := ma.2.2
  have e1' := hw1.symm
  have HAB := hide hab
  clear hrs hea hA hFA ma hW hR hpe hw1
  by_cases h0 : pe = 0
  case neg =>
    rw [if_pos h0] at hd
    subst hd
    have h0b : (R != 0) = true := by simpa using h0
    go_enter Try.func6, Try.ntmps6
    go_wp2_with (go_at_call 11; refine HPR.out.mono ?_; rintro e w2 ⟨q, rfl, hf2, hh2⟩; have HF2 := hide (HF1.out.trans hf2); clear hf2 hh2)
    go_ret
    exact ⟨rfl, HF2.out⟩
  rw [if_neg (by simpa using h0)] at hd
  have HFI := hide (hfin h0)
  subst h0
  obtain ⟨ce, hce⟩ : ∃ x, countsC a = x := ⟨_, rfl⟩
  rw [hce] at hd HCT
  have hcz : ce = 0 → a.fr.length ≤ 12 ∧ a.hp.length ≤ 60 := fun e => by
    have h : countsC a = 0 := hce.trans e
    unfold countsC at h
    split at h
    · cases h
    split at h
    · cases h
    split at h
    · cases h
    split at h
    · cases h
    omega
  clear hce hfin
  by_cases h1 : ce = 0
  case neg =>
    rw [if_pos h1] at hd
    subst hd
    have h1b : (R != 0) = true := by simpa using h1
    go_enter Try.func6, Try.ntmps6
    go_wp2_with (first
      | (go_at_call 11; refine HPR.out.mono ?_; rintro e w2 ⟨q, rfl, hf2, hh2⟩; have HF2 := hide (HF1.out.trans hf2); obtain ⟨⟨x0, x1, x2, x3, x4⟩, ⟨x5, x6, x7, x8⟩, xl⟩ := HCC.out w2 hf2; rw [hab] at x0 x1 x2 x3 x4 x5 x6 x7 x8 xl; clear hf2 hh2)
      | (go_at_call 12; refine (HCT.out w2).mono ?_; rintro e w3 ⟨rfl, hf3⟩; have HF3 := hide (HF2.out.trans hf3); clear hf3))
    go_ret
    exact ⟨rfl, HF3.out⟩
  rw [if_neg (by simpa using h1)] at hd
  obtain ⟨hf12, hh60⟩ := hcz h1
  subst h1
  have HDD := hide hd
  clear hd hcz hl
  go_enter Try.func6, Try.ntmps6
  go_wp2_with (first
    | (go_at_call 11; refine HPR.out.mono ?_; rintro e w2 ⟨q, rfl, hf2, hh2⟩; obtain ⟨⟨x0, x1, x2, x3, x4⟩, ⟨x5, x6, x7, x8⟩, xl⟩ := HCC.out w2 hf2; rw [hab] at x0 x1 x2 x3 x4 x5 x6 x7 x8 xl; have HF2 := hide hf2; have HH2 := hide hh2; clear hf2 hh2)
    | (go_at_call 12; refine (HCT.out w2).mono ?_; rintro e w3 ⟨rfl, hf3⟩; obtain ⟨⟨-, -, -, -, y4⟩, -, yl⟩ := HCC.out w3 (HF2.out.trans hf3); rw [hab] at y4 yl; have HF3 := hide (HF2.out.trans hf3); have HH3 : Hid (HsOk w3 q (a.pg.cs.map hgtZ)) := (HH2.out (by trivial)).fr hf3; clear hf3))
  rw [← hab]
  clear a0 a1 a2 a3 al e1' x0 x1 x2 x3 x4 x5 x6 x7 x8 xl y4 yl hab HPR HCT HH2
  go_loopw [35, 9, 10, 11, 12, 13] (fun i _ _ _ _ _ wv => ∃ (k : Nat), k ≤ a.fr.length ∧ i = .int .i64 k ∧ Hid (Fr nothing w3 wv ∧ firstN (frameE a away) (a.fr.length - k) k = firstN (frameE a away) a.fr.length 0)) (fun i _ _ _ _ _ _ => a.fr.length - (intOf i).toNat)
  case atStart => exact ⟨0, Nat.zero_le _, rfl, Fr.refl _ _, rfl⟩
  case round =>
    obtain ⟨k, hk, rfl, hRk⟩ := hrel
    obtain ⟨hfk, hek⟩ := hRk.out
    by_cases hkl : k < a.fr.length
    · have hx : a.fr[k]? = some a.fr[k] := List.getElem?_eq_getElem hkl
      have hxm : a.fr[k] ∈ a.fr := List.getElem_mem hkl
      have hgd : a.fr.getD k fm0 = a.fr[k] := by simp [List.getD, hx]
      have hst := firstN_step (f := frameE a away) hkl
      have hfE : frameE a away k = if frameC a.pg (a.fr.getD k fm0) (waitC a k away) ≠ 0 then frameC a.pg (a.fr.getD k fm0) (waitC a k away) else if firstE (wrongV a.hp.length) (a.fr.getD k fm0).vars ≠ 0 then firstE (wrongV a.hp.length) (a.fr.getD k fm0).vars else firstE (wrongV a.hp.length) (a.fr.getD k fm0).stack := rfl
      rw [hgd] at hfE
      rw [hek] at hst
      have hra : rs[k]? = some (rs[k]'(by rw [HEA.out.1]; exact hkl)) := List.getElem?_eq_getElem _
      generalize a.fr[k] = f at hx hxm hgd hfE
      generalize rs[k]'(by rw [HEA.out.1]; exact hkl) = r at hra
      have hwm := HW.out.fr f hxm
      have hok := HEA.out.2 k r f hra hx
      obtain ⟨g, o, e1, dg, u0, u1, u2, u3⟩ := sl_elemM (s := ⟨sfa, a.fr.length, sfc⟩) HRS.out hra
      simp only at e1
      subst e1
      have hF3 := HF3.out.trans hfk
      have dg' := Nat.lt_of_lt_of_le dg hF3.size
      rw [← hF3.cell (p := ⟨g, _, none⟩) dg id] at u0 u1 u2 u3
      have hFB : Fr nothing wr (wr.alloc (.cells #[.int .i64 r.fn, .int .i64 r.at_, .slice r.v.a r.v.n r.v.c, .slice r.s.a r.s.n r.s.c] 55)) := (Fr.refl _ _).alloc _
      have mb := made_cells (Fr.refl nothing (wr.alloc (.cells #[.int .i64 r.fn, .int .i64 r.at_, .slice r.v.a r.v.n r.v.c, .slice r.s.a r.s.n r.s.c] 55))) id
      obtain ⟨w4, hw4⟩ : ∃ x, x = wr.alloc (.cells #[.int .i64 r.fn, .int .i64 r.at_, .slice r.v.a r.v.n r.v.c, .slice r.s.a r.s.n r.s.c] 55) := ⟨_, rfl⟩
      rw [← hw4] at hFB mb
      obtain ⟨fb, hfb⟩ : ∃ x, x = wr.heap.size := ⟨_, rfl⟩
      rw [← hfb] at mb
      have hF4 := hF3.trans hFB
      have HF4 : Hid (Fr nothing w3 w4) := hfk.trans hFB
      have HS4 : Hid (∀ w', Fr nothing w4 w' → (w'.cell? ⟨fb, 0, none⟩ = some (.int .i64 r.fn) ∧ w'.cell? ⟨fb, 1, none⟩ = some (.int .i64 r.at_) ∧ w'.cell? ⟨fb, 2, none⟩ = some (.slice r.v.a r.v.n r.v.c) ∧ w'.cell? ⟨fb, 3, none⟩ = some (.slice r.s.a r.s.n r.s.c)) ∧ fb < w'.heap.size) := fun w' hf => by
        have hc : ∀ j, w'.cell? ⟨fb, j, none⟩ = w4.cell? ⟨fb, j, none⟩ := fun j => hf.cell (p := ⟨fb, j, none⟩) mb.2.2 id
        exact ⟨⟨(hc 0).trans (mb.1 0), (hc 1).trans (mb.1 1), (hc 2).trans (mb.1 2), (hc 3).trans (mb.1 3)⟩, Nat.lt_of_lt_of_le mb.2.2 hf.size⟩
      have HC4 : Hid (∀ w', Fr nothing w4 w' → Fr nothing w1 w') := fun w' hf => HF3.out.trans ((hfk.trans hFB).trans hf)
      have HOK := hide hok
      have HWM := hide hwm
      have HST := hide hst
      have HFE := hide hfE
      have hw4' := hw4.symm
      clear hRk hfk hek hx hxm hgd hst hfE hra hwm hok hF3 hF4 hFB mb hw4
      go_wp2_with fail
      rw [← hfb]
      clear u0 u1 u2 u3 dg dg' hw4' hfb
      obtain ⟨⟨i0, i1, i2, i3, i4⟩, ⟨i5, i6, i7, i8⟩, il⟩ := HCC.out _ (HC4.out _ (Fr.refl _ _))
      obtain ⟨⟨j0, j1, j2, j3⟩, jl⟩ := HS4.out _ (Fr.refl _ _)
      refine wp_region_held_drew (S := fun w' => (w'.cell? ⟨ab, 0, none⟩ = some (.int .i64 a.id) ∧ w'.cell? ⟨ab, 1, none⟩ = some (.int .i64 a.trip) ∧ w'.cell? ⟨ab, 2, none⟩ = some (.slice sc.a sc.n sc.c) ∧ w'.cell? ⟨ab, 3, none⟩ = some (.slice sw.a sw.n sw.c) ∧ w'.cell? ⟨ab, 4, none⟩ = some (.slice (some ⟨g, o, none⟩) a.fr.length sfc)) ∧ (w'.cell? ⟨ab, 5, none⟩ = some (.slice sha a.hp.length shc) ∧ w'.cell? ⟨ab, 6, none⟩ = some (.int .i64 a.fuel) ∧ w'.cell? ⟨ab, 7, none⟩ = some (.int .i64 a.cells) ∧ w'.cell? ⟨ab, 8, none⟩ = some (.int .i64 a.hops)) ∧ (w'.cell? ⟨fb, 0, none⟩ = some (.int .i64 r.fn) ∧ w'.cell? ⟨fb, 1, none⟩ = some (.int .i64 r.at_) ∧ w'.cell? ⟨fb, 2, none⟩ = some (.slice r.v.a r.v.n r.v.c) ∧ w'.cell? ⟨fb, 3, none⟩ = some (.slice r.s.a r.s.n r.s.c))) (by kernel_rfl) ?_ (fun hHeld => ?_)
      · exact ⟨⟨i0, i1, i2, i3, i4⟩, ⟨i5, i6, i7, i8⟩, j0, j1, j2, j3⟩
      refine wpAnyH_take (i := 0) (oi := { dst := some 40, op := Op.load 55 (Operand.tmp 10), type := 55, pos := "verify.go:61", after := #[], guard := none }) (v := ?v1) rfl (by kernel_rfl) (by kernel_rfl) (by kernel_rfl) (fun _ _ _ h => h) (Or.inl ⟨by rfl, ?hy1⟩) (by assumption) ?rest1
      case hy1 => (intro w hSw; (try dsimp only at hSw); obtain ⟨⟨s0, s1, s2, s3, s4⟩, ⟨s5, s6, s7, s8⟩, s9, s10, s11, s12⟩ := hSw; go_simp; try with_reducible rfl)
      try simp only [Act.put, List.setIfInBounds_toArray, List.set_cons_zero, List.set_cons_succ]
      refine wpAnyH_take (i := 1) (oi := { dst := some 41, op := Op.fieldAddr 31 (Operand.tmp 2) 2, type := 0, pos := "verify.go:61", after := #[], guard := none }) (v := ?v2) rfl (by kernel_rfl) (by kernel_rfl) (by kernel_rfl) (fun _ _ _ h => h) (Or.inl ⟨by rfl, ?hy2⟩) (by assumption) ?rest2
      case hy2 => (intro w hSw; (try dsimp only at hSw); obtain ⟨⟨s0, s1, s2, s3, s4⟩, ⟨s5, s6, s7, s8⟩, s9, s10, s11, s12⟩ := hSw; go_simp; try with_reducible rfl)
      try simp only [Act.put, List.setIfInBounds_toArray, List.set_cons_zero, List.set_cons_succ]
      refine wpAnyH_take (i := 2) (oi := { dst := some 42, op := Op.fieldAddr 25 (Operand.tmp 41) 0, type := 0, pos := "verify.go:61", after := #[{ on := 1, ground := Ground.data }], guard := none }) (v := ?v3) rfl (by kernel_rfl) (by kernel_rfl) (by kernel_rfl) (fun _ _ _ h => h) (Or.inl ⟨by rfl, ?hy3⟩) (by assumption) ?rest3
      case hy3 => (intro w hSw; (try dsimp only at hSw); obtain ⟨⟨s0, s1, s2, s3, s4⟩, ⟨s5, s6, s7, s8⟩, s9, s10, s11, s12⟩ := hSw; go_simp; try with_reducible rfl)
      try simp only [Act.put, List.setIfInBounds_toArray, List.set_cons_zero, List.set_cons_succ]
      refine wpAnyH_take (i := 3) (oi := { dst := some 43, op := Op.load 22 (Operand.tmp 42), type := 22, pos := "verify.go:61", after := #[{ on := 2, ground := Ground.data }], guard := none }) (v := ?v4) rfl (by kernel_rfl) (by kernel_rfl) (by kernel_rfl) (fun _ _ _ h => h) (Or.inl ⟨by rfl, ?hy4⟩) (by assumption) ?rest4
      case hy4 => (intro w hSw; (try dsimp only at hSw); obtain ⟨⟨s0, s1, s2, s3, s4⟩, ⟨s5, s6, s7, s8⟩, s9, s10, s11, s12⟩ := hSw; go_simp; try with_reducible rfl)
      try simp only [Act.put, List.setIfInBounds_toArray, List.set_cons_zero, List.set_cons_succ]
      refine wpAnyH_take (i := 4) (oi := { dst := some 44, op := Op.move (Operand.tmp 5), type := 45, pos := "verify.go:61", after := #[], guard := none }) (v := ?v5) rfl (by kernel_rfl) (by kernel_rfl) (by kernel_rfl) (fun _ _ _ h => h) (Or.inl ⟨by rfl, ?hy5⟩) (by assumption) ?rest5
      case hy5 => (intro w hSw; (try dsimp only at hSw); obtain ⟨⟨s0, s1, s2, s3, s4⟩, ⟨s5, s6, s7, s8⟩, s9, s10, s11, s12⟩ := hSw; go_simp; try with_reducible rfl)
      try simp only [Act.put, List.setIfInBounds_toArray, List.set_cons_zero, List.set_cons_succ]
      refine wpAnyH_take (i := 5) (oi := { dst := some 45, op := Op.load 31 (Operand.tmp 2), type := 31, pos := "verify.go:61", after := #[], guard := none }) (v := ?v6) rfl (by kernel_rfl) (by kernel_rfl) (by kernel_rfl) (fun _ _ _ h => h) (Or.inl ⟨by rfl, ?hy6⟩) (by assumption) ?rest6
      case hy6 => (intro w hSw; (try dsimp only at hSw); obtain ⟨⟨s0, s1, s2, s3, s4⟩, ⟨s5, s6, s7, s8⟩, s9, s10, s11, s12⟩ := hSw; go_simp; try with_reducible rfl)
      try simp only [Act.put, List.setIfInBounds_toArray, List.set_cons_zero, List.set_cons_succ]
      refine wpAnyH_take (i := 6) (oi := { dst := some 46, op := Op.move (Operand.tmp 9), type := 3, pos := "verify.go:61", after := #[], guard := none }) (v := ?v7) rfl (by kernel_rfl) (by kernel_rfl) (by kernel_rfl) (fun _ _ _ h => h) (Or.inl ⟨by rfl, ?hy7⟩) (by assumption) ?rest7
      case hy7 => (intro w hSw; (try dsimp only at hSw); obtain ⟨⟨s0, s1, s2, s3, s4⟩, ⟨s5, s6, s7, s8⟩, s9, s10, s11, s12⟩ := hSw; go_simp; try with_reducible rfl)
      try simp only [Act.put, List.setIfInBounds_toArray, List.set_cons_zero, List.set_cons_succ]
      refine wpAnyH_take (i := 7) (oi := { dst := some 47, op := Op.move (Operand.tmp 1), type := 4, pos := "verify.go:61", after := #[], guard := none }) (v := ?v8) rfl (by kernel_rfl) (by kernel_rfl) (by kernel_rfl) (fun _ _ _ h => h) (Or.inl ⟨by rfl, ?hy8⟩) (by assumption) ?rest8
      case hy8 => (intro w hSw; (try dsimp only at hSw); obtain ⟨⟨s0, s1, s2, s3, s4⟩, ⟨s5, s6, s7, s8⟩, s9, s10, s11, s12⟩ := hSw; go_simp; try with_reducible rfl)
      try simp only [Act.put, List.setIfInBounds_toArray, List.set_cons_zero, List.set_cons_succ]
      have HHS : Hid (∀ w', Fr nothing w4 w' → (w'.cell? ⟨ab, 0, none⟩ = some (.int .i64 a.id) ∧ w'.cell? ⟨ab, 1, none⟩ = some (.int .i64 a.trip) ∧ w'.cell? ⟨ab, 2, none⟩ = some (.slice sc.a sc.n sc.c) ∧ w'.cell? ⟨ab, 3, none⟩ = some (.slice sw.a sw.n sw.c) ∧ w'.cell? ⟨ab, 4, none⟩ = some (.slice (some ⟨g, o, none⟩) a.fr.length sfc)) ∧ (w'.cell? ⟨ab, 5, none⟩ = some (.slice sha a.hp.length shc) ∧ w'.cell? ⟨ab, 6, none⟩ = some (.int .i64 a.fuel) ∧ w'.cell? ⟨ab, 7, none⟩ = some (.int .i64 a.cells) ∧ w'.cell? ⟨ab, 8, none⟩ = some (.int .i64 a.hops)) ∧ (w'.cell? ⟨fb, 0, none⟩ = some (.int .i64 r.fn) ∧ w'.cell? ⟨fb, 1, none⟩ = some (.int .i64 r.at_) ∧ w'.cell? ⟨fb, 2, none⟩ = some (.slice r.v.a r.v.n r.v.c) ∧ w'.cell? ⟨fb, 3, none⟩ = some (.slice r.s.a r.s.n r.s.c))) := fun w' hf => by
        have x := HCC.out _ (HC4.out _ hf)
        have y := HS4.out _ hf
        exact ⟨x.1, x.2.1, y.1⟩
      have HWT := hide (waits_any a sc sw ⟨some ⟨g, o, none⟩, a.fr.length, sfc⟩ ⟨sha, a.hp.length, shc⟩ k away rs w4.drew (HRS.out.fr (HC4.out _ (Fr.refl nothing w4).drew) (fun _ _ => id)) ⟨HEA.out.1, fun i r x e1 e2 => (HEA.out.2 i r x e1 e2).fr (HC4.out _ (Fr.refl nothing w4).drew)⟩ (by omega))
      have HFM : Hid (∀ w5, Fr nothing w4 w5 → Calls Try.prog 15 #[.agg #[.int .i64 r.fn, .int .i64 r.at_, .slice r.v.a r.v.n r.v.c, .slice r.s.a r.s.n r.s.c], .slice sc.a sc.n sc.c, .slice q.a q.n q.c, .agg #[.int .i64 (waitC a k away).1, .int .i64 (waitC a k away).2]] w5 fun e w' => e = .returned (.int .i64 (frameC a.pg f (waitC a k away))) ∧ Fr nothing w5 w') := fun w5 hf =>
        frame_any a.pg f r (waitC a k away) sc sw q w5 (HA1.out.pg.fr (HC4.out _ hf)) (HH3.out.fr (HF4.out.trans hf)) (HOK.out.fr (HC4.out _ hf)) HFI.out ⟨HWM.out.fn, HWM.out.at_⟩
      have HV : Hid (∀ w6, Fr nothing w4 w6 → Calls Try.prog 13 #[.slice r.v.a r.v.n r.v.c, .pointer (some ⟨ab, 0, none⟩)] w6 fun e w' => e = .returned (.int .i64 (firstE (wrongV a.hp.length) f.vars)) ∧ Fr nothing w6 w') := fun w6 hf =>
        wrongs_any f.vars r.v ab a.hp.length sha shc w6 (HOK.out.v.fr (HC4.out _ hf) (fun _ _ => id)) HWM.out.v (HHS.out _ hf).2.1.1
      have HSS : Hid (∀ w6, Fr nothing w4 w6 → Calls Try.prog 13 #[.slice r.s.a r.s.n r.s.c, .pointer (some ⟨ab, 0, none⟩)] w6 fun e w' => e = .returned (.int .i64 (firstE (wrongV a.hp.length) f.stack)) ∧ Fr nothing w6 w') := fun w6 hf =>
        wrongs_any f.stack r.s ab a.hp.length sha shc w6 (HOK.out.s.fr (HC4.out _ hf) (fun _ _ => id)) HWM.out.s (HHS.out _ hf).2.1.1
      clear i0 i1 i2 i3 i4 i5 i6 i7 i8 il j0 j1 j2 j3 jl
      refine wpAnyH_ready (rs := [8]) (by kernel_rfl) (by simp) ?_
      refine AllReadyH.cons (o := { dst := some 48, op := Op.call { callee := Callee.value (Operand.func 16), args := #[Operand.tmp 45, Operand.tmp 46, Operand.tmp 47], argTypes := #[31, 3, 4] }, type := 58, pos := "verify.go:61", after := #[{ on := 5, ground := Ground.data }, { on := 6, ground := Ground.data }, { on := 7, ground := Ground.data }], guard := none }) rfl (fun K hK => ?_) AllReadyH.nil
      refine step_call (by rfl) 16 Try.f16 #[.tmp 45, .tmp 46, .tmp 47] #[31, 3, 4] rfl Try.func16 (by kernel_rfl) (by kernel_rfl) #[.agg (agC a sc sw ⟨some ⟨g, o, none⟩, a.fr.length, sfc⟩ ⟨sha, a.hp.length, shc⟩), .int .i64 (k : Nat), .bool away] (by simp [Act.eval]) _ HWT.out ?_
      rintro e w5 ⟨rfl, hf5⟩
      have F5 : Fr nothing w4 w5 := (Fr.refl nothing w4).drew.trans hf5
      refine ⟨_, rfl, hK _ _ (HHS.out _ F5) (fun _ => ?_)⟩
      clear hK K hHeld
      try simp only [Act.put, List.setIfInBounds_toArray, List.set_cons_zero, List.set_cons_succ]
      refine wpAnyH_ready (rs := [9]) (by kernel_rfl) (by simp) ?_
      refine AllReadyH.cons (o := { dst := some 49, op := Op.call { callee := Callee.value (Operand.func 15), args := #[Operand.tmp 40, Operand.tmp 43, Operand.tmp 44, Operand.tmp 48], argTypes := #[55, 22, 45, 58] }, type := 32, pos := "verify.go:61", after := #[{ on := 0, ground := Ground.data }, { on := 3, ground := Ground.data }, { on := 4, ground := Ground.data }, { on := 8, ground := Ground.data }, { on := 8, ground := Ground.chain }], guard := none }) rfl (fun K hK => ?_) AllReadyH.nil
      refine step_call (by rfl) 15 Try.f15 #[.tmp 40, .tmp 43, .tmp 44, .tmp 48] #[55, 22, 45, 58] rfl Try.func15 (by kernel_rfl) (by kernel_rfl) #[.agg #[.int .i64 r.fn, .int .i64 r.at_, .slice r.v.a r.v.n r.v.c, .slice r.s.a r.s.n r.s.c], .slice sc.a sc.n sc.c, .slice q.a q.n q.c, .agg #[.int .i64 (waitC a k away).1, .int .i64 (waitC a k away).2]] (by simp [Act.eval]) _ (HFM.out w5 F5) ?_
      rintro e w6 ⟨rfl, hf6⟩
      have F6 : Fr nothing w4 w6 := F5.trans hf6
      refine ⟨_, rfl, hK _ _ (HHS.out _ F6) (fun _ => ?_)⟩
      clear hK K
      try simp only [Act.put, List.setIfInBounds_toArray, List.set_cons_zero, List.set_cons_succ]
      have hHeld := HHS.out _ F6
      refine wpAnyH_take (i := 10) (oi := { dst := some 11, op := Op.assign (Operand.tmp 49), type := 32, pos := "verify.go:61", after := #[{ on := 9, ground := Ground.data }, { on := 9, ground := Ground.chain }, { on := 0, ground := Ground.phase }, { on := 1, ground := Ground.phase }, { on := 2, ground := Ground.phase }, { on := 3, ground := Ground.phase }, { on := 4, ground := Ground.phase }, { on := 5, ground := Ground.phase }, { on := 6, ground := Ground.phase }, { on := 7, ground := Ground.phase }, { on := 8, ground := Ground.phase }, { on := 9, ground := Ground.phase }], guard := none }) (v := ?v9) rfl (by kernel_rfl) (by kernel_rfl) (by kernel_rfl) (fun _ _ _ h => h) (Or.inl ⟨by rfl, ?hy9⟩) (by assumption) ?rest9
      case hy9 => (intro w hSw; (try dsimp only at hSw); obtain ⟨⟨s0, s1, s2, s3, s4⟩, ⟨s5, s6, s7, s8⟩, s9, s10, s11, s12⟩ := hSw; go_simp; try with_reducible rfl)
      try simp only [Act.put, List.setIfInBounds_toArray, List.set_cons_zero, List.set_cons_succ]
      refine wpAnyH_done (by kernel_rfl) ?_ _
      have HF6 := hide F6
      obtain ⟨⟨k0, k1, k2, k3⟩, kl⟩ := HS4.out w6 F6
      obtain ⟨fe, hfe⟩ : ∃ x, frameC a.pg f (waitC a k away) = x := ⟨_, rfl⟩
      obtain ⟨ve, hve⟩ : ∃ x, firstE (wrongV a.hp.length) f.vars = x := ⟨_, rfl⟩
      obtain ⟨se, hse⟩ : ∃ x, firstE (wrongV a.hp.length) f.stack = x := ⟨_, rfl⟩
      rw [hfe, hve, hse] at HFE
      rw [hfe]
      clear hHeld hf5 hf6 F5 F6 HWT HFM hfe
      by_cases h1 : fe = 0
      case neg =>
        have h1b : (fe != 0) = true := by simpa using h1
        have HR : Hid (R = fe) := by
          have e1 := HFE.out
          rw [if_pos h1] at e1
          have e2 := HST.out
          rw [e1, if_pos h1] at e2
          have e3 := HDD.out
          rw [e2, if_pos h1] at e3
          exact e3
        have HFF := hide (HF1.out.trans (HC4.out _ HF6.out))
        go_wp2_with fail
        go_ret
        exact ⟨by rw [HR.out]; rfl, HFF.out⟩
      subst h1
      by_cases h2 : ve = 0
      case neg =>
        have h2b : (ve != 0) = true := by simpa using h2
        have HR : Hid (R = ve) := by
          have e1 := HFE.out
          rw [if_neg (by simp), if_pos h2] at e1
          have e2 := HST.out
          rw [e1, if_pos h2] at e2
          have e3 := HDD.out
          rw [e2, if_pos h2] at e3
          exact e3
        go_wp2_with (go_at_call 13; refine (HV.out w6 HF6.out).mono ?_; rintro e w7 ⟨rfl, hf7⟩; rw [hve]; have HF7 := hide (HF6.out.trans hf7); obtain ⟨⟨l0, l1, l2, l3⟩, ll⟩ := HS4.out w7 HF7.out; clear hf7)
        go_ret
        exact ⟨by rw [HR.out]; rfl, HF1.out.trans (HC4.out _ HF7.out)⟩
      subst h2
      by_cases h3 : se = 0
      case neg =>
        have h3b : (se != 0) = true := by simpa using h3
        have HR : Hid (R = se) := by
          have e1 := HFE.out
          rw [if_neg (by simp), if_neg (by simp)] at e1
          have e2 := HST.out
          rw [e1, if_pos h3] at e2
          have e3 := HDD.out
          rw [e2, if_pos h3] at e3
          exact e3
        go_wp2_with (first | (go_at_call 13; refine (HSS.out w7 HF7.out).mono ?_; rintro e w8 ⟨rfl, hf8⟩; rw [hse]; have HF8 := hide (HF7.out.trans hf8); clear hf8) | (go_at_call 13; refine (HV.out w6 HF6.out).mono ?_; rintro e w7 ⟨rfl, hf7⟩; rw [hve]; have HF7 := hide (HF6.out.trans hf7); obtain ⟨⟨l0, l1, l2, l3⟩, ll⟩ := HS4.out w7 HF7.out; clear hf7))
        go_ret
        exact ⟨by rw [HR.out]; rfl, HF1.out.trans (HC4.out _ HF8.out)⟩
      subst h3
      have HE : Hid (firstN (frameE a away) (a.fr.length - (k + 1)) (k + 1) = firstN (frameE a away) a.fr.length 0) := by
        have e1 := HFE.out
        rw [if_neg (by simp), if_neg (by simp)] at e1
        have e2 := HST.out
        rw [e1, if_neg (by simp)] at e2
        exact e2.symm
      go_wp2_with (first | (go_at_call 13; refine (HSS.out w7 HF7.out).mono ?_; rintro e w8 ⟨rfl, hf8⟩; rw [hse]; have HF8 := hide (HF7.out.trans hf8); clear hf8) | (go_at_call 13; refine (HV.out w6 HF6.out).mono ?_; rintro e w7 ⟨rfl, hf7⟩; rw [hve]; have HF7 := hide (HF6.out.trans hf7); obtain ⟨⟨l0, l1, l2, l3⟩, ll⟩ := HS4.out w7 HF7.out; clear hf7))
      go_roundw
      case rel => exact ⟨k + 1, by omega, by go_num, HF4.out.trans HF8.out, HE.out⟩
      case measure => simp [intOf]; omega
    · have hz : firstN (frameE a away) a.fr.length 0 = 0 := by
        rw [← hek, show a.fr.length - k = 0 by omega, firstN]
      have hd := HDD.out
      rw [hz, if_neg (by simp)] at hd
      have HD2 := hide hd
      have HF4 : Hid (Fr nothing w3 wr) := hfk
      obtain ⟨⟨-, -, -, -, -⟩, ⟨i5, -, -, -⟩, il⟩ := HCC.out _ (HF3.out.trans hfk)
      have HHP := hide (HA1.out.hp)
      obtain ⟨w4, hw4⟩ : ∃ x, x = wr := ⟨_, rfl⟩
      subst hw4
      clear hRk hfk hek hz hd HDD
      go_wp2_with fail
      clear i5 il
      go_loopw [71, 15, 16] (fun i _ _ wv => ∃ (j : Nat), j ≤ a.hp.length ∧ i = .int .i64 j ∧ Hid (Fr nothing w4 wv ∧ firstE (cellC a.hp.length) (a.hp.drop j) = firstE (cellC a.hp.length) a.hp)) (fun i _ _ _ => a.hp.length - (intOf i).toNat)
      case atStart => exact ⟨0, Nat.zero_le _, rfl, Fr.refl _ _, rfl⟩
      case round =>
        obtain ⟨j, hj, rfl, hRj⟩ := hrel
        obtain ⟨hfj, hej⟩ := hRj.out
        have hFj := HF3.out.trans (HF4.out.trans hfj)
        by_cases hjl : j < a.hp.length
        · have hx : a.hp[j]? = some a.hp[j] := List.getElem?_eq_getElem hjl
          have hxm : a.hp[j] ∈ a.hp := List.getElem_mem hjl
          have hst := firstE_drop (cellC a.hp.length) a.hp hx
          rw [hej] at hst
          generalize a.hp[j] = c at hx hxm hst
          have hwc := HW.out.hp c hxm
          obtain ⟨g, o, e1, dg, u0, u1, u2, u3, u4, u5⟩ := sl_elemL (s := ⟨sha, a.hp.length, shc⟩) HHP.out hx
          simp only at e1
          subst e1
          have dg' := Nat.lt_of_lt_of_le dg hFj.size
          rw [← hFj.cell (p := ⟨g, _, none⟩) dg id] at u0 u1 u2 u3 u4 u5
          obtain ⟨cl, cr⟩ := c
          obtain ⟨lk, ln, lt⟩ := cl
          obtain ⟨rk, rn, rt⟩ := cr
          simp only at u0 u1 u2 u3 u4 u5 hwc
          have hFB : Fr nothing wr (wr.alloc (.cells #[.int .i64 lk, .int .i64 ln, .string (bs lt), .int .i64 rk, .int .i64 rn, .string (bs rt)] 61)) := (Fr.refl _ _).alloc _
          obtain ⟨w5, hw5⟩ : ∃ x, x = wr.alloc (.cells #[.int .i64 lk, .int .i64 ln, .string (bs lt), .int .i64 rk, .int .i64 rn, .string (bs rt)] 61) := ⟨_, rfl⟩
          have z5 : w5.heap.size = wr.heap.size + 1 := by rw [hw5]; simp
          rw [← hw5] at hFB
          have hFC : Fr nothing w5 (w5.alloc (.cells #[.int .i64 lk, .int .i64 ln, .string (bs lt), .int .i64 rk, .int .i64 rn, .string (bs rt)] 51)) := (Fr.refl _ _).alloc _
          have hsl := (Own.lit (enc := encV) (T := 51) (base := 0) w5 #[.int .i64 lk, .int .i64 ln, .string (bs lt), .int .i64 rk, .int .i64 rn, .string (bs rt)] [⟨lk, ln, lt⟩, ⟨rk, rn, rt⟩] rfl encV_len (Nat.zero_le _) (by unfold maxLen; simp)).sl encV_len
          rw [z5] at hsl
          have mb := made_cells (w := wr) (cs := #[.int .i64 lk, .int .i64 ln, .string (bs lt), .int .i64 rk, .int .i64 rn, .string (bs rt)]) (t := 61) (w1 := w5) (S := nothing) (by rw [← hw5]; exact Fr.refl _ _) id
          have m0 := mb.1 0
          have m1 := mb.1 1
          have m2 := mb.1 2
          have m3 := mb.1 3
          have m4 := mb.1 4
          have m5 := mb.1 5
          have ml := mb.2.2
          have HWR := hide (wrongs_any [⟨lk, ln, lt⟩, ⟨rk, rn, rt⟩] ⟨some ⟨wr.heap.size + 1, 0, none⟩, 2, 2⟩ ab a.hp.length (some ⟨g, o, none⟩) shc (w5.alloc (.cells #[.int .i64 lk, .int .i64 ln, .string (bs lt), .int .i64 rk, .int .i64 rn, .string (bs rt)] 51)) hsl (fun v hv => by
            rcases List.mem_cons.1 hv with rfl | hv
            · exact hwc.1
            · rw [List.mem_singleton.1 hv]; exact hwc.2) (HCC.out _ (hFj.trans (hFB.trans hFC))).2.1.1)
          have hct := cell_two a.hp.length ⟨⟨lk, ln, lt⟩, ⟨rk, rn, rt⟩⟩
          simp only at hct
          rw [hct] at HWR
          obtain ⟨er, her⟩ : ∃ x, cellC a.hp.length ⟨⟨lk, ln, lt⟩, ⟨rk, rn, rt⟩⟩ = x := ⟨_, rfl⟩
          rw [her] at HWR hst
          have HST := hide hst
          have HFF := hide (hFB.trans hFC)
          have HFJ := hide hFj
          have HFj := hide hfj
          have hw5' := hw5.symm
          clear hRj hfj hej hx hxm hst hwc hFj hFB hFC hsl mb hct her hw5
          by_cases h1 : er = 0
          · subst h1
            have HE : Hid (firstE (cellC a.hp.length) (a.hp.drop (j + 1)) = firstE (cellC a.hp.length) a.hp) := by
              have := HST.out
              rw [if_neg (by simp)] at this
              exact this.symm
            go_wp2_with (go_at_call 13; refine HWR.out.mono ?_; rintro e w7 ⟨rfl, hf7⟩; have HF7 := hide (HFj.out.trans (HFF.out.trans hf7)); clear hf7)
            go_roundw
            case rel => exact ⟨j + 1, by omega, by go_num, HF7.out, HE.out⟩
            case measure => simp [intOf]; omega
          · have h1b : (er != 0) = true := by simpa using h1
            have HR : Hid (R = er) := by
              have := HST.out
              rw [if_pos h1] at this
              exact HD2.out.trans this
            go_wp2_with (go_at_call 13; refine HWR.out.mono ?_; rintro e w7 ⟨rfl, hf7⟩; have HF7 := hide (HF1.out.trans (HFJ.out.trans (HFF.out.trans hf7))); clear hf7)
            go_ret
            exact ⟨by rw [HR.out]; rfl, HF7.out⟩
        · have hR0 : R = 0 := by rw [HD2.out, ← hej]; exact firstE_end _ _ (by omega)
          have HFF := hide (HF1.out.trans hFj)
          subst hR0
          clear hRj hfj hej hFj
          go_wp2_with fail
          go_ret
          exact ⟨rfl, HFF.out⟩
end Go.Proofs.Ytgocmpooppejdaa
