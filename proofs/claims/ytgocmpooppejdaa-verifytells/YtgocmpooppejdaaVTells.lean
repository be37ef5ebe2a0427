/- VerifyTells: the law's walk. -/
import Derived.Test.YtgocmpooppejdaaRAgent
set_option maxHeartbeats 0
set_option maxRecDepth 100000
namespace Go.Proofs.Ytgocmpooppejdaa
open Go Go.RowKit
theorem vtells_law (p : Pz) (sc sw : Slc) (a : Ag) (tc tw sf sh : Slc) (away : Bool) (w : World) (hp : PzOk w sc sw p) (hpw : WfZ p) (hA : AgOk w tc tw sf sh a) (hW : WfA a) :
    Calls Try.prog 3 #[.agg #[.slice sc.a sc.n sc.c, .slice sw.a sw.n sw.c], .agg (agC a tc tw sf sh), .bool away] w fun e w' => e = .returned (.bool true) ∧ Fr nothing w w' := by
  have ncs : sc.n = p.cs.length := by
    obtain ⟨rc, hrc, hec⟩ := hp.cs
    rw [(sl_len hrc).1, hec.1]
  have mcs : p.cs.length ≤ 9223372036854775807 := by
    obtain ⟨rc, hrc, hec⟩ := hp.cs
    have := (sl_len hrc).2
    rw [hec.1] at this
    exact this
  obtain ⟨sca, scn, scc⟩ := sc
  simp only at ncs
  subst ncs
  have FA : Fr nothing w (w.alloc (.cells #[.slice sca p.cs.length scc, .slice sw.a sw.n sw.c] 25)) := (Fr.refl _ _).alloc _
  obtain ⟨w1, hw1⟩ : ∃ x, x = w.alloc (.cells #[.slice sca p.cs.length scc, .slice sw.a sw.n sw.c] 25) := ⟨_, rfl⟩
  rw [← hw1] at FA
  have FB : Fr nothing w1 (w1.alloc (.cells (agC a tc tw sf sh) 31)) := (Fr.refl _ _).alloc _
  obtain ⟨w2, hw2⟩ : ∃ x, x = w1.alloc (.cells (agC a tc tw sf sh) 31) := ⟨_, rfl⟩
  rw [← hw2] at FB
  have z1 : w1.heap.size = w.heap.size + 1 := by rw [hw1]; simp
  have ma := made_cells (w := w) (cs := #[.slice sca p.cs.length scc, .slice sw.a sw.n sw.c]) (t := 25) (w1 := w2) (S := nothing) (by rw [← hw1]; exact FB) id
  have mb := made_cells (w := w1) (cs := agC a tc tw sf sh) (t := 31) (w1 := w2) (S := nothing) (by rw [← hw2]; exact Fr.refl _ _) id
  rw [z1] at mb
  have HCC : Hid (∀ w', Fr nothing w2 w' → (w'.cell? ⟨w.heap.size, 0, none⟩ = some (.slice sca p.cs.length scc) ∧ w'.cell? ⟨w.heap.size, 1, none⟩ = some (.slice sw.a sw.n sw.c)) ∧ (w'.cell? ⟨w.heap.size + 1, 0, none⟩ = some (.int .i64 a.id) ∧ w'.cell? ⟨w.heap.size + 1, 1, none⟩ = some (.int .i64 a.trip) ∧ w'.cell? ⟨w.heap.size + 1, 2, none⟩ = some (.slice tc.a tc.n tc.c) ∧ w'.cell? ⟨w.heap.size + 1, 3, none⟩ = some (.slice tw.a tw.n tw.c) ∧ w'.cell? ⟨w.heap.size + 1, 4, none⟩ = some (.slice sf.a sf.n sf.c)) ∧ (w'.cell? ⟨w.heap.size + 1, 5, none⟩ = some (.slice sh.a sh.n sh.c) ∧ w'.cell? ⟨w.heap.size + 1, 6, none⟩ = some (.int .i64 a.fuel) ∧ w'.cell? ⟨w.heap.size + 1, 7, none⟩ = some (.int .i64 a.cells) ∧ w'.cell? ⟨w.heap.size + 1, 8, none⟩ = some (.int .i64 a.hops)) ∧ w.heap.size < w'.heap.size ∧ w.heap.size + 1 < w'.heap.size) := by
    intro w' hf
    have hc : ∀ j, w'.cell? ⟨w.heap.size, j, none⟩ = _ := fun j => (hf.cell (p := ⟨w.heap.size, j, none⟩) ma.2.2 id).trans (ma.1 j)
    have hd : ∀ j, w'.cell? ⟨w.heap.size + 1, j, none⟩ = _ := fun j => (hf.cell (p := ⟨w.heap.size + 1, j, none⟩) mb.2.2 id).trans (mb.1 j)
    exact ⟨⟨hc 0, hc 1⟩, ⟨hd 0, hd 1, hd 2, hd 3, hd 4⟩, ⟨hd 5, hd 6, hd 7, hd 8⟩, Nat.lt_of_lt_of_le ma.2.2 hf.size, Nat.lt_of_lt_of_le mb.2.2 hf.size⟩
  have HF2 : Hid (Fr nothing w w2) := FA.trans FB
  have HP2 := hide (hp.fr HF2.out)
  have HA2 := hide (hA.fr' HF2.out)
  have HPW := hide hpw
  have HRP : Hid (∀ w', Fr nothing w2 w' → Calls Try.prog 4 #[.agg #[.slice sca p.cs.length scc, .slice sw.a sw.n sw.c]] w' fun e w'' => e = .returned (.int .i64 (programC p)) ∧ Fr nothing w' w'') := fun w' hf => rprogram_any p ⟨sca, p.cs.length, scc⟩ sw w' (HP2.out.fr hf) hpw
  have HVP : Hid (∀ w', Fr nothing w2 w' → Calls Try.prog 5 #[.agg #[.slice sca p.cs.length scc, .slice sw.a sw.n sw.c]] w' fun e w'' => e = .returned (.int .i64 (programC p)) ∧ Fr nothing w' w'') := fun w' hf => vProgram_any p ⟨sca, p.cs.length, scc⟩ sw w' (HP2.out.fr hf) hpw
  have HVA : Hid (∀ w', Fr nothing w2 w' → Calls Try.prog 6 #[.agg (agC a tc tw sf sh), .bool away] w' fun e w'' => e = .returned (.int .i64 (agentC a away)) ∧ Fr nothing w' w'') := fun w' hf => vAgent_any a tc tw sf sh away w' (HA2.out.fr' hf) hW
  have HRA : Hid (∀ w', Fr nothing w2 w' → Calls Try.prog 7 #[.agg (agC a tc tw sf sh), .bool away] w' fun e w'' => e = .returned (.int .i64 (agentC a away)) ∧ Fr nothing w' w'') := fun w' hf => ragent_any a tc tw sf sh away w' (HA2.out.fr' hf) hW
  have e1' := hw1.symm
  have e2' := hw2.symm
  have HMO := hide (@prog_more p)
  obtain ⟨pe, hpe⟩ : ∃ x, programC p = x := ⟨_, rfl⟩
  obtain ⟨ae, hae⟩ : ∃ x, agentC a away = x := ⟨_, rfl⟩
  rw [hpe] at HRP HVP HMO
  rw [hae] at HVA HRA
  obtain ⟨⟨p0, p1⟩, ⟨q0, q1, q2, q3, q4⟩, ⟨q5, q6, q7, q8⟩, pl, ql⟩ := HCC.out w2 (Fr.refl _ _)
  clear hp hA hpw hW FA FB ma mb hw1 hw2 hpe hae
  go_enter Try.func3, Try.ntmps3
  go_wp2_with (go_at_call 4; refine (HRP.out _ (Fr.refl _ _)).mono ?_; rintro e w3 ⟨rfl, hf3⟩; have HF3 := hide hf3; clear hf3)
  clear p0 p1 q0 q1 q2 q3 q4 q5 q6 q7 q8 pl ql e1' e2' HRP
  obtain ⟨pb, hpb⟩ : ∃ x, x = w.heap.size := ⟨_, rfl⟩
  have hS : ∀ w', Fr nothing w2 w' → ((w'.cell? ⟨w.heap.size, 0, none⟩ = some (.slice sca p.cs.length scc) ∧ w'.cell? ⟨w.heap.size, 1, none⟩ = some (.slice sw.a sw.n sw.c)) ∧ (w'.cell? ⟨w.heap.size + 1, 0, none⟩ = some (.int .i64 a.id) ∧ w'.cell? ⟨w.heap.size + 1, 1, none⟩ = some (.int .i64 a.trip) ∧ w'.cell? ⟨w.heap.size + 1, 2, none⟩ = some (.slice tc.a tc.n tc.c) ∧ w'.cell? ⟨w.heap.size + 1, 3, none⟩ = some (.slice tw.a tw.n tw.c) ∧ w'.cell? ⟨w.heap.size + 1, 4, none⟩ = some (.slice sf.a sf.n sf.c)) ∧ (w'.cell? ⟨w.heap.size + 1, 5, none⟩ = some (.slice sh.a sh.n sh.c) ∧ w'.cell? ⟨w.heap.size + 1, 6, none⟩ = some (.int .i64 a.fuel) ∧ w'.cell? ⟨w.heap.size + 1, 7, none⟩ = some (.int .i64 a.cells) ∧ w'.cell? ⟨w.heap.size + 1, 8, none⟩ = some (.int .i64 a.hops))) := fun w' hf => ⟨(HCC.out w' hf).1, (HCC.out w' hf).2.1, (HCC.out w' hf).2.2.1⟩
  have d1 : (pe != pe) = false := by simp
  have d2 : (ae != ae) = false := by simp
  refine wp_region_held_drew (S := fun w' => (w'.cell? ⟨w.heap.size, 0, none⟩ = some (.slice sca p.cs.length scc) ∧ w'.cell? ⟨w.heap.size, 1, none⟩ = some (.slice sw.a sw.n sw.c)) ∧ (w'.cell? ⟨w.heap.size + 1, 0, none⟩ = some (.int .i64 a.id) ∧ w'.cell? ⟨w.heap.size + 1, 1, none⟩ = some (.int .i64 a.trip) ∧ w'.cell? ⟨w.heap.size + 1, 2, none⟩ = some (.slice tc.a tc.n tc.c) ∧ w'.cell? ⟨w.heap.size + 1, 3, none⟩ = some (.slice tw.a tw.n tw.c) ∧ w'.cell? ⟨w.heap.size + 1, 4, none⟩ = some (.slice sf.a sf.n sf.c)) ∧ (w'.cell? ⟨w.heap.size + 1, 5, none⟩ = some (.slice sh.a sh.n sh.c) ∧ w'.cell? ⟨w.heap.size + 1, 6, none⟩ = some (.int .i64 a.fuel) ∧ w'.cell? ⟨w.heap.size + 1, 7, none⟩ = some (.int .i64 a.cells) ∧ w'.cell? ⟨w.heap.size + 1, 8, none⟩ = some (.int .i64 a.hops))) (by kernel_rfl) (hS _ HF3.out.drew) (fun hHeld => ?_)
  refine wpAnyH_take (i := 0) (oi := { dst := some 17, op := Op.load 25 (Operand.tmp 3), type := 25, pos := "law.go:29", after := #[], guard := none }) (v := ?v1) rfl (by kernel_rfl) (by kernel_rfl) (by kernel_rfl) (fun _ _ _ h => h) (Or.inl ⟨by rfl, ?hy1⟩) (by assumption) ?rest1
  case hy1 => (intro w hSw; (try dsimp only at hSw); obtain ⟨⟨s0, s1⟩, ⟨t0, t1, t2, t3, t4⟩, t5, t6, t7, t8⟩ := hSw; go_simp; try with_reducible rfl)
  try simp only [Act.put, List.setIfInBounds_toArray, List.set_cons_zero, List.set_cons_succ]
  refine wpAnyH_take (i := 2) (oi := { dst := some 19, op := Op.move (Operand.tmp 7), type := 32, pos := "law.go:29", after := #[], guard := none }) (v := ?v2) rfl (by kernel_rfl) (by kernel_rfl) (by kernel_rfl) (fun _ _ _ h => h) (Or.inl ⟨by rfl, ?hy2⟩) (by assumption) ?rest2
  case hy2 => (intro w hSw; (try dsimp only at hSw); obtain ⟨⟨s0, s1⟩, ⟨t0, t1, t2, t3, t4⟩, t5, t6, t7, t8⟩ := hSw; go_simp; try with_reducible rfl)
  try simp only [Act.put, List.setIfInBounds_toArray, List.set_cons_zero, List.set_cons_succ]
  refine wpAnyH_ready (rs := [1]) (by kernel_rfl) (by simp) ?_
  refine AllReadyH.cons (o := { dst := some 18, op := Op.call { callee := Callee.value (Operand.func 5), args := #[Operand.tmp 17], argTypes := #[25] }, type := 32, pos := "law.go:29", after := #[{ on := 0, ground := Ground.data }], guard := none }) rfl (fun K hK => ?_) AllReadyH.nil
  refine step_call (by rfl) 5 Try.f5 #[.tmp 17] #[25] rfl Try.func5 (by kernel_rfl) (by kernel_rfl) #[.agg #[.slice sca p.cs.length scc, .slice sw.a sw.n sw.c]] (by simp [Act.eval]) _ (HVP.out _ HF3.out.drew) ?_
  rintro e w4 ⟨rfl, hf4⟩
  have F4 : Fr nothing w2 w4 := HF3.out.drew.trans hf4
  refine ⟨_, rfl, hK _ _ (hS _ F4) (fun _ => ?_)⟩
  clear hK K hHeld
  try simp only [Act.put, List.setIfInBounds_toArray, List.set_cons_zero, List.set_cons_succ]
  have hHeld := hS _ F4
  refine wpAnyH_take (i := 3) (oi := { dst := some 20, op := Op.binOp BinOp.neq 32 (Operand.tmp 18) (Operand.tmp 19) 32, type := 4, pos := "law.go:29", after := #[{ on := 1, ground := Ground.data }, { on := 2, ground := Ground.data }], guard := none }) (v := ?v3) rfl (by kernel_rfl) (by kernel_rfl) (by kernel_rfl) (fun _ _ _ h => h) (Or.inl ⟨by rfl, ?hy3⟩) (by assumption) ?rest3
  case hy3 => (intro w hSw; (try dsimp only at hSw); skip; go_simp; try with_reducible rfl)
  try simp only [Act.put, List.setIfInBounds_toArray, List.set_cons_zero, List.set_cons_succ]
  try simp only [d1]
  refine wpAnyH_take (i := 4) (oi := { dst := some 21, op := Op.move (Operand.tmp 20), type := 4, pos := "law.go:29", after := #[{ on := 3, ground := Ground.data }, { on := 1, ground := Ground.chain }], guard := none }) (v := ?v4) rfl (by kernel_rfl) (by kernel_rfl) (by kernel_rfl) (fun _ _ _ h => h) (Or.inl ⟨by rfl, ?hy4⟩) (by assumption) ?rest4
  case hy4 => (intro w hSw; (try dsimp only at hSw); skip; go_simp; try with_reducible rfl)
  try simp only [Act.put, List.setIfInBounds_toArray, List.set_cons_zero, List.set_cons_succ]
  try simp only [d1]
  refine wpAnyH_take (i := 5) (oi := { dst := some 22, op := Op.load 31 (Operand.tmp 4), type := 31, pos := "law.go:29", after := #[{ on := 4, ground := Ground.guard }], guard := some (4, false) }) (v := ?v5) rfl (by kernel_rfl) (by kernel_rfl) (by kernel_rfl) (fun _ _ _ h => h) (Or.inl ⟨by rfl, ?hy5⟩) (by assumption) ?rest5
  case hy5 => (intro w hSw; (try dsimp only at hSw); obtain ⟨⟨s0, s1⟩, ⟨t0, t1, t2, t3, t4⟩, t5, t6, t7, t8⟩ := hSw; go_simp; try with_reducible rfl)
  try simp only [Act.put, List.setIfInBounds_toArray, List.set_cons_zero, List.set_cons_succ]
  refine wpAnyH_take (i := 6) (oi := { dst := some 23, op := Op.move (Operand.tmp 2), type := 4, pos := "law.go:29", after := #[{ on := 4, ground := Ground.guard }], guard := some (4, false) }) (v := ?v6) rfl (by kernel_rfl) (by kernel_rfl) (by kernel_rfl) (fun _ _ _ h => h) (Or.inl ⟨by rfl, ?hy6⟩) (by assumption) ?rest6
  case hy6 => (intro w hSw; (try dsimp only at hSw); obtain ⟨⟨s0, s1⟩, ⟨t0, t1, t2, t3, t4⟩, t5, t6, t7, t8⟩ := hSw; go_simp; try with_reducible rfl)
  try simp only [Act.put, List.setIfInBounds_toArray, List.set_cons_zero, List.set_cons_succ]
  refine wpAnyH_take (i := 8) (oi := { dst := some 25, op := Op.load 31 (Operand.tmp 4), type := 31, pos := "law.go:29", after := #[{ on := 4, ground := Ground.guard }], guard := some (4, false) }) (v := ?v7) rfl (by kernel_rfl) (by kernel_rfl) (by kernel_rfl) (fun _ _ _ h => h) (Or.inl ⟨by rfl, ?hy7⟩) (by assumption) ?rest7
  case hy7 => (intro w hSw; (try dsimp only at hSw); obtain ⟨⟨s0, s1⟩, ⟨t0, t1, t2, t3, t4⟩, t5, t6, t7, t8⟩ := hSw; go_simp; try with_reducible rfl)
  try simp only [Act.put, List.setIfInBounds_toArray, List.set_cons_zero, List.set_cons_succ]
  refine wpAnyH_take (i := 9) (oi := { dst := some 26, op := Op.move (Operand.tmp 2), type := 4, pos := "law.go:29", after := #[{ on := 4, ground := Ground.guard }], guard := some (4, false) }) (v := ?v8) rfl (by kernel_rfl) (by kernel_rfl) (by kernel_rfl) (fun _ _ _ h => h) (Or.inl ⟨by rfl, ?hy8⟩) (by assumption) ?rest8
  case hy8 => (intro w hSw; (try dsimp only at hSw); obtain ⟨⟨s0, s1⟩, ⟨t0, t1, t2, t3, t4⟩, t5, t6, t7, t8⟩ := hSw; go_simp; try with_reducible rfl)
  try simp only [Act.put, List.setIfInBounds_toArray, List.set_cons_zero, List.set_cons_succ]
  refine wpAnyH_ready (rs := [7]) (by kernel_rfl) (by simp) ?_
  refine AllReadyH.cons (o := { dst := some 24, op := Op.call { callee := Callee.value (Operand.func 6), args := #[Operand.tmp 22, Operand.tmp 23], argTypes := #[31, 4] }, type := 32, pos := "law.go:29", after := #[{ on := 5, ground := Ground.data }, { on := 6, ground := Ground.data }, { on := 4, ground := Ground.chain }, { on := 4, ground := Ground.guard }], guard := some (4, false) }) rfl (fun K hK => ?_) AllReadyH.nil
  refine step_call (by rfl) 6 Try.f6 #[.tmp 22, .tmp 23] #[31, 4] rfl Try.func6 (by kernel_rfl) (by kernel_rfl) #[.agg (agC a tc tw sf sh), .bool away] (by simp [Act.eval]) _ (HVA.out _ F4) ?_
  rintro e w5 ⟨rfl, hf5⟩
  have F5 : Fr nothing w2 w5 := F4.trans hf5
  refine ⟨_, rfl, hK _ _ (hS _ F5) (fun _ => ?_)⟩
  clear hK K hHeld
  try simp only [Act.put, List.setIfInBounds_toArray, List.set_cons_zero, List.set_cons_succ]
  have hHeld := hS _ F5
  refine wpAnyH_ready (rs := [10]) (by kernel_rfl) (by simp) ?_
  refine AllReadyH.cons (o := { dst := some 27, op := Op.call { callee := Callee.value (Operand.func 7), args := #[Operand.tmp 25, Operand.tmp 26], argTypes := #[31, 4] }, type := 32, pos := "law.go:29", after := #[{ on := 8, ground := Ground.data }, { on := 9, ground := Ground.data }, { on := 7, ground := Ground.chain }, { on := 4, ground := Ground.guard }], guard := some (4, false) }) rfl (fun K hK => ?_) AllReadyH.nil
  refine step_call (by rfl) 7 Try.f7 #[.tmp 25, .tmp 26] #[31, 4] rfl Try.func7 (by kernel_rfl) (by kernel_rfl) #[.agg (agC a tc tw sf sh), .bool away] (by simp [Act.eval]) _ (HRA.out _ F5) ?_
  rintro e w6 ⟨rfl, hf6⟩
  have F6 : Fr nothing w2 w6 := F5.trans hf6
  refine ⟨_, rfl, hK _ _ (hS _ F6) (fun _ => ?_)⟩
  clear hK K hHeld
  try simp only [Act.put, List.setIfInBounds_toArray, List.set_cons_zero, List.set_cons_succ]
  have hHeld := hS _ F6
  refine wpAnyH_take (i := 11) (oi := { dst := some 28, op := Op.binOp BinOp.neq 32 (Operand.tmp 24) (Operand.tmp 27) 32, type := 4, pos := "law.go:29", after := #[{ on := 7, ground := Ground.data }, { on := 10, ground := Ground.data }, { on := 4, ground := Ground.guard }], guard := some (4, false) }) (v := ?v9) rfl (by kernel_rfl) (by kernel_rfl) (by kernel_rfl) (fun _ _ _ h => h) (Or.inl ⟨by rfl, ?hy9⟩) (by assumption) ?rest9
  case hy9 => (intro w hSw; (try dsimp only at hSw); skip; go_simp; try with_reducible rfl)
  try simp only [Act.put, List.setIfInBounds_toArray, List.set_cons_zero, List.set_cons_succ]
  try simp only [d2]
  refine wpAnyH_take (i := 12) (oi := { dst := some 29, op := Op.pick (Operand.tmp 21) (Operand.const (Value.bool true)) (Operand.tmp 28), type := 4, pos := "law.go:29", after := #[{ on := 4, ground := Ground.data }, { on := 11, ground := Ground.data }], guard := none }) (v := ?v10) rfl (by kernel_rfl) (by kernel_rfl) (by kernel_rfl) (fun _ _ _ h => h) (Or.inl ⟨by rfl, ?hy10⟩) (by assumption) ?rest10
  case hy10 => (intro w hSw; (try dsimp only at hSw); skip; go_simp; try with_reducible rfl)
  try simp only [Act.put, List.setIfInBounds_toArray, List.set_cons_zero, List.set_cons_succ]
  try simp only [d2]
  refine wpAnyH_done (by kernel_rfl) ?_ _
  have HF6 := hide F6
  clear hHeld hS hf4 hf5 hf6 F4 F5 F6 HVP HVA HRA hpb
  obtain ⟨⟨p0, p1⟩, -, -, pl, -⟩ := HCC.out w6 HF6.out
  go_wp2_with fail
  clear p0 p1 pl
  by_cases hp0 : pe = 0
  case neg =>
    go_loopw [33, 9, 10, 11, 12, 13, 14] (fun i _ _ _ _ _ _ wv => ∃ (k : Nat), k ≤ p.cs.length ∧ i = .int .i64 k ∧ Hid (Fr nothing w2 wv)) (fun i _ _ _ _ _ _ _ => p.cs.length - (intOf i).toNat)
    case atStart => exact ⟨0, Nat.zero_le _, rfl, HF6.out⟩
    case round =>
      obtain ⟨k, hk, rfl, hRk⟩ := hrel
      by_cases hkl : k < p.cs.length
      · obtain ⟨rs, hrs, hea⟩ := HP2.out.cs
        have hx : p.cs[k]? = some p.cs[k] := List.getElem?_eq_getElem hkl
        have hxm : p.cs[k] ∈ p.cs := List.getElem_mem hkl
        have hra : rs[k]? = some (rs[k]'(by rw [hea.1]; exact hkl)) := List.getElem?_eq_getElem _
        generalize p.cs[k] = c at hx hxm
        generalize rs[k]'(by rw [hea.1]; exact hkl) = r at hra
        obtain ⟨r1, r2, r3⟩ := hea.2 k r c hra hx
        obtain ⟨n1, m1⟩ := sl_len r3
        obtain ⟨g, o, e1, dg, u0, u1, u2⟩ := sl_elemC (s := ⟨sca, p.cs.length, scc⟩) hrs hra
        obtain ⟨rnp, rnv, ⟨ia, ix, ic⟩⟩ := r
        simp only at r1 r2 n1 u0 u1 u2 e1
        subst r1 r2 n1 e1
        have dg' := Nat.lt_of_lt_of_le dg hRk.out.size
        rw [← hRk.out.cell (p := ⟨g, _, none⟩) dg id] at u0 u1 u2
        have HR3 := hide r3
        have HFN : Hid (Fr nothing w2 (wr.alloc (.cells #[.int .i64 c.np, .int .i64 c.nv, .slice ia c.ins.length ic] 37))) := hRk.out.alloc _
        clear hx hra hrs hea r3 hRk
        have hp0b : (pe != 0) = true := by simpa using hp0
        go_wp2_with fail
        go_roundw
        case rel => exact ⟨k + 1, by omega, by go_num, HFN.out⟩
        case measure => simp [intOf]; omega
      · have HFF := hide hRk.out
        go_wp2_with fail
        go_ret
        exact ⟨rfl, HF2.out.trans HFF.out⟩
  subst hp0
  go_loopw [33, 9, 10, 11, 12, 13, 14] (fun i _ _ _ _ _ _ wv => ∃ (k : Nat), k ≤ p.cs.length ∧ i = .int .i64 k ∧ Hid (Fr nothing w2 wv)) (fun i _ _ _ _ _ _ _ => p.cs.length - (intOf i).toNat)
  case atStart => exact ⟨0, Nat.zero_le _, rfl, HF6.out⟩
  case round =>
    obtain ⟨k, hk, rfl, hRk⟩ := hrel
    by_cases hkl : k < p.cs.length
    · obtain ⟨rs, hrs, hea⟩ := HP2.out.cs
      have hx : p.cs[k]? = some p.cs[k] := List.getElem?_eq_getElem hkl
      have hxm : p.cs[k] ∈ p.cs := List.getElem_mem hkl
      have hra : rs[k]? = some (rs[k]'(by rw [hea.1]; exact hkl)) := List.getElem?_eq_getElem _
      generalize p.cs[k] = c at hx hxm
      generalize rs[k]'(by rw [hea.1]; exact hkl) = r at hra
      obtain ⟨r1, r2, r3⟩ := hea.2 k r c hra hx
      obtain ⟨n1, m1⟩ := sl_len r3
      obtain ⟨g, o, e1, dg, u0, u1, u2⟩ := sl_elemC (s := ⟨sca, p.cs.length, scc⟩) hrs hra
      obtain ⟨rnp, rnv, ⟨ia, ix, ic⟩⟩ := r
      simp only at r1 r2 n1 u0 u1 u2 e1
      subst r1 r2 n1 e1
      have dg' := Nat.lt_of_lt_of_le dg hRk.out.size
      rw [← hRk.out.cell (p := ⟨g, _, none⟩) dg id] at u0 u1 u2
      have HR3 := hide r3
      have HFN : Hid (Fr nothing w2 (wr.alloc (.cells #[.int .i64 c.np, .int .i64 c.nv, .slice ia c.ins.length ic] 37))) := hRk.out.alloc _
      clear hx hra hrs hea r3 hRk
      obtain ⟨⟨a1, a2, a3, a4⟩, hh0, hb17, -⟩ := HMO.out rfl hxm
      have hlen := heights_len hh0
      have hwi := HPW.out.c c hxm
      have HVH : Hid (∀ w', Fr nothing w2 w' → Calls Try.prog 8 #[.agg #[.int .i64 c.np, .int .i64 c.nv, .slice ia c.ins.length ic]] w' (HtQ w' (heightsC c.ins))) := fun w' hf => vheights_any c.ins c.np c.nv ⟨ia, c.ins.length, ic⟩ w' (HR3.out.fr hf (fun _ _ => id)) (by omega) hb17
      have HRH : Hid (∀ w', Fr nothing w2 w' → Calls Try.prog 9 #[.agg #[.int .i64 c.np, .int .i64 c.nv, .slice ia c.ins.length ic]] w' (HtP w' (heightsC c.ins))) := fun w' hf => heights_any c.ins c.np c.nv ⟨ia, c.ins.length, ic⟩ w' (HR3.out.fr hf (fun _ _ => id)) (by omega) hb17 (fun i hi => (hwi.2.2 i hi).op)
      unfold HtQ at HVH
      unfold HtP at HRH
      have hmb := made_cells (Fr.refl nothing (wr.alloc (.cells #[.int .i64 c.np, .int .i64 c.nv, .slice ia c.ins.length ic] 37))) id
      have HMB := hide hmb
      obtain ⟨hs, he, hhs⟩ : ∃ hs he, heightsC c.ins = (hs, he) := ⟨_, _, rfl⟩
      rw [hhs] at HVH HRH hh0 hlen
      simp only at hh0 hlen
      subst hh0
      have hn0 : ((c.ins.length : Int) == 0) = false := beq_eq_false_iff_ne.2 (by omega)
      clear hb17 hwi hmb hhs hxm
      go_wp2_with (first
        | (go_at_call 9; refine (HRH.out w5 HF5.out).mono ?_; rintro e w6' ⟨sb, rfl, hf6, hs6⟩; obtain ⟨nb, -⟩ := sl_len hs6; obtain ⟨sba, sbn, sbc⟩ := sb; simp only at nb; subst nb; have HF7 := hide (HF5.out.trans hf6); have HS1 := hide (HSA.out.fr hf6 (fun _ _ => id)); have HS2 := hide hs6; rw [hlen]; clear hf6 hs6)
        | (go_at_call 8; refine (HVH.out _ HFN.out).mono ?_; rintro e w5 ⟨sa', rfl, hf5, hs5, -⟩; obtain ⟨na, -⟩ := sl_len hs5; obtain ⟨saa, san, sac⟩ := sa'; simp only at na; subst na; have HF5 := hide (HFN.out.trans hf5); have HSA := hide hs5; have n0 := (hf5.cell (p := ⟨wr.heap.size, 0, none⟩) HMB.out.2.2 id).trans (HMB.out.1 0); have n1 := (hf5.cell (p := ⟨wr.heap.size, 1, none⟩) HMB.out.2.2 id).trans (HMB.out.1 1); have n2 := (hf5.cell (p := ⟨wr.heap.size, 2, none⟩) HMB.out.2.2 id).trans (HMB.out.1 2); have nl := Nat.lt_of_lt_of_le HMB.out.2.2 hf5.size; rw [hlen]; clear hf5 hs5))
      clear n0 n1 n2 nl
      go_loopw [67, 14] (fun i _ wv => ∃ (j : Nat), j ≤ c.ins.length ∧ i = .int .i64 j ∧ Hid (Fr nothing w6' wv)) (fun i _ _ => c.ins.length - (intOf i).toNat)
      case atStart => exact ⟨0, Nat.zero_le _, rfl, Fr.refl _ _⟩
      case round =>
        obtain ⟨j, hj, rfl, hRj⟩ := hrel
        by_cases hjl : j < c.ins.length
        · have hx : hs[j]? = some (hs[j]'(by rw [hlen]; exact hjl)) := List.getElem?_eq_getElem _
          generalize hs[j]'(by rw [hlen]; exact hjl) = z at hx
          obtain ⟨ga, oa, ea, da, va⟩ := sl_elemZ HS1.out hx
          obtain ⟨gb, ob, eb, db, vb⟩ := sl_elemZ HS2.out hx
          simp only at ea eb
          subst ea eb
          rw [← hRj.out.cell (p := ⟨ga, _, none⟩) da id] at va
          rw [← hRj.out.cell (p := ⟨gb, _, none⟩) db id] at vb
          have HRJ := hide hRj.out
          have dz : (z != z) = false := by simp
          have HSv : Hid (∀ w', Fr nothing wr w' → w'.cell? ⟨ga, oa + j, none⟩ = some (.int .i64 z) ∧ w'.cell? ⟨gb, ob + j, none⟩ = some (.int .i64 z)) := fun w' hf => ⟨(hf.cell (p := ⟨ga, _, none⟩) (Nat.lt_of_lt_of_le da HRJ.out.size) id).trans va, (hf.cell (p := ⟨gb, _, none⟩) (Nat.lt_of_lt_of_le db HRJ.out.size) id).trans vb⟩
          clear hRj da db hx va vb
          go_wp2_with fail
          refine wp_region_held_drew (S := fun w' => w'.cell? ⟨ga, oa + j, none⟩ = some (.int .i64 z) ∧ w'.cell? ⟨gb, ob + j, none⟩ = some (.int .i64 z)) (by kernel_rfl) (HSv.out _ (by first | exact Fr.refl _ _ | exact (Fr.refl _ _).drew)) (fun hHeld => ?_)
          refine wpAnyH_take (i := 0) (oi := { dst := some 70, op := Op.move (Operand.tmp 10), type := 38, pos := "law.go:42", after := #[], guard := none }) (v := ?v11) rfl (by kernel_rfl) (by kernel_rfl) (by kernel_rfl) (fun _ _ _ h => h) (Or.inl ⟨by rfl, ?hy11⟩) (by assumption) ?rest11
          case hy11 => (intro w hSw; (try dsimp only at hSw); obtain ⟨s0, s1⟩ := hSw; go_simp; try with_reducible rfl)
          try simp only [Act.put, List.setIfInBounds_toArray, List.set_cons_zero, List.set_cons_succ]
          refine wpAnyH_take (i := 1) (oi := { dst := some 71, op := Op.move (Operand.tmp 14), type := 3, pos := "law.go:42", after := #[], guard := none }) (v := ?v12) rfl (by kernel_rfl) (by kernel_rfl) (by kernel_rfl) (fun _ _ _ h => h) (Or.inl ⟨by rfl, ?hy12⟩) (by assumption) ?rest12
          case hy12 => (intro w hSw; (try dsimp only at hSw); obtain ⟨s0, s1⟩ := hSw; go_simp; try with_reducible rfl)
          try simp only [Act.put, List.setIfInBounds_toArray, List.set_cons_zero, List.set_cons_succ]
          refine wpAnyH_take (i := 2) (oi := { dst := some 72, op := Op.indexAddr 38 (Operand.tmp 70) (Operand.tmp 71), type := 0, pos := "law.go:42", after := #[{ on := 0, ground := Ground.data }, { on := 1, ground := Ground.data }], guard := none }) (v := ?v13) rfl (by kernel_rfl) (by kernel_rfl) (by kernel_rfl) (fun _ _ _ h => h) (Or.inl ⟨by rfl, ?hy13⟩) (by assumption) ?rest13
          case hy13 => (intro w hSw; (try dsimp only at hSw); obtain ⟨s0, s1⟩ := hSw; go_simp; try with_reducible rfl)
          try simp only [Act.put, List.setIfInBounds_toArray, List.set_cons_zero, List.set_cons_succ]
          refine wpAnyH_take (i := 3) (oi := { dst := some 73, op := Op.load 3 (Operand.tmp 72), type := 3, pos := "law.go:42", after := #[{ on := 2, ground := Ground.data }], guard := none }) (v := ?v14) rfl (by kernel_rfl) (by kernel_rfl) (by kernel_rfl) (fun _ _ _ h => h) (Or.inl ⟨by rfl, ?hy14⟩) (by assumption) ?rest14
          case hy14 => (intro w hSw; (try dsimp only at hSw); obtain ⟨s0, s1⟩ := hSw; go_simp; try with_reducible rfl)
          try simp only [Act.put, List.setIfInBounds_toArray, List.set_cons_zero, List.set_cons_succ]
          refine wpAnyH_take (i := 4) (oi := { dst := some 74, op := Op.move (Operand.tmp 12), type := 38, pos := "law.go:42", after := #[], guard := none }) (v := ?v15) rfl (by kernel_rfl) (by kernel_rfl) (by kernel_rfl) (fun _ _ _ h => h) (Or.inl ⟨by rfl, ?hy15⟩) (by assumption) ?rest15
          case hy15 => (intro w hSw; (try dsimp only at hSw); obtain ⟨s0, s1⟩ := hSw; go_simp; try with_reducible rfl)
          try simp only [Act.put, List.setIfInBounds_toArray, List.set_cons_zero, List.set_cons_succ]
          refine wpAnyH_take (i := 5) (oi := { dst := some 75, op := Op.move (Operand.tmp 14), type := 3, pos := "law.go:42", after := #[], guard := none }) (v := ?v16) rfl (by kernel_rfl) (by kernel_rfl) (by kernel_rfl) (fun _ _ _ h => h) (Or.inl ⟨by rfl, ?hy16⟩) (by assumption) ?rest16
          case hy16 => (intro w hSw; (try dsimp only at hSw); obtain ⟨s0, s1⟩ := hSw; go_simp; try with_reducible rfl)
          try simp only [Act.put, List.setIfInBounds_toArray, List.set_cons_zero, List.set_cons_succ]
          refine wpAnyH_take (i := 6) (oi := { dst := some 76, op := Op.indexAddr 38 (Operand.tmp 74) (Operand.tmp 75), type := 0, pos := "law.go:42", after := #[{ on := 4, ground := Ground.data }, { on := 5, ground := Ground.data }], guard := none }) (v := ?v17) rfl (by kernel_rfl) (by kernel_rfl) (by kernel_rfl) (fun _ _ _ h => h) (Or.inl ⟨by rfl, ?hy17⟩) (by assumption) ?rest17
          case hy17 => (intro w hSw; (try dsimp only at hSw); obtain ⟨s0, s1⟩ := hSw; go_simp; try with_reducible rfl)
          try simp only [Act.put, List.setIfInBounds_toArray, List.set_cons_zero, List.set_cons_succ]
          refine wpAnyH_take (i := 7) (oi := { dst := some 77, op := Op.load 3 (Operand.tmp 76), type := 3, pos := "law.go:42", after := #[{ on := 6, ground := Ground.data }], guard := none }) (v := ?v18) rfl (by kernel_rfl) (by kernel_rfl) (by kernel_rfl) (fun _ _ _ h => h) (Or.inl ⟨by rfl, ?hy18⟩) (by assumption) ?rest18
          case hy18 => (intro w hSw; (try dsimp only at hSw); obtain ⟨s0, s1⟩ := hSw; go_simp; try with_reducible rfl)
          try simp only [Act.put, List.setIfInBounds_toArray, List.set_cons_zero, List.set_cons_succ]
          refine wpAnyH_take (i := 8) (oi := { dst := some 78, op := Op.binOp BinOp.neq 3 (Operand.tmp 73) (Operand.tmp 77) 3, type := 4, pos := "law.go:42", after := #[{ on := 3, ground := Ground.data }, { on := 7, ground := Ground.data }], guard := none }) (v := ?v19) rfl (by kernel_rfl) (by kernel_rfl) (by kernel_rfl) (fun _ _ _ h => h) (Or.inl ⟨by rfl, ?hy19⟩) (by assumption) ?rest19
          case hy19 => (intro w hSw; (try dsimp only at hSw); obtain ⟨s0, s1⟩ := hSw; go_simp; try with_reducible rfl)
          try simp only [Act.put, List.setIfInBounds_toArray, List.set_cons_zero, List.set_cons_succ]
          try simp only [dz]
          refine wpAnyH_done (by kernel_rfl) ?_ _
          clear hHeld
          go_wp2_with fail
          go_roundw
          case rel => exact ⟨j + 1, by omega, by go_num, by first | exact HRJ.out | exact HRJ.out.drew⟩
          case measure => simp [intOf]; omega
        · have HFF := hide (HF7.out.trans hRj.out)
          go_wp2_with fail
          go_roundw
          case rel => exact ⟨k + 1, by omega, by go_num, HFF.out⟩
          case measure => simp [intOf]; omega
    · have HFF := hide hRk.out
      go_wp2_with fail
      go_ret
      exact ⟨rfl, HF2.out.trans HFF.out⟩
end Go.Proofs.Ytgocmpooppejdaa
