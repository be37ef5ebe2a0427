/- Package verify: bounds, effect, one instruction. -/
import Derived.Test.YtgocmpooppejdaaFLow
import Derived.Test.YtgocmpooppejdaaFWord
set_option maxHeartbeats 0
set_option maxRecDepth 100000
namespace Go.Proofs.Ytgocmpooppejdaa
open Go Go.RowKit
theorem bounds_any (p : Pz) (c : Cz) (sc sw xs : Slc) (op : Int) (w : World) (h1 : sc.n = p.cs.length) (h2 : sw.n = p.ws.length) (h3 : xs.n = c.ins.length) (hv : 0 ≤ c.nv ∧ c.nv ≤ 9223372036854775807) (hb : p.cs.length ≤ 9223372036854775807 ∧ p.ws.length ≤ 9223372036854775807 ∧ c.ins.length ≤ 9223372036854775807) :
    Calls Try.prog 29 #[.agg #[.slice sc.a sc.n sc.c, .slice sw.a sw.n sw.c], .agg #[.int .i64 c.np, .int .i64 c.nv, .slice xs.a xs.n xs.c], .int .i64 op] w fun e w' => e = .returned (.tuple #[.int .i64 (loC op), .int .i64 (hiC p c op)]) ∧ Fr nothing w w' := by
  obtain ⟨sca, scn, scc⟩ := sc
  obtain ⟨swa, swn, swc⟩ := sw
  obtain ⟨xsa, xsn, xsc⟩ := xs
  simp only at h1 h2 h3
  subst h1 h2 h3
  have hN1 : IntKind.i64.wrap ((p.ws.length : Int) - 1) = (p.ws.length : Int) - 1 := wrap_in _ (by omega) (by omega)
  have hN2 : IntKind.i64.wrap (c.nv - 1) = c.nv - 1 := wrap_in _ (by omega) (by omega)
  have hN3 : IntKind.i64.wrap ((c.ins.length : Int) - 1) = (c.ins.length : Int) - 1 := wrap_in _ (by omega) (by omega)
  have hN4 : IntKind.i64.wrap ((p.cs.length : Int) - 1) = (p.cs.length : Int) - 1 := wrap_in _ (by omega) (by omega)
  have HF : Hid (Fr nothing w ((w.alloc (.cells #[.slice sca p.cs.length scc, .slice swa p.ws.length swc] 25)).alloc (.cells #[.int .i64 c.np, .int .i64 c.nv, .slice xsa c.ins.length xsc] 37))) := ((Fr.refl _ _).alloc _).alloc _
  have hm1 := made_cells (S := nothing) ((Fr.refl nothing (w.alloc (.cells #[.slice sca p.cs.length scc, .slice swa p.ws.length swc] 25))).alloc (.cells #[.int .i64 c.np, .int .i64 c.nv, .slice xsa c.ins.length xsc] 37)) id
  have hm2 := made_cells (Fr.refl nothing ((w.alloc (.cells #[.slice sca p.cs.length scc, .slice swa p.ws.length swc] 25)).alloc (.cells #[.int .i64 c.np, .int .i64 c.nv, .slice xsa c.ins.length xsc] 37))) id
  have hsz : (w.alloc (.cells #[.slice sca p.cs.length scc, .slice swa p.ws.length swc] 25)).heap.size = w.heap.size + 1 := by simp
  rw [hsz] at hm2
  have HM1 := hide hm1
  have HM2 := hide hm2
  clear hv hb hm1 hm2 hsz
  by_cases k1 : op = 1
  · have hlo : loC op = (-1073741824) := by rw [k1]; rfl
    have hhi : hiC p c op = 1073741824 := by rw [k1]; rfl
    rw [hlo, hhi]
    subst k1
    clear hlo hhi
    go_enter Try.func29, Try.ntmps29
    go_wp2
    exact bodyPost_ret (v := .tuple #[.int .i64 (-1073741824), .int .i64 (1073741824)]) (by simp [results, Try.results29, go_sem]) rfl ⟨rfl, HF.out⟩
  have k1b : (op == 1) = false := by simpa using k1
  by_cases k2 : op = 2
  · have hlo : loC op = 0 := by rw [k2]; rfl
    have hhi : hiC p c op = (p.ws.length : Int) - 1 := by rw [k2]; rfl
    rw [hlo, hhi]
    subst k2
    clear hlo hhi
    go_enter Try.func29, Try.ntmps29
    go_wp2
    have hc0 := HM1.out.1 1
    refine wp_region_held_drew (S := fun w' => w'.cell? ⟨w.heap.size, 1, none⟩ = some (.slice swa p.ws.length swc)) (by kernel_rfl) hc0 (fun hHeld => ?_)
    refine wpAnyH_take (i := 0) (oi := { dst := some 13, op := Op.fieldAddr 25 (Operand.tmp 3) 1, type := 0, pos := "program.go:78", after := #[], guard := none }) (v := ?v1) rfl (by kernel_rfl) (by kernel_rfl) (by kernel_rfl) (fun _ _ _ h => h) (Or.inl ⟨by rfl, ?hy1⟩) (by assumption) ?rest1
    case hy1 => (intro w hSw; (try dsimp only at hSw); have hS1 := hSw; go_simp; try with_reducible rfl)
    try simp only [Act.put, List.setIfInBounds_toArray, List.set_cons_zero, List.set_cons_succ]
    refine wpAnyH_take (i := 1) (oi := { dst := some 14, op := Op.load 23 (Operand.tmp 13), type := 23, pos := "program.go:78", after := #[{ on := 0, ground := Ground.data }], guard := none }) (v := ?v2) rfl (by kernel_rfl) (by kernel_rfl) (by kernel_rfl) (fun _ _ _ h => h) (Or.inl ⟨by rfl, ?hy2⟩) (by assumption) ?rest2
    case hy2 => (intro w hSw; (try dsimp only at hSw); have hS1 := hSw; go_simp; try with_reducible rfl)
    try simp only [Act.put, List.setIfInBounds_toArray, List.set_cons_zero, List.set_cons_succ]
    refine wpAnyH_take (i := 2) (oi := { dst := some 15, op := Op.call { callee := Callee.builtin Builtin.len, args := #[Operand.tmp 14], argTypes := #[23] }, type := 3, pos := "program.go:78", after := #[{ on := 1, ground := Ground.data }], guard := none }) (v := ?v3) rfl (by kernel_rfl) (by kernel_rfl) (by kernel_rfl) (fun _ _ _ h => h) (Or.inl ⟨by rfl, ?hy3⟩) (by assumption) ?rest3
    case hy3 => (intro w hSw; (try dsimp only at hSw); have hS1 := hSw; go_simp; try with_reducible rfl)
    try simp only [Act.put, List.setIfInBounds_toArray, List.set_cons_zero, List.set_cons_succ]
    refine wpAnyH_take (i := 3) (oi := { dst := some 16, op := Op.binOp BinOp.sub 3 (Operand.tmp 15) (Operand.const (Value.int IntKind.i64 1)) 3, type := 3, pos := "program.go:78", after := #[{ on := 2, ground := Ground.data }, { on := 4, ground := Ground.gcOnly Departure.lateStores }], guard := none }) (v := ?v4) rfl (by kernel_rfl) (by kernel_rfl) (by kernel_rfl) (fun _ _ _ h => h) (Or.inl ⟨by rfl, ?hy4⟩) (by assumption) ?rest4
    case hy4 => (intro w hSw; (try dsimp only at hSw); have hS1 := hSw; go_simp; try with_reducible rfl)
    try simp only [Act.put, List.setIfInBounds_toArray, List.set_cons_zero, List.set_cons_succ]
    refine wpAnyH_take (i := 4) (oi := { dst := some 6, op := Op.assign (Operand.const (Value.int IntKind.i64 0)), type := 3, pos := "program.go:78", after := #[{ on := 0, ground := Ground.textOnly Departure.lateStores }, { on := 1, ground := Ground.textOnly Departure.lateStores }, { on := 2, ground := Ground.textOnly Departure.lateStoresUnsure }, { on := 3, ground := Ground.textOnly Departure.lateStores }], guard := none }) (v := ?v5) rfl (by kernel_rfl) (by kernel_rfl) (by kernel_rfl) (fun _ _ _ h => h) (Or.inl ⟨by rfl, ?hy5⟩) (by assumption) ?rest5
    case hy5 => (intro w hSw; (try dsimp only at hSw); have hS1 := hSw; go_simp; try with_reducible rfl)
    try simp only [Act.put, List.setIfInBounds_toArray, List.set_cons_zero, List.set_cons_succ]
    refine wpAnyH_take (i := 5) (oi := { dst := some 7, op := Op.assign (Operand.tmp 16), type := 3, pos := "program.go:78", after := #[{ on := 3, ground := Ground.data }, { on := 4, ground := Ground.chain }, { on := 0, ground := Ground.phase }, { on := 1, ground := Ground.phase }, { on := 2, ground := Ground.phase }, { on := 3, ground := Ground.phase }, { on := 4, ground := Ground.phase }], guard := none }) (v := ?v6) rfl (by kernel_rfl) (by kernel_rfl) (by kernel_rfl) (fun _ _ _ h => h) (Or.inl ⟨by rfl, ?hy6⟩) (by assumption) ?rest6
    case hy6 => (intro w hSw; (try dsimp only at hSw); have hS1 := hSw; go_simp; try with_reducible rfl)
    try simp only [Act.put, List.setIfInBounds_toArray, List.set_cons_zero, List.set_cons_succ]
    refine wpAnyH_done (by kernel_rfl) ?_ _
    clear hHeld
    go_wp2_with fail
    exact bodyPost_ret (v := .tuple #[.int .i64 0, .int .i64 ((p.ws.length : Int) - 1)]) (by simp [results, Try.results29, go_sem]) rfl ⟨rfl, HF.out.drew⟩
  have k2b : (op == 2) = false := by simpa using k2
  by_cases k3 : op = 3
  · have hlo : loC op = 0 := by rw [k3]; rfl
    have hhi : hiC p c op = c.nv - 1 := by rw [k3]; rfl
    rw [hlo, hhi]
    subst k3
    clear hlo hhi
    go_enter Try.func29, Try.ntmps29
    go_wp2
    have hc0 := HM2.out.1 1
    refine wp_region_held_drew (S := fun w' => w'.cell? ⟨w.heap.size + 1, 1, none⟩ = some (.int .i64 c.nv)) (by kernel_rfl) hc0 (fun hHeld => ?_)
    refine wpAnyH_take (i := 0) (oi := { dst := some 20, op := Op.fieldAddr 37 (Operand.tmp 4) 1, type := 0, pos := "program.go:80", after := #[{ on := 3, ground := Ground.gcOnly Departure.lateStores }], guard := none }) (v := ?v7) rfl (by kernel_rfl) (by kernel_rfl) (by kernel_rfl) (fun _ _ _ h => h) (Or.inl ⟨by rfl, ?hy7⟩) (by assumption) ?rest7
    case hy7 => (intro w hSw; (try dsimp only at hSw); have hS1 := hSw; go_simp; try with_reducible rfl)
    try simp only [Act.put, List.setIfInBounds_toArray, List.set_cons_zero, List.set_cons_succ]
    refine wpAnyH_take (i := 1) (oi := { dst := some 21, op := Op.load 3 (Operand.tmp 20), type := 3, pos := "program.go:80", after := #[{ on := 0, ground := Ground.data }, { on := 3, ground := Ground.gcOnly Departure.lateStores }], guard := none }) (v := ?v8) rfl (by kernel_rfl) (by kernel_rfl) (by kernel_rfl) (fun _ _ _ h => h) (Or.inl ⟨by rfl, ?hy8⟩) (by assumption) ?rest8
    case hy8 => (intro w hSw; (try dsimp only at hSw); have hS1 := hSw; go_simp; try with_reducible rfl)
    try simp only [Act.put, List.setIfInBounds_toArray, List.set_cons_zero, List.set_cons_succ]
    refine wpAnyH_take (i := 2) (oi := { dst := some 22, op := Op.binOp BinOp.sub 3 (Operand.tmp 21) (Operand.const (Value.int IntKind.i64 1)) 3, type := 3, pos := "program.go:80", after := #[{ on := 1, ground := Ground.data }, { on := 3, ground := Ground.gcOnly Departure.lateStores }], guard := none }) (v := ?v9) rfl (by kernel_rfl) (by kernel_rfl) (by kernel_rfl) (fun _ _ _ h => h) (Or.inl ⟨by rfl, ?hy9⟩) (by assumption) ?rest9
    case hy9 => (intro w hSw; (try dsimp only at hSw); have hS1 := hSw; go_simp; try with_reducible rfl)
    try simp only [Act.put, List.setIfInBounds_toArray, List.set_cons_zero, List.set_cons_succ]
    refine wpAnyH_take (i := 3) (oi := { dst := some 6, op := Op.assign (Operand.const (Value.int IntKind.i64 0)), type := 3, pos := "program.go:80", after := #[{ on := 0, ground := Ground.textOnly Departure.lateStores }, { on := 1, ground := Ground.textOnly Departure.lateStores }, { on := 2, ground := Ground.textOnly Departure.lateStores }], guard := none }) (v := ?v10) rfl (by kernel_rfl) (by kernel_rfl) (by kernel_rfl) (fun _ _ _ h => h) (Or.inl ⟨by rfl, ?hy10⟩) (by assumption) ?rest10
    case hy10 => (intro w hSw; (try dsimp only at hSw); have hS1 := hSw; go_simp; try with_reducible rfl)
    try simp only [Act.put, List.setIfInBounds_toArray, List.set_cons_zero, List.set_cons_succ]
    refine wpAnyH_take (i := 4) (oi := { dst := some 7, op := Op.assign (Operand.tmp 22), type := 3, pos := "program.go:80", after := #[{ on := 2, ground := Ground.data }, { on := 3, ground := Ground.chain }, { on := 0, ground := Ground.phase }, { on := 1, ground := Ground.phase }, { on := 2, ground := Ground.phase }, { on := 3, ground := Ground.phase }], guard := none }) (v := ?v11) rfl (by kernel_rfl) (by kernel_rfl) (by kernel_rfl) (fun _ _ _ h => h) (Or.inl ⟨by rfl, ?hy11⟩) (by assumption) ?rest11
    case hy11 => (intro w hSw; (try dsimp only at hSw); have hS1 := hSw; go_simp; try with_reducible rfl)
    try simp only [Act.put, List.setIfInBounds_toArray, List.set_cons_zero, List.set_cons_succ]
    refine wpAnyH_done (by kernel_rfl) ?_ _
    clear hHeld
    go_wp2_with fail
    exact bodyPost_ret (v := .tuple #[.int .i64 0, .int .i64 (c.nv - 1)]) (by simp [results, Try.results29, go_sem]) rfl ⟨rfl, HF.out.drew⟩
  have k3b : (op == 3) = false := by simpa using k3
  by_cases k4 : op = 4
  · have hlo : loC op = 0 := by rw [k4]; rfl
    have hhi : hiC p c op = c.nv - 1 := by rw [k4]; rfl
    rw [hlo, hhi]
    subst k4
    clear hlo hhi
    go_enter Try.func29, Try.ntmps29
    go_wp2
    have hc0 := HM2.out.1 1
    refine wp_region_held_drew (S := fun w' => w'.cell? ⟨w.heap.size + 1, 1, none⟩ = some (.int .i64 c.nv)) (by kernel_rfl) hc0 (fun hHeld => ?_)
    refine wpAnyH_take (i := 0) (oi := { dst := some 20, op := Op.fieldAddr 37 (Operand.tmp 4) 1, type := 0, pos := "program.go:80", after := #[{ on := 3, ground := Ground.gcOnly Departure.lateStores }], guard := none }) (v := ?v12) rfl (by kernel_rfl) (by kernel_rfl) (by kernel_rfl) (fun _ _ _ h => h) (Or.inl ⟨by rfl, ?hy12⟩) (by assumption) ?rest12
    case hy12 => (intro w hSw; (try dsimp only at hSw); have hS1 := hSw; go_simp; try with_reducible rfl)
    try simp only [Act.put, List.setIfInBounds_toArray, List.set_cons_zero, List.set_cons_succ]
    refine wpAnyH_take (i := 1) (oi := { dst := some 21, op := Op.load 3 (Operand.tmp 20), type := 3, pos := "program.go:80", after := #[{ on := 0, ground := Ground.data }, { on := 3, ground := Ground.gcOnly Departure.lateStores }], guard := none }) (v := ?v13) rfl (by kernel_rfl) (by kernel_rfl) (by kernel_rfl) (fun _ _ _ h => h) (Or.inl ⟨by rfl, ?hy13⟩) (by assumption) ?rest13
    case hy13 => (intro w hSw; (try dsimp only at hSw); have hS1 := hSw; go_simp; try with_reducible rfl)
    try simp only [Act.put, List.setIfInBounds_toArray, List.set_cons_zero, List.set_cons_succ]
    refine wpAnyH_take (i := 2) (oi := { dst := some 22, op := Op.binOp BinOp.sub 3 (Operand.tmp 21) (Operand.const (Value.int IntKind.i64 1)) 3, type := 3, pos := "program.go:80", after := #[{ on := 1, ground := Ground.data }, { on := 3, ground := Ground.gcOnly Departure.lateStores }], guard := none }) (v := ?v14) rfl (by kernel_rfl) (by kernel_rfl) (by kernel_rfl) (fun _ _ _ h => h) (Or.inl ⟨by rfl, ?hy14⟩) (by assumption) ?rest14
    case hy14 => (intro w hSw; (try dsimp only at hSw); have hS1 := hSw; go_simp; try with_reducible rfl)
    try simp only [Act.put, List.setIfInBounds_toArray, List.set_cons_zero, List.set_cons_succ]
    refine wpAnyH_take (i := 3) (oi := { dst := some 6, op := Op.assign (Operand.const (Value.int IntKind.i64 0)), type := 3, pos := "program.go:80", after := #[{ on := 0, ground := Ground.textOnly Departure.lateStores }, { on := 1, ground := Ground.textOnly Departure.lateStores }, { on := 2, ground := Ground.textOnly Departure.lateStores }], guard := none }) (v := ?v15) rfl (by kernel_rfl) (by kernel_rfl) (by kernel_rfl) (fun _ _ _ h => h) (Or.inl ⟨by rfl, ?hy15⟩) (by assumption) ?rest15
    case hy15 => (intro w hSw; (try dsimp only at hSw); have hS1 := hSw; go_simp; try with_reducible rfl)
    try simp only [Act.put, List.setIfInBounds_toArray, List.set_cons_zero, List.set_cons_succ]
    refine wpAnyH_take (i := 4) (oi := { dst := some 7, op := Op.assign (Operand.tmp 22), type := 3, pos := "program.go:80", after := #[{ on := 2, ground := Ground.data }, { on := 3, ground := Ground.chain }, { on := 0, ground := Ground.phase }, { on := 1, ground := Ground.phase }, { on := 2, ground := Ground.phase }, { on := 3, ground := Ground.phase }], guard := none }) (v := ?v16) rfl (by kernel_rfl) (by kernel_rfl) (by kernel_rfl) (fun _ _ _ h => h) (Or.inl ⟨by rfl, ?hy16⟩) (by assumption) ?rest16
    case hy16 => (intro w hSw; (try dsimp only at hSw); have hS1 := hSw; go_simp; try with_reducible rfl)
    try simp only [Act.put, List.setIfInBounds_toArray, List.set_cons_zero, List.set_cons_succ]
    refine wpAnyH_done (by kernel_rfl) ?_ _
    clear hHeld
    go_wp2_with fail
    exact bodyPost_ret (v := .tuple #[.int .i64 0, .int .i64 (c.nv - 1)]) (by simp [results, Try.results29, go_sem]) rfl ⟨rfl, HF.out.drew⟩
  have k4b : (op == 4) = false := by simpa using k4
  by_cases k5 : op = 5
  · have hlo : loC op = 1 := by rw [k5]; rfl
    have hhi : hiC p c op = 5 := by rw [k5]; rfl
    rw [hlo, hhi]
    subst k5
    clear hlo hhi
    go_enter Try.func29, Try.ntmps29
    go_wp2
    exact bodyPost_ret (v := .tuple #[.int .i64 1, .int .i64 (5)]) (by simp [results, Try.results29, go_sem]) rfl ⟨rfl, HF.out⟩
  have k5b : (op == 5) = false := by simpa using k5
  by_cases k15 : op = 15
  · have hlo : loC op = 0 := by rw [k15]; rfl
    have hhi : hiC p c op = (c.ins.length : Int) - 1 := by rw [k15]; rfl
    rw [hlo, hhi]
    subst k15
    clear hlo hhi
    go_enter Try.func29, Try.ntmps29
    go_wp2
    have hc0 := HM2.out.1 2
    refine wp_region_held_drew (S := fun w' => w'.cell? ⟨w.heap.size + 1, 2, none⟩ = some (.slice xsa c.ins.length xsc)) (by kernel_rfl) hc0 (fun hHeld => ?_)
    refine wpAnyH_take (i := 0) (oi := { dst := some 28, op := Op.fieldAddr 37 (Operand.tmp 4) 2, type := 0, pos := "program.go:84", after := #[], guard := none }) (v := ?v17) rfl (by kernel_rfl) (by kernel_rfl) (by kernel_rfl) (fun _ _ _ h => h) (Or.inl ⟨by rfl, ?hy17⟩) (by assumption) ?rest17
    case hy17 => (intro w hSw; (try dsimp only at hSw); have hS1 := hSw; go_simp; try with_reducible rfl)
    try simp only [Act.put, List.setIfInBounds_toArray, List.set_cons_zero, List.set_cons_succ]
    refine wpAnyH_take (i := 1) (oi := { dst := some 29, op := Op.load 35 (Operand.tmp 28), type := 35, pos := "program.go:84", after := #[{ on := 0, ground := Ground.data }], guard := none }) (v := ?v18) rfl (by kernel_rfl) (by kernel_rfl) (by kernel_rfl) (fun _ _ _ h => h) (Or.inl ⟨by rfl, ?hy18⟩) (by assumption) ?rest18
    case hy18 => (intro w hSw; (try dsimp only at hSw); have hS1 := hSw; go_simp; try with_reducible rfl)
    try simp only [Act.put, List.setIfInBounds_toArray, List.set_cons_zero, List.set_cons_succ]
    refine wpAnyH_take (i := 2) (oi := { dst := some 30, op := Op.call { callee := Callee.builtin Builtin.len, args := #[Operand.tmp 29], argTypes := #[35] }, type := 3, pos := "program.go:84", after := #[{ on := 1, ground := Ground.data }], guard := none }) (v := ?v19) rfl (by kernel_rfl) (by kernel_rfl) (by kernel_rfl) (fun _ _ _ h => h) (Or.inl ⟨by rfl, ?hy19⟩) (by assumption) ?rest19
    case hy19 => (intro w hSw; (try dsimp only at hSw); have hS1 := hSw; go_simp; try with_reducible rfl)
    try simp only [Act.put, List.setIfInBounds_toArray, List.set_cons_zero, List.set_cons_succ]
    refine wpAnyH_take (i := 3) (oi := { dst := some 31, op := Op.binOp BinOp.sub 3 (Operand.tmp 30) (Operand.const (Value.int IntKind.i64 1)) 3, type := 3, pos := "program.go:84", after := #[{ on := 2, ground := Ground.data }, { on := 4, ground := Ground.gcOnly Departure.lateStores }], guard := none }) (v := ?v20) rfl (by kernel_rfl) (by kernel_rfl) (by kernel_rfl) (fun _ _ _ h => h) (Or.inl ⟨by rfl, ?hy20⟩) (by assumption) ?rest20
    case hy20 => (intro w hSw; (try dsimp only at hSw); have hS1 := hSw; go_simp; try with_reducible rfl)
    try simp only [Act.put, List.setIfInBounds_toArray, List.set_cons_zero, List.set_cons_succ]
    refine wpAnyH_take (i := 4) (oi := { dst := some 6, op := Op.assign (Operand.const (Value.int IntKind.i64 0)), type := 3, pos := "program.go:84", after := #[{ on := 0, ground := Ground.textOnly Departure.lateStores }, { on := 1, ground := Ground.textOnly Departure.lateStores }, { on := 2, ground := Ground.textOnly Departure.lateStoresUnsure }, { on := 3, ground := Ground.textOnly Departure.lateStores }], guard := none }) (v := ?v21) rfl (by kernel_rfl) (by kernel_rfl) (by kernel_rfl) (fun _ _ _ h => h) (Or.inl ⟨by rfl, ?hy21⟩) (by assumption) ?rest21
    case hy21 => (intro w hSw; (try dsimp only at hSw); have hS1 := hSw; go_simp; try with_reducible rfl)
    try simp only [Act.put, List.setIfInBounds_toArray, List.set_cons_zero, List.set_cons_succ]
    refine wpAnyH_take (i := 5) (oi := { dst := some 7, op := Op.assign (Operand.tmp 31), type := 3, pos := "program.go:84", after := #[{ on := 3, ground := Ground.data }, { on := 4, ground := Ground.chain }, { on := 0, ground := Ground.phase }, { on := 1, ground := Ground.phase }, { on := 2, ground := Ground.phase }, { on := 3, ground := Ground.phase }, { on := 4, ground := Ground.phase }], guard := none }) (v := ?v22) rfl (by kernel_rfl) (by kernel_rfl) (by kernel_rfl) (fun _ _ _ h => h) (Or.inl ⟨by rfl, ?hy22⟩) (by assumption) ?rest22
    case hy22 => (intro w hSw; (try dsimp only at hSw); have hS1 := hSw; go_simp; try with_reducible rfl)
    try simp only [Act.put, List.setIfInBounds_toArray, List.set_cons_zero, List.set_cons_succ]
    refine wpAnyH_done (by kernel_rfl) ?_ _
    clear hHeld
    go_wp2_with fail
    exact bodyPost_ret (v := .tuple #[.int .i64 0, .int .i64 ((c.ins.length : Int) - 1)]) (by simp [results, Try.results29, go_sem]) rfl ⟨rfl, HF.out.drew⟩
  have k15b : (op == 15) = false := by simpa using k15
  by_cases k16 : op = 16
  · have hlo : loC op = 0 := by rw [k16]; rfl
    have hhi : hiC p c op = (c.ins.length : Int) - 1 := by rw [k16]; rfl
    rw [hlo, hhi]
    subst k16
    clear hlo hhi
    go_enter Try.func29, Try.ntmps29
    go_wp2
    have hc0 := HM2.out.1 2
    refine wp_region_held_drew (S := fun w' => w'.cell? ⟨w.heap.size + 1, 2, none⟩ = some (.slice xsa c.ins.length xsc)) (by kernel_rfl) hc0 (fun hHeld => ?_)
    refine wpAnyH_take (i := 0) (oi := { dst := some 28, op := Op.fieldAddr 37 (Operand.tmp 4) 2, type := 0, pos := "program.go:84", after := #[], guard := none }) (v := ?v23) rfl (by kernel_rfl) (by kernel_rfl) (by kernel_rfl) (fun _ _ _ h => h) (Or.inl ⟨by rfl, ?hy23⟩) (by assumption) ?rest23
    case hy23 => (intro w hSw; (try dsimp only at hSw); have hS1 := hSw; go_simp; try with_reducible rfl)
    try simp only [Act.put, List.setIfInBounds_toArray, List.set_cons_zero, List.set_cons_succ]
    refine wpAnyH_take (i := 1) (oi := { dst := some 29, op := Op.load 35 (Operand.tmp 28), type := 35, pos := "program.go:84", after := #[{ on := 0, ground := Ground.data }], guard := none }) (v := ?v24) rfl (by kernel_rfl) (by kernel_rfl) (by kernel_rfl) (fun _ _ _ h => h) (Or.inl ⟨by rfl, ?hy24⟩) (by assumption) ?rest24
    case hy24 => (intro w hSw; (try dsimp only at hSw); have hS1 := hSw; go_simp; try with_reducible rfl)
    try simp only [Act.put, List.setIfInBounds_toArray, List.set_cons_zero, List.set_cons_succ]
    refine wpAnyH_take (i := 2) (oi := { dst := some 30, op := Op.call { callee := Callee.builtin Builtin.len, args := #[Operand.tmp 29], argTypes := #[35] }, type := 3, pos := "program.go:84", after := #[{ on := 1, ground := Ground.data }], guard := none }) (v := ?v25) rfl (by kernel_rfl) (by kernel_rfl) (by kernel_rfl) (fun _ _ _ h => h) (Or.inl ⟨by rfl, ?hy25⟩) (by assumption) ?rest25
    case hy25 => (intro w hSw; (try dsimp only at hSw); have hS1 := hSw; go_simp; try with_reducible rfl)
    try simp only [Act.put, List.setIfInBounds_toArray, List.set_cons_zero, List.set_cons_succ]
    refine wpAnyH_take (i := 3) (oi := { dst := some 31, op := Op.binOp BinOp.sub 3 (Operand.tmp 30) (Operand.const (Value.int IntKind.i64 1)) 3, type := 3, pos := "program.go:84", after := #[{ on := 2, ground := Ground.data }, { on := 4, ground := Ground.gcOnly Departure.lateStores }], guard := none }) (v := ?v26) rfl (by kernel_rfl) (by kernel_rfl) (by kernel_rfl) (fun _ _ _ h => h) (Or.inl ⟨by rfl, ?hy26⟩) (by assumption) ?rest26
    case hy26 => (intro w hSw; (try dsimp only at hSw); have hS1 := hSw; go_simp; try with_reducible rfl)
    try simp only [Act.put, List.setIfInBounds_toArray, List.set_cons_zero, List.set_cons_succ]
    refine wpAnyH_take (i := 4) (oi := { dst := some 6, op := Op.assign (Operand.const (Value.int IntKind.i64 0)), type := 3, pos := "program.go:84", after := #[{ on := 0, ground := Ground.textOnly Departure.lateStores }, { on := 1, ground := Ground.textOnly Departure.lateStores }, { on := 2, ground := Ground.textOnly Departure.lateStoresUnsure }, { on := 3, ground := Ground.textOnly Departure.lateStores }], guard := none }) (v := ?v27) rfl (by kernel_rfl) (by kernel_rfl) (by kernel_rfl) (fun _ _ _ h => h) (Or.inl ⟨by rfl, ?hy27⟩) (by assumption) ?rest27
    case hy27 => (intro w hSw; (try dsimp only at hSw); have hS1 := hSw; go_simp; try with_reducible rfl)
    try simp only [Act.put, List.setIfInBounds_toArray, List.set_cons_zero, List.set_cons_succ]
    refine wpAnyH_take (i := 5) (oi := { dst := some 7, op := Op.assign (Operand.tmp 31), type := 3, pos := "program.go:84", after := #[{ on := 3, ground := Ground.data }, { on := 4, ground := Ground.chain }, { on := 0, ground := Ground.phase }, { on := 1, ground := Ground.phase }, { on := 2, ground := Ground.phase }, { on := 3, ground := Ground.phase }, { on := 4, ground := Ground.phase }], guard := none }) (v := ?v28) rfl (by kernel_rfl) (by kernel_rfl) (by kernel_rfl) (fun _ _ _ h => h) (Or.inl ⟨by rfl, ?hy28⟩) (by assumption) ?rest28
    case hy28 => (intro w hSw; (try dsimp only at hSw); have hS1 := hSw; go_simp; try with_reducible rfl)
    try simp only [Act.put, List.setIfInBounds_toArray, List.set_cons_zero, List.set_cons_succ]
    refine wpAnyH_done (by kernel_rfl) ?_ _
    clear hHeld
    go_wp2_with fail
    exact bodyPost_ret (v := .tuple #[.int .i64 0, .int .i64 ((c.ins.length : Int) - 1)]) (by simp [results, Try.results29, go_sem]) rfl ⟨rfl, HF.out.drew⟩
  have k16b : (op == 16) = false := by simpa using k16
  by_cases k17 : op = 17
  · have hlo : loC op = 0 := by rw [k17]; rfl
    have hhi : hiC p c op = (p.cs.length : Int) - 1 := by rw [k17]; rfl
    rw [hlo, hhi]
    subst k17
    clear hlo hhi
    go_enter Try.func29, Try.ntmps29
    go_wp2
    have hc0 := HM1.out.1 0
    refine wp_region_held_drew (S := fun w' => w'.cell? ⟨w.heap.size, 0, none⟩ = some (.slice sca p.cs.length scc)) (by kernel_rfl) hc0 (fun hHeld => ?_)
    refine wpAnyH_take (i := 0) (oi := { dst := some 34, op := Op.fieldAddr 25 (Operand.tmp 3) 0, type := 0, pos := "program.go:86", after := #[], guard := none }) (v := ?v29) rfl (by kernel_rfl) (by kernel_rfl) (by kernel_rfl) (fun _ _ _ h => h) (Or.inl ⟨by rfl, ?hy29⟩) (by assumption) ?rest29
    case hy29 => (intro w hSw; (try dsimp only at hSw); have hS1 := hSw; go_simp; try with_reducible rfl)
    try simp only [Act.put, List.setIfInBounds_toArray, List.set_cons_zero, List.set_cons_succ]
    refine wpAnyH_take (i := 1) (oi := { dst := some 35, op := Op.load 22 (Operand.tmp 34), type := 22, pos := "program.go:86", after := #[{ on := 0, ground := Ground.data }], guard := none }) (v := ?v30) rfl (by kernel_rfl) (by kernel_rfl) (by kernel_rfl) (fun _ _ _ h => h) (Or.inl ⟨by rfl, ?hy30⟩) (by assumption) ?rest30
    case hy30 => (intro w hSw; (try dsimp only at hSw); have hS1 := hSw; go_simp; try with_reducible rfl)
    try simp only [Act.put, List.setIfInBounds_toArray, List.set_cons_zero, List.set_cons_succ]
    refine wpAnyH_take (i := 2) (oi := { dst := some 36, op := Op.call { callee := Callee.builtin Builtin.len, args := #[Operand.tmp 35], argTypes := #[22] }, type := 3, pos := "program.go:86", after := #[{ on := 1, ground := Ground.data }], guard := none }) (v := ?v31) rfl (by kernel_rfl) (by kernel_rfl) (by kernel_rfl) (fun _ _ _ h => h) (Or.inl ⟨by rfl, ?hy31⟩) (by assumption) ?rest31
    case hy31 => (intro w hSw; (try dsimp only at hSw); have hS1 := hSw; go_simp; try with_reducible rfl)
    try simp only [Act.put, List.setIfInBounds_toArray, List.set_cons_zero, List.set_cons_succ]
    refine wpAnyH_take (i := 3) (oi := { dst := some 37, op := Op.binOp BinOp.sub 3 (Operand.tmp 36) (Operand.const (Value.int IntKind.i64 1)) 3, type := 3, pos := "program.go:86", after := #[{ on := 2, ground := Ground.data }, { on := 4, ground := Ground.gcOnly Departure.lateStores }], guard := none }) (v := ?v32) rfl (by kernel_rfl) (by kernel_rfl) (by kernel_rfl) (fun _ _ _ h => h) (Or.inl ⟨by rfl, ?hy32⟩) (by assumption) ?rest32
    case hy32 => (intro w hSw; (try dsimp only at hSw); have hS1 := hSw; go_simp; try with_reducible rfl)
    try simp only [Act.put, List.setIfInBounds_toArray, List.set_cons_zero, List.set_cons_succ]
    refine wpAnyH_take (i := 4) (oi := { dst := some 6, op := Op.assign (Operand.const (Value.int IntKind.i64 0)), type := 3, pos := "program.go:86", after := #[{ on := 0, ground := Ground.textOnly Departure.lateStores }, { on := 1, ground := Ground.textOnly Departure.lateStores }, { on := 2, ground := Ground.textOnly Departure.lateStoresUnsure }, { on := 3, ground := Ground.textOnly Departure.lateStores }], guard := none }) (v := ?v33) rfl (by kernel_rfl) (by kernel_rfl) (by kernel_rfl) (fun _ _ _ h => h) (Or.inl ⟨by rfl, ?hy33⟩) (by assumption) ?rest33
    case hy33 => (intro w hSw; (try dsimp only at hSw); have hS1 := hSw; go_simp; try with_reducible rfl)
    try simp only [Act.put, List.setIfInBounds_toArray, List.set_cons_zero, List.set_cons_succ]
    refine wpAnyH_take (i := 5) (oi := { dst := some 7, op := Op.assign (Operand.tmp 37), type := 3, pos := "program.go:86", after := #[{ on := 3, ground := Ground.data }, { on := 4, ground := Ground.chain }, { on := 0, ground := Ground.phase }, { on := 1, ground := Ground.phase }, { on := 2, ground := Ground.phase }, { on := 3, ground := Ground.phase }, { on := 4, ground := Ground.phase }], guard := none }) (v := ?v34) rfl (by kernel_rfl) (by kernel_rfl) (by kernel_rfl) (fun _ _ _ h => h) (Or.inl ⟨by rfl, ?hy34⟩) (by assumption) ?rest34
    case hy34 => (intro w hSw; (try dsimp only at hSw); have hS1 := hSw; go_simp; try with_reducible rfl)
    try simp only [Act.put, List.setIfInBounds_toArray, List.set_cons_zero, List.set_cons_succ]
    refine wpAnyH_done (by kernel_rfl) ?_ _
    clear hHeld
    go_wp2_with fail
    exact bodyPost_ret (v := .tuple #[.int .i64 0, .int .i64 ((p.cs.length : Int) - 1)]) (by simp [results, Try.results29, go_sem]) rfl ⟨rfl, HF.out.drew⟩
  have k17b : (op == 17) = false := by simpa using k17
  have hlo : loC op = 0 := by unfold loC; rw [if_neg k1, if_neg k5]
  have hhi : hiC p c op = 0 := by unfold hiC; rw [if_neg k1, if_neg k2, if_neg (by omega), if_neg k5, if_neg (by omega), if_neg k17]
  rw [hlo, hhi]
  clear hlo hhi
  go_enter Try.func29, Try.ntmps29
  go_wp2
  exact bodyPost_ret (v := .tuple #[.int .i64 0, .int .i64 0]) (by simp [results, Try.results29, go_sem]) rfl ⟨rfl, HF.out⟩
theorem shapeC_none {i : In} (h17 : i.op ≠ 17) (h : ∀ q ∈ shapesL, q.1 = i.op → q.2 = (0, 0)) : shapeC i = (0, 0) := by
  unfold shapeC
  rw [if_neg h17]
  cases hf : shapesL.find? fun q => q.1 == i.op with
  | none => rfl
  | some q =>
    have h1 := List.mem_of_find?_eq_some hf
    have h2 := List.find?_some hf
    exact h q h1 (by simpa using h2)
theorem effect_any (i : In) (w : World) (hb : i.op = 17 → 0 ≤ i.b) :
    Calls Try.prog 27 #[.agg #[.int .i64 i.op, .int .i64 i.a, .int .i64 i.b]] w fun e w' => e = .returned (.tuple #[.int .i64 (shapeC i).1, .int .i64 (shapeC i).2]) ∧ Fr nothing w w' := by
  obtain ⟨op, a, b⟩ := i
  simp only at hb
  have HF : Hid (Fr nothing w (w.alloc (.cells #[.int .i64 op, .int .i64 a, .int .i64 b] 44))) := (Fr.refl _ _).alloc _
  by_cases k1 : op = 1
  · subst k1
    have hs : shapeC ⟨1, a, b⟩ = (0, 1) := rfl
    rw [hs]
    clear hs hb
    go_enter Try.func27, Try.ntmps27
    go_wp2
    exact bodyPost_ret (v := .tuple #[.int .i64 0, .int .i64 1]) (by simp [results, Try.results27, go_sem]) rfl ⟨rfl, HF.out⟩
  have k1b : (op == 1) = false := by simpa using k1
  by_cases k2 : op = 2
  · subst k2
    have hs : shapeC ⟨2, a, b⟩ = (0, 1) := rfl
    rw [hs]
    clear hs hb
    go_enter Try.func27, Try.ntmps27
    go_wp2
    exact bodyPost_ret (v := .tuple #[.int .i64 0, .int .i64 1]) (by simp [results, Try.results27, go_sem]) rfl ⟨rfl, HF.out⟩
  have k2b : (op == 2) = false := by simpa using k2
  by_cases k3 : op = 3
  · subst k3
    have hs : shapeC ⟨3, a, b⟩ = (0, 1) := rfl
    rw [hs]
    clear hs hb
    go_enter Try.func27, Try.ntmps27
    go_wp2
    exact bodyPost_ret (v := .tuple #[.int .i64 0, .int .i64 1]) (by simp [results, Try.results27, go_sem]) rfl ⟨rfl, HF.out⟩
  have k3b : (op == 3) = false := by simpa using k3
  by_cases k12 : op = 12
  · subst k12
    have hs : shapeC ⟨12, a, b⟩ = (0, 1) := rfl
    rw [hs]
    clear hs hb
    go_enter Try.func27, Try.ntmps27
    go_wp2
    exact bodyPost_ret (v := .tuple #[.int .i64 0, .int .i64 1]) (by simp [results, Try.results27, go_sem]) rfl ⟨rfl, HF.out⟩
  have k12b : (op == 12) = false := by simpa using k12
  by_cases k4 : op = 4
  · subst k4
    have hs : shapeC ⟨4, a, b⟩ = (1, 0) := rfl
    rw [hs]
    clear hs hb
    go_enter Try.func27, Try.ntmps27
    go_wp2
    exact bodyPost_ret (v := .tuple #[.int .i64 1, .int .i64 0]) (by simp [results, Try.results27, go_sem]) rfl ⟨rfl, HF.out⟩
  have k4b : (op == 4) = false := by simpa using k4
  by_cases k14 : op = 14
  · subst k14
    have hs : shapeC ⟨14, a, b⟩ = (1, 0) := rfl
    rw [hs]
    clear hs hb
    go_enter Try.func27, Try.ntmps27
    go_wp2
    exact bodyPost_ret (v := .tuple #[.int .i64 1, .int .i64 0]) (by simp [results, Try.results27, go_sem]) rfl ⟨rfl, HF.out⟩
  have k14b : (op == 14) = false := by simpa using k14
  by_cases k16 : op = 16
  · subst k16
    have hs : shapeC ⟨16, a, b⟩ = (1, 0) := rfl
    rw [hs]
    clear hs hb
    go_enter Try.func27, Try.ntmps27
    go_wp2
    exact bodyPost_ret (v := .tuple #[.int .i64 1, .int .i64 0]) (by simp [results, Try.results27, go_sem]) rfl ⟨rfl, HF.out⟩
  have k16b : (op == 16) = false := by simpa using k16
  by_cases k19 : op = 19
  · subst k19
    have hs : shapeC ⟨19, a, b⟩ = (1, 0) := rfl
    rw [hs]
    clear hs hb
    go_enter Try.func27, Try.ntmps27
    go_wp2
    exact bodyPost_ret (v := .tuple #[.int .i64 1, .int .i64 0]) (by simp [results, Try.results27, go_sem]) rfl ⟨rfl, HF.out⟩
  have k19b : (op == 19) = false := by simpa using k19
  by_cases k18 : op = 18
  · subst k18
    have hs : shapeC ⟨18, a, b⟩ = (1, 0) := rfl
    rw [hs]
    clear hs hb
    go_enter Try.func27, Try.ntmps27
    go_wp2
    exact bodyPost_ret (v := .tuple #[.int .i64 1, .int .i64 0]) (by simp [results, Try.results27, go_sem]) rfl ⟨rfl, HF.out⟩
  have k18b : (op == 18) = false := by simpa using k18
  by_cases k5 : op = 5
  · subst k5
    have hs : shapeC ⟨5, a, b⟩ = (2, 1) := rfl
    rw [hs]
    clear hs hb
    go_enter Try.func27, Try.ntmps27
    go_wp2
    exact bodyPost_ret (v := .tuple #[.int .i64 2, .int .i64 1]) (by simp [results, Try.results27, go_sem]) rfl ⟨rfl, HF.out⟩
  have k5b : (op == 5) = false := by simpa using k5
  by_cases k6 : op = 6
  · subst k6
    have hs : shapeC ⟨6, a, b⟩ = (2, 1) := rfl
    rw [hs]
    clear hs hb
    go_enter Try.func27, Try.ntmps27
    go_wp2
    exact bodyPost_ret (v := .tuple #[.int .i64 2, .int .i64 1]) (by simp [results, Try.results27, go_sem]) rfl ⟨rfl, HF.out⟩
  have k6b : (op == 6) = false := by simpa using k6
  by_cases k7 : op = 7
  · subst k7
    have hs : shapeC ⟨7, a, b⟩ = (1, 1) := rfl
    rw [hs]
    clear hs hb
    go_enter Try.func27, Try.ntmps27
    go_wp2
    exact bodyPost_ret (v := .tuple #[.int .i64 1, .int .i64 1]) (by simp [results, Try.results27, go_sem]) rfl ⟨rfl, HF.out⟩
  have k7b : (op == 7) = false := by simpa using k7
  by_cases k8 : op = 8
  · subst k8
    have hs : shapeC ⟨8, a, b⟩ = (1, 1) := rfl
    rw [hs]
    clear hs hb
    go_enter Try.func27, Try.ntmps27
    go_wp2
    exact bodyPost_ret (v := .tuple #[.int .i64 1, .int .i64 1]) (by simp [results, Try.results27, go_sem]) rfl ⟨rfl, HF.out⟩
  have k8b : (op == 8) = false := by simpa using k8
  by_cases k11 : op = 11
  · subst k11
    have hs : shapeC ⟨11, a, b⟩ = (1, 1) := rfl
    rw [hs]
    clear hs hb
    go_enter Try.func27, Try.ntmps27
    go_wp2
    exact bodyPost_ret (v := .tuple #[.int .i64 1, .int .i64 1]) (by simp [results, Try.results27, go_sem]) rfl ⟨rfl, HF.out⟩
  have k11b : (op == 11) = false := by simpa using k11
  by_cases k13 : op = 13
  · subst k13
    have hs : shapeC ⟨13, a, b⟩ = (1, 1) := rfl
    rw [hs]
    clear hs hb
    go_enter Try.func27, Try.ntmps27
    go_wp2
    exact bodyPost_ret (v := .tuple #[.int .i64 1, .int .i64 1]) (by simp [results, Try.results27, go_sem]) rfl ⟨rfl, HF.out⟩
  have k13b : (op == 13) = false := by simpa using k13
  by_cases k9 : op = 9
  · subst k9
    have hs : shapeC ⟨9, a, b⟩ = (2, 0) := rfl
    rw [hs]
    clear hs hb
    go_enter Try.func27, Try.ntmps27
    go_wp2
    exact bodyPost_ret (v := .tuple #[.int .i64 2, .int .i64 0]) (by simp [results, Try.results27, go_sem]) rfl ⟨rfl, HF.out⟩
  have k9b : (op == 9) = false := by simpa using k9
  by_cases k10 : op = 10
  · subst k10
    have hs : shapeC ⟨10, a, b⟩ = (2, 0) := rfl
    rw [hs]
    clear hs hb
    go_enter Try.func27, Try.ntmps27
    go_wp2
    exact bodyPost_ret (v := .tuple #[.int .i64 2, .int .i64 0]) (by simp [results, Try.results27, go_sem]) rfl ⟨rfl, HF.out⟩
  have k10b : (op == 10) = false := by simpa using k10
  by_cases k17 : op = 17
  · have hb0 := hb k17
    subst k17
    have hs : shapeC ⟨17, a, b⟩ = (b, 1) := rfl
    rw [hs]
    clear hs hb
    have hmx : max b 0 = b := by omega
    go_enter Try.func27, Try.ntmps27
    go_wp2
    exact bodyPost_ret (v := .tuple #[.int .i64 b, .int .i64 1]) (by simp [results, Try.results27, go_sem]) rfl ⟨rfl, HF.out⟩
  have k17b : (op == 17) = false := by simpa using k17
  have hs : shapeC ⟨op, a, b⟩ = (0, 0) := by
    refine shapeC_none (by simpa using k17) ?_
    intro q hq he
    simp only at he
    by_cases k15 : q.1 = 15
    · simp only [shapesL, List.mem_cons, List.not_mem_nil, or_false] at hq
      rcases hq with rfl | rfl | rfl | rfl | rfl | rfl | rfl | rfl | rfl | rfl | rfl | rfl | rfl | rfl | rfl | rfl | rfl | rfl <;> first | rfl | (exact absurd k15 (by decide))
    · simp only [shapesL, List.mem_cons, List.not_mem_nil, or_false] at hq
      rcases hq with rfl | rfl | rfl | rfl | rfl | rfl | rfl | rfl | rfl | rfl | rfl | rfl | rfl | rfl | rfl | rfl | rfl | rfl <;> first | rfl | (simp only at he; omega)
  rw [hs]
  clear hs hb
  go_enter Try.func27, Try.ntmps27
  go_wp2
  exact bodyPost_ret (v := .tuple #[.int .i64 0, .int .i64 0]) (by simp [results, Try.results27, go_sem]) rfl ⟨rfl, HF.out⟩
end Go.Proofs.Ytgocmpooppejdaa
