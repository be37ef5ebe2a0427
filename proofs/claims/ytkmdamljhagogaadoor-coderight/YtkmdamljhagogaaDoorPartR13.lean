/- KLast; KExprs; KExpr. -/
import Derived.Test.YtkmdamljhagogaaDoorPartR12
section
/- Package code: the instruction that ends an expression. -/
set_option maxHeartbeats 0
set_option maxRecDepth 100000
namespace Go.Proofs.YtkmdamljhagogaaDoor
open Go Go.RowKit
theorem execOp_fv {o : Oper} {a : Act} {f : FuncId} {x : Operand} {xs : Array Operand} {ats : Array TypeId} {cap : Array Value} (ho : o.op = .call { callee := .value x, args := xs, argTypes := ats }) (hv : a.eval x = .func (.func f) #[] cap) : execOp a.eval o = callFunc f (#[] ++ xs.map a.eval ++ cap) := by
  obtain ⟨dst, op, ty, pos, after, guard⟩ := o
  simp only at ho
  subst ho
  show (do let d ← resolve a.eval { callee := .value x, args := xs, argTypes := ats } ty; invoke d.target d.args) = _
  unfold resolve
  simp only [hv]
  rfl
/-- A call of a function value, as a step of a region that draws its order. -/
theorem step_callv {P : Program} {w : World} {ops : Array Oper} {o : Oper} {a : Act} {K : Act → World → Prop} {Q : Exit → Act → World → Prop} {E : Prop} (hgd : Region.wanted o (yielded ops a.tmps) = true) (f : FuncId) (fn : Func) (x : Operand) (cap : Array Value) (xs : Array Operand) (ats : Array TypeId)
    (ho : o.op = .call { callee := .value x, args := xs, argTypes := ats }) (hv : a.eval x = .func (.func f) #[] cap) (hf : P.funcs[f]? = some fn) (hname : (fn.name == "runtime.NumGoroutine") = false) (hbody : fn.body.isNone = false) (args : Array Value) (hx : xs.map a.eval ++ cap = args)
    (R : Ending → World → Prop) (hc : Calls P f args w R) (h : ∀ e w', R e w' → ∃ v, e = .returned v ∧ K (a.put o.dst v) w') :
    if Region.wanted o (yielded ops a.tmps) = true then Oper.wp P o a w K Q else E := by
  rw [if_pos hgd]
  unfold Oper.wp
  rw [execOp_fv ho hv]
  have hr : (callFunc f (#[] ++ xs.map a.eval ++ cap)).run P w = .ok (.enter f args) w := by
    have h1 : fn.name ≠ "runtime.NumGoroutine" := by simpa using hname
    have h2 : fn.body ≠ none := by intro e; rw [e] at hbody; cases hbody
    have h3 : #[] ++ xs.map a.eval ++ cap = args := by rw [← hx]; simp
    rw [h3]
    simp [callFunc, hf, h1, h2, run_program]
  rw [hr, Oper.upon_enter]
  refine hc.mono fun e w' hR => ?_
  obtain ⟨v, rfl, hk⟩ := h e w' hR
  exact hk
abbrev iv (x : In) : Value := .agg #[.int .i64 x.op, .int .i64 x.a, .int .i64 x.b]
/-- What last answers. -/
def LP (c : Wk) (G : Bs → Int) (T : Nat → Prop) (s : Ks) (w : World) (r : RawE) (k n : Int) (t : Bs) (a : List Ex) (e : Ending) (w' : World) : Prop :=
  ∃ q : Slc, e = .returned (.tuple #[iv (lastI G s.E k n t a.length s.ws), .slice q.a q.n q.c]) ∧ KP c G T w { s with ws := lastW k t s.ws } w' ∧ (q = r.s ∨ (q = nilS ∧ a = []))
theorem in_cells {w w' : World} {u0 u1 u2 : Value} {S : Nat → Prop} (hf : Fr S (w.alloc (.cells #[u0, u1, u2] 45)) w') (hs : ¬ S w.heap.size) : w'.cell? ⟨w.heap.size, 0, none⟩ = some u0 ∧ w'.cell? ⟨w.heap.size, 1, none⟩ = some u1 ∧ w'.cell? ⟨w.heap.size, 2, none⟩ = some u2 ∧ w.heap.size < w'.heap.size := by
  have hn := made_cells hf hs
  exact ⟨hn.1 0, hn.1 1, hn.1 2, hn.2.2⟩
theorem KP.of_new {c : Wk} {G : Bs → Int} {T : Nat → Prop} {s : Ks} {w w' : World} (h : KI c G T s w) (hf : Fr nothing w w') : KP c G T w s w' := ⟨T, h.new hf, hf.mono (fun _ _ e => e.elim), fun _ hk => .inl hk⟩
theorem last_int (c : Wk) (G : Bs → Int) (T : Nat → Prop) (s : Ks) (w : World) (h : KI c G T s w) (n : Int) (t : Bs) (sl : Slc) :
    Calls Tryd.prog 74 #[.pointer (some ⟨c.wb, 0, none⟩), ev ⟨1, n, t, sl⟩] w (LP c G T s w ⟨1, n, t, sl⟩ 1 n t []) := by
  have HK := hide h
  clear h
  go_enter Tryd.func74, Tryd.ntmps74
  go_wp2
  exact bodyPost_ret (v := .tuple #[iv ⟨1, n, 0⟩, .slice none 0 0]) (by simp [results, Tryd.results74, go_sem]) rfl ⟨nilS, rfl, .of_new HK.out (((Fr.refl _ _).alloc _).alloc _), .inr ⟨rfl, rfl⟩⟩
theorem last_here (c : Wk) (G : Bs → Int) (T : Nat → Prop) (s : Ks) (w : World) (h : KI c G T s w) (n : Int) (t : Bs) (sl : Slc) :
    Calls Tryd.prog 74 #[.pointer (some ⟨c.wb, 0, none⟩), ev ⟨9, n, t, sl⟩] w (LP c G T s w ⟨9, n, t, sl⟩ 9 n t []) := by
  have HK := hide h
  clear h
  go_enter Tryd.func74, Tryd.ntmps74
  go_wp2
  exact bodyPost_ret (v := .tuple #[iv ⟨12, 0, 0⟩, .slice none 0 0]) (by simp [results, Tryd.results74, go_sem]) rfl ⟨nilS, rfl, .of_new HK.out (((Fr.refl _ _).alloc _).alloc _), .inr ⟨rfl, rfl⟩⟩
theorem last_name (c : Wk) (G : Bs → Int) (T : Nat → Prop) (s : Ks) (w : World) (h : KI c G T s w) (n : Int) (t : Bs) (sl : Slc) (ht : t.length ≤ 1500) (hm : t ∈ s.nm) :
    Calls Tryd.prog 74 #[.pointer (some ⟨c.wb, 0, none⟩), ev ⟨3, n, t, sl⟩] w (LP c G T s w ⟨3, n, t, sl⟩ 3 n t []) := by
  have hF : Fr nothing w ((w.alloc (eo ⟨3, n, t, sl⟩)).alloc (.cells #[.int .i64 0, .int .i64 0, .int .i64 0] 45)).drew := (((Fr.refl _ _).alloc _).alloc _).drew
  obtain ⟨B, b1, b2, b3⟩ := (h.new hF).vm
  have hlk := b1.look t (by omega)
  rw [b2 t hm] at hlk
  have c2 := h.c2
  have hwl := h.wl
  have HK := hide h
  clear h b1 b2 b3 hF
  go_enter Tryd.func74, Tryd.ntmps74
  go_wp2_with fail
  go_region
  go_wp2_with fail
  exact bodyPost_ret (v := .tuple #[iv ⟨3, s.E t, 0⟩, .slice none 0 0]) (by simp [results, Tryd.results74, go_sem]) rfl ⟨nilS, rfl, .of_new HK.out (((Fr.refl _ _).alloc _).alloc _).drew, .inr ⟨rfl, rfl⟩⟩
theorem last_two (c : Wk) (G : Bs → Int) (T : Nat → Prop) (s : Ks) (w : World) (h : KI c G T s w) (n : Int) (t : Bs) (sl : Slc) (a : List Ex) :
    Calls Tryd.prog 74 #[.pointer (some ⟨c.wb, 0, none⟩), ev ⟨4, n, t, sl⟩] w (LP c G T s w ⟨4, n, t, sl⟩ 4 n t a) := by
  have HK := hide h
  clear h
  go_enter Tryd.func74, Tryd.ntmps74
  go_wp2_with fail
  go_region
  go_wp2_with fail
  exact bodyPost_ret (v := .tuple #[iv ⟨5, n, 0⟩, .slice sl.a sl.n sl.c]) (by simp [results, Tryd.results74, go_sem]) rfl ⟨sl, rfl, .of_new HK.out (((Fr.refl _ _).alloc _).alloc _).drew, .inl rfl⟩
theorem last_call (c : Wk) (G : Bs → Int) (T : Nat → Prop) (s : Ks) (w : World) (h : KI c G T s w) (n : Int) (t : Bs) (sl : Slc) (a : List Ex) (ht : t.length ≤ 1500) (hn : sl.n = a.length) (hm : sl.n ≤ 9223372036854775807) :
    Calls Tryd.prog 74 #[.pointer (some ⟨c.wb, 0, none⟩), ev ⟨11, n, t, sl⟩] w (LP c G T s w ⟨11, n, t, sl⟩ 11 n t a) := by
  have hF : Fr nothing w ((w.alloc (eo ⟨11, n, t, sl⟩)).alloc (.cells #[.int .i64 0, .int .i64 0, .int .i64 0] 45)).drew := (((Fr.refl _ _).alloc _).alloc _).drew
  obtain ⟨B, b1, b2⟩ := (h.new hF).fm
  have hlk := b1.look t (by omega)
  rw [b2 t] at hlk
  have c0 := h.c0
  have hwl := h.wl
  have HK := hide h
  have HN := hide hn
  obtain ⟨sa, sn, sc⟩ := sl
  simp only at HN hm hlk
  clear h b1 b2 hF hn
  go_enter Tryd.func74, Tryd.ntmps74
  go_wp2_with fail
  go_region
  go_wp2_with fail
  exact bodyPost_ret (v := .tuple #[iv ⟨17, G t, (sn : Nat)⟩, .slice sa sn sc]) (by simp [results, Tryd.results74, go_sem]) rfl ⟨⟨sa, sn, sc⟩, by rw [HN.out]; rfl, .of_new HK.out (((Fr.refl _ _).alloc _).alloc _).drew, .inl rfl⟩
theorem lastI_plain {G E : Bs → Int} {k n : Int} {t : Bs} {len : Nat} {ws : List Bs} (h1 : k ≠ 1) (h2 : k ≠ 2) (h3 : k ≠ 3) (h9 : k ≠ 9) (h4 : k ≠ 4) (h11 : k ≠ 11) : lastI G E k n t len ws = ⟨plainOp k, 0, 0⟩ ∧ lastW k t ws = ws := by
  unfold lastI lastW
  rw [if_neg h1, if_neg h2, if_neg h3, if_neg h9, if_neg h4, if_neg h11, if_neg h2]
  exact ⟨rfl, rfl⟩
/-- Three cells of a block are written. -/
theorem set3 {w : World} {b : Nat} {u0 u1 u2 : Value} (v0 v1 v2 : Value) (m0 : w.cell? ⟨b, 0, none⟩ = some u0) (m1 : w.cell? ⟨b, 1, none⟩ = some u1) (m2 : w.cell? ⟨b, 2, none⟩ = some u2) :
    ∃ w', w' = ((w.setCell ⟨b, 0, none⟩ v0).setCell ⟨b, 1, none⟩ v1).setCell ⟨b, 2, none⟩ v2 ∧ w'.cell? ⟨b, 0, none⟩ = some v0 ∧ w'.cell? ⟨b, 1, none⟩ = some v1 ∧ w'.cell? ⟨b, 2, none⟩ = some v2 ∧ Fr (fun k => k = b) w w' := by
  refine ⟨_, rfl, ?_, ?_, ?_, ?_⟩
  · rw [World.cell?_setCell_other _ ⟨b, 2, none⟩ ⟨b, 0, none⟩ _ (by simp), World.cell?_setCell_other _ ⟨b, 1, none⟩ ⟨b, 0, none⟩ _ (by simp)]
    exact World.cell?_setCell_same _ _ _ m0
  · rw [World.cell?_setCell_other _ ⟨b, 2, none⟩ ⟨b, 1, none⟩ _ (by simp)]
    exact World.cell?_setCell_same _ _ _ (by rw [World.cell?_setCell_other _ ⟨b, 0, none⟩ ⟨b, 1, none⟩ _ (by simp)]; exact m1)
  · exact World.cell?_setCell_same _ _ _ (by rw [World.cell?_setCell_other _ ⟨b, 1, none⟩ ⟨b, 2, none⟩ _ (by simp), World.cell?_setCell_other _ ⟨b, 0, none⟩ ⟨b, 2, none⟩ _ (by simp)]; exact m2)
  · exact (((Fr.refl (fun k => k = b) w).setCell (p := ⟨b, 0, none⟩) (.inl rfl) _).setCell (p := ⟨b, 1, none⟩) (.inl rfl) _).setCell (p := ⟨b, 2, none⟩) (.inl rfl) _
theorem last_plain (c : Wk) (G : Bs → Int) (T : Nat → Prop) (s : Ks) (w : World) (h : KI c G T s w) (k n : Int) (t : Bs) (sl : Slc) (a : List Ex) (h1 : k ≠ 1) (h2 : k ≠ 2) (h3 : k ≠ 3) (h9 : k ≠ 9) (h4 : k ≠ 4) (h11 : k ≠ 11) :
    Calls Tryd.prog 74 #[.pointer (some ⟨c.wb, 0, none⟩), ev ⟨k, n, t, sl⟩] w (LP c G T s w ⟨k, n, t, sl⟩ k n t a) := by
  have HK := hide h
  have HL := hide (@lastI_plain G s.E k n t a.length s.ws h1 h2 h3 h9 h4 h11)
  have p1 : (k == 1) = false := by simpa using h1
  have p2 : (k == 2) = false := by simpa using h2
  have p3 : (k == 3) = false := by simpa using h3
  have p4 : (k == 4) = false := by simpa using h4
  have p9 : (k == 9) = false := by simpa using h9
  have p11 : (k == 11) = false := by simpa using h11
  have m0 := (made_cells (((Fr.refl nothing (w.alloc (eo ⟨k, n, t, sl⟩))).alloc (.cells #[.int .i64 0, .int .i64 0, .int .i64 0] 45))) id)
  have y0 := m0.1 0
  have y3 := m0.1 3
  have yl := m0.2.2
  have hF2 : Fr nothing w ((w.alloc (eo ⟨k, n, t, sl⟩)).alloc (.cells #[.int .i64 0, .int .i64 0, .int .i64 0] 45)) := ((Fr.refl _ _).alloc _).alloc _
  have z := in_cells (Fr.refl nothing ((w.alloc (eo ⟨k, n, t, sl⟩)).alloc (.cells #[.int .i64 0, .int .i64 0, .int .i64 0] 45))) id
  have zf := (made_cells (Fr.refl nothing ((w.alloc (eo ⟨k, n, t, sl⟩)).alloc (.cells #[.int .i64 0, .int .i64 0, .int .i64 0] 45))) id).2.1
  have s1 : (w.alloc (eo ⟨k, n, t, sl⟩)).heap.size = w.heap.size + 1 := by simp
  rw [s1] at z zf
  have HF2 := hide hF2
  clear h m0 s1 hF2
  go_enter Tryd.func74, Tryd.ntmps74
  go_wp2_with fail
  generalize (w.alloc (eo ⟨k, n, t, sl⟩)).alloc (.cells #[.int .i64 0, .int .i64 0, .int .i64 0] 45) = w2 at *
  obtain ⟨z0, z1, z2, zl⟩ := z
  refine wp_region_held_drew (S := fun w' => w'.cell? ⟨w.heap.size, 0, none⟩ = some (.int .i64 k) ∧ w'.cell? ⟨w.heap.size, 3, none⟩ = some (.slice sl.a sl.n sl.c)) (by kernel_rfl) ?_ (fun hHeld => ?_)
  · exact ⟨y0, y3⟩
  refine wpAnyH_take (i := 0) (oi := { dst := some 58, op := Op.fieldAddr 93 (Operand.tmp 3) 0, type := 0, pos := "writer.go:116", after := #[], guard := none }) (v := ?v1) rfl (by kernel_rfl) (by kernel_rfl) (by kernel_rfl) (fun _ _ _ h => h) (Or.inl ⟨by rfl, ?hy1⟩) (by assumption) ?rest1
  case hy1 => (intro w hSw; (try dsimp only at hSw); obtain ⟨hS1, hS2⟩ := hSw; go_simp; try with_reducible rfl)
  try simp only [Act.put, List.setIfInBounds_toArray, List.set_cons_zero, List.set_cons_succ]
  refine wpAnyH_take (i := 1) (oi := { dst := some 59, op := Op.load 3 (Operand.tmp 58), type := 3, pos := "writer.go:116", after := #[{ on := 0, ground := Ground.data }], guard := none }) (v := ?v2) rfl (by kernel_rfl) (by kernel_rfl) (by kernel_rfl) (fun _ _ _ h => h) (Or.inl ⟨by rfl, ?hy2⟩) (by assumption) ?rest2
  case hy2 => (intro w hSw; (try dsimp only at hSw); obtain ⟨hS1, hS2⟩ := hSw; go_simp; try with_reducible rfl)
  try simp only [Act.put, List.setIfInBounds_toArray, List.set_cons_zero, List.set_cons_succ]
  refine wpAnyH_take (i := 4) (oi := { dst := some 62, op := Op.fieldAddr 93 (Operand.tmp 3) 3, type := 0, pos := "writer.go:116", after := #[{ on := 6, ground := Ground.gcOnly Departure.lateStores }], guard := none }) (v := ?v3) rfl (by kernel_rfl) (by kernel_rfl) (by kernel_rfl) (fun _ _ _ h => h) (Or.inl ⟨by rfl, ?hy3⟩) (by assumption) ?rest3
  case hy3 => (intro w hSw; (try dsimp only at hSw); obtain ⟨hS1, hS2⟩ := hSw; go_simp; try with_reducible rfl)
  try simp only [Act.put, List.setIfInBounds_toArray, List.set_cons_zero, List.set_cons_succ]
  refine wpAnyH_take (i := 5) (oi := { dst := some 63, op := Op.load 86 (Operand.tmp 62), type := 86, pos := "writer.go:116", after := #[{ on := 4, ground := Ground.data }, { on := 6, ground := Ground.gcOnly Departure.lateStores }], guard := none }) (v := ?v4) rfl (by kernel_rfl) (by kernel_rfl) (by kernel_rfl) (fun _ _ _ h => h) (Or.inl ⟨by rfl, ?hy4⟩) (by assumption) ?rest4
  case hy4 => (intro w hSw; (try dsimp only at hSw); obtain ⟨hS1, hS2⟩ := hSw; go_simp; try with_reducible rfl)
  try simp only [Act.put, List.setIfInBounds_toArray, List.set_cons_zero, List.set_cons_succ]
  refine wpAnyH_ready (rs := [2]) (by kernel_rfl) (by simp) ?_
  refine AllReadyH.cons (o := { dst := some 60, op := Op.call { callee := Callee.value (Operand.func 82), args := #[Operand.tmp 59], argTypes := #[3] }, type := 3, pos := "writer.go:116", after := #[{ on := 1, ground := Ground.data }], guard := none }) rfl (fun K hK => ?_) AllReadyH.nil
  refine step_call (by rfl) 82 Tryd.f82 #[.tmp 59] #[3] rfl Tryd.func82 (by kernel_rfl) (by kernel_rfl) #[.int .i64 k] (by simp [Act.eval]) _ (plain_any k _) ?_
  rintro e w4 ⟨rfl, hw4⟩
  refine ⟨_, rfl, ?_⟩
  rw [hw4]
  refine hK _ _ hHeld (fun _ => ?_)
  clear hK K hw4
  try simp only [Act.put, List.setIfInBounds_toArray, List.set_cons_zero, List.set_cons_succ]
  refine wpAnyH_take (i := 3) (oi := { dst := some 61, op := Op.build 45 #[(0, Operand.tmp 60)], type := 45, pos := "writer.go:116", after := #[{ on := 2, ground := Ground.data }], guard := none }) (v := ?v5) rfl (by kernel_rfl) (by kernel_rfl) (by kernel_rfl) (fun _ _ _ h => h) (Or.inl ⟨by rfl, ?hy5⟩) (by assumption) ?rest5
  case hy5 => (intro w hSw; (try dsimp only at hSw); obtain ⟨hS1, hS2⟩ := hSw; go_simp; try with_reducible rfl)
  try simp only [Act.put, List.setIfInBounds_toArray, List.set_cons_zero, List.set_cons_succ]
  obtain ⟨w5, hw5, e0, e1, e2, hF5⟩ := set3 (.int .i64 (plainOp k)) (.int .i64 0) (.int .i64 0) z0 z1 z2
  have hne : ¬ w.heap.size = w.heap.size + 1 := by omega
  have hHeld5 : w5.drew.cell? ⟨w.heap.size, 0, none⟩ = some (.int .i64 k) ∧ w5.drew.cell? ⟨w.heap.size, 3, none⟩ = some (.slice sl.a sl.n sl.c) := ⟨(hF5.cell (p := ⟨w.heap.size, 0, none⟩) yl hne).trans y0, (hF5.cell (p := ⟨w.heap.size, 3, none⟩) yl hne).trans y3⟩
  have HF5 := hide (HF2.out.then hF5 (fun k hk e => by omega))
  refine wpAnyH_ready (rs := [6]) (by kernel_rfl) (by simp) ?_
  refine AllReadyH.cons (o := { dst := none, op := Op.store 45 (Operand.tmp 4) (Operand.tmp 61), type := 0, pos := "writer.go:116", after := #[{ on := 3, ground := Ground.data }, { on := 2, ground := Ground.chain }, { on := 0, ground := Ground.phase }, { on := 1, ground := Ground.phase }, { on := 2, ground := Ground.phase }, { on := 3, ground := Ground.phase }, { on := 4, ground := Ground.textOnly Departure.lateStores }, { on := 5, ground := Ground.textOnly Departure.lateStores }], guard := none }) rfl (fun K hK => ?_) AllReadyH.nil
  go_simp
  rw [← hw5]
  refine hK _ _ hHeld5 (fun _ => ?_)
  clear hK K hHeld
  try simp only [Act.put, List.setIfInBounds_toArray, List.set_cons_zero, List.set_cons_succ]
  refine wpAnyH_take (i := 7) (oi := { dst := some 5, op := Op.assign (Operand.tmp 63), type := 86, pos := "writer.go:116", after := #[{ on := 5, ground := Ground.data }, { on := 6, ground := Ground.chain }, { on := 0, ground := Ground.phase }, { on := 1, ground := Ground.phase }, { on := 2, ground := Ground.phase }, { on := 3, ground := Ground.phase }, { on := 4, ground := Ground.phase }, { on := 5, ground := Ground.phase }, { on := 6, ground := Ground.phase }], guard := none }) (v := ?v6) rfl (by kernel_rfl) (by kernel_rfl) (by kernel_rfl) (fun _ _ _ h => h) (Or.inl ⟨by rfl, ?hy6⟩) (by assumption) ?rest6
  case hy6 => (intro w hSw; (try dsimp only at hSw); obtain ⟨hS1, hS2⟩ := hSw; go_simp; try with_reducible rfl)
  try simp only [Act.put, List.setIfInBounds_toArray, List.set_cons_zero, List.set_cons_succ]
  refine wpAnyH_done (by kernel_rfl) ?_ _
  clear hw5 hF5
  go_wp2_with fail
  exact bodyPost_ret (v := .tuple #[iv ⟨plainOp k, 0, 0⟩, .slice sl.a sl.n sl.c]) (by simp [results, Tryd.results74, go_sem, e0, e1, e2]) rfl ⟨sl, by rw [HL.out.1], by rw [HL.out.2]; exact .of_new HK.out HF5.out.drew, .inl rfl⟩
theorem last_text (c : Wk) (G : Bs → Int) (T : Nat → Prop) (s : Ks) (w : World) (h : KI c G T s w) (n : Int) (t : Bs) (sl : Slc) (ht : t.length ≤ 1500) (hl : s.ws.length ≤ 100000) :
    Calls Tryd.prog 74 #[.pointer (some ⟨c.wb, 0, none⟩), ev ⟨2, n, t, sl⟩] w (LP c G T s w ⟨2, n, t, sl⟩ 2 n t []) := by
  have HK := hide h
  have m0 := (made_cells (((Fr.refl nothing (w.alloc (eo ⟨2, n, t, sl⟩))).alloc (.cells #[.int .i64 0, .int .i64 0, .int .i64 0] 45))) id)
  have y2 := m0.1 2
  have yl := m0.2.2
  have hF2 : Fr nothing w ((w.alloc (eo ⟨2, n, t, sl⟩)).alloc (.cells #[.int .i64 0, .int .i64 0, .int .i64 0] 45)) := ((Fr.refl _ _).alloc _).alloc _
  have z := in_cells (Fr.refl nothing ((w.alloc (eo ⟨2, n, t, sl⟩)).alloc (.cells #[.int .i64 0, .int .i64 0, .int .i64 0] 45))) id
  have zf := (made_cells (Fr.refl nothing ((w.alloc (eo ⟨2, n, t, sl⟩)).alloc (.cells #[.int .i64 0, .int .i64 0, .int .i64 0] 45))) id).2.1
  have s1 : (w.alloc (eo ⟨2, n, t, sl⟩)).heap.size = w.heap.size + 1 := by simp
  rw [s1] at z zf
  have HF2 := hide hF2
  have c1 := (h.new hF2).c1
  have hwl := (h.new hF2).wl
  have HN := hide (number_any c G T s ((w.alloc (eo ⟨2, n, t, sl⟩)).alloc (.cells #[.int .i64 0, .int .i64 0, .int .i64 0] 45)).drew ((h.new hF2).new (Fr.refl nothing _).drew) t ht hl)
  have n0 : ¬ T w.heap.size := fun e => by have := h.tl _ e; omega
  have n1 : ¬ T (w.heap.size + 1) := fun e => by have := h.tl _ e; omega
  clear h m0 s1 hF2
  go_enter Tryd.func74, Tryd.ntmps74
  go_wp2_with fail
  generalize (w.alloc (eo ⟨2, n, t, sl⟩)).alloc (.cells #[.int .i64 0, .int .i64 0, .int .i64 0] 45) = w2 at *
  obtain ⟨z0, z1, z2, zl⟩ := z
  refine wp_region_held_drew (S := fun w' => w'.cell? ⟨c.wb, 1, none⟩ = some c.cl ∧ w'.cell? ⟨w.heap.size, 2, none⟩ = some (.string (bs t))) (by kernel_rfl) ?_ (fun hHeld => ?_)
  · exact ⟨c1, y2⟩
  refine wpAnyH_take (i := 0) (oi := { dst := some 15, op := Op.move (Operand.tmp 0), type := 72, pos := "writer.go:106", after := #[], guard := none }) (v := ?v7) rfl (by kernel_rfl) (by kernel_rfl) (by kernel_rfl) (fun _ _ _ h => h) (Or.inl ⟨by rfl, ?hy7⟩) (by assumption) ?rest7
  case hy7 => (intro w hSw; (try dsimp only at hSw); obtain ⟨hS1, hS2⟩ := hSw; go_simp; try with_reducible rfl)
  try simp only [Act.put, List.setIfInBounds_toArray, List.set_cons_zero, List.set_cons_succ]
  refine wpAnyH_take (i := 1) (oi := { dst := some 16, op := Op.nilCheck (Operand.tmp 15), type := 0, pos := "writer.go:106", after := #[{ on := 0, ground := Ground.data }], guard := none }) (v := ?v8) rfl (by kernel_rfl) (by kernel_rfl) (by kernel_rfl) (fun _ _ _ h => h) (Or.inl ⟨by rfl, ?hy8⟩) (by assumption) ?rest8
  case hy8 => (intro w hSw; (try dsimp only at hSw); obtain ⟨hS1, hS2⟩ := hSw; go_simp; try with_reducible rfl)
  try simp only [Act.put, List.setIfInBounds_toArray, List.set_cons_zero, List.set_cons_succ]
  refine wpAnyH_take (i := 2) (oi := { dst := some 17, op := Op.fieldAddr 74 (Operand.tmp 16) 1, type := 0, pos := "writer.go:106", after := #[{ on := 1, ground := Ground.data }], guard := none }) (v := ?v9) rfl (by kernel_rfl) (by kernel_rfl) (by kernel_rfl) (fun _ _ _ h => h) (Or.inl ⟨by rfl, ?hy9⟩) (by assumption) ?rest9
  case hy9 => (intro w hSw; (try dsimp only at hSw); obtain ⟨hS1, hS2⟩ := hSw; go_simp; try with_reducible rfl)
  try simp only [Act.put, List.setIfInBounds_toArray, List.set_cons_zero, List.set_cons_succ]
  refine wpAnyH_take (i := 3) (oi := { dst := some 18, op := Op.load 69 (Operand.tmp 17), type := 69, pos := "writer.go:106", after := #[{ on := 2, ground := Ground.data }], guard := none }) (v := ?v10) rfl (by kernel_rfl) (by kernel_rfl) (by kernel_rfl) (fun _ _ _ h => h) (Or.inl ⟨by rfl, ?hy10⟩) (by assumption) ?rest10
  case hy10 => (intro w hSw; (try dsimp only at hSw); obtain ⟨hS1, hS2⟩ := hSw; go_simp; try with_reducible rfl)
  try simp only [Act.put, List.setIfInBounds_toArray, List.set_cons_zero, List.set_cons_succ]
  refine wpAnyH_take (i := 4) (oi := { dst := some 19, op := Op.fieldAddr 93 (Operand.tmp 3) 2, type := 0, pos := "writer.go:106", after := #[], guard := none }) (v := ?v11) rfl (by kernel_rfl) (by kernel_rfl) (by kernel_rfl) (fun _ _ _ h => h) (Or.inl ⟨by rfl, ?hy11⟩) (by assumption) ?rest11
  case hy11 => (intro w hSw; (try dsimp only at hSw); obtain ⟨hS1, hS2⟩ := hSw; go_simp; try with_reducible rfl)
  try simp only [Act.put, List.setIfInBounds_toArray, List.set_cons_zero, List.set_cons_succ]
  refine wpAnyH_take (i := 5) (oi := { dst := some 20, op := Op.load 9 (Operand.tmp 19), type := 9, pos := "writer.go:106", after := #[{ on := 4, ground := Ground.data }], guard := none }) (v := ?v12) rfl (by kernel_rfl) (by kernel_rfl) (by kernel_rfl) (fun _ _ _ h => h) (Or.inl ⟨by rfl, ?hy12⟩) (by assumption) ?rest12
  case hy12 => (intro w hSw; (try dsimp only at hSw); obtain ⟨hS1, hS2⟩ := hSw; go_simp; try with_reducible rfl)
  try simp only [Act.put, List.setIfInBounds_toArray, List.set_cons_zero, List.set_cons_succ]
  refine wpAnyH_ready (rs := [6]) (by kernel_rfl) (by simp) ?_
  refine AllReadyH.cons (o := { dst := some 21, op := Op.call { callee := Callee.value (Operand.tmp 18), args := #[Operand.tmp 20], argTypes := #[9] }, type := 3, pos := "writer.go:106", after := #[{ on := 3, ground := Ground.data }, { on := 5, ground := Ground.data }], guard := none }) rfl (fun K hK => ?_) AllReadyH.nil
  refine step_callv (by rfl) 41 Tryd.f41 (.tmp 18) #[.pointer (some ⟨c.kb, 0, none⟩), .pointer (some ⟨c.jb, 0, none⟩)] #[.tmp 20] #[9] rfl (by simp [Act.eval]) Tryd.func41 (by kernel_rfl) (by kernel_rfl) #[.string (bs t), .pointer (some ⟨c.kb, 0, none⟩), .pointer (some ⟨c.jb, 0, none⟩)] (by simp [Act.eval]) _ HN.out ?_
  rintro e w4 ⟨rfl, T', k1, k2, k3⟩
  refine ⟨_, rfl, ?_⟩
  have F4 : Fr T w2 w4 := (Fr.refl T w2).drew.trans k2
  have hHeld4 : w4.cell? ⟨c.wb, 1, none⟩ = some c.cl ∧ w4.cell? ⟨w.heap.size, 2, none⟩ = some (.string (bs t)) := ⟨k1.c1, (F4.cell (p := ⟨w.heap.size, 2, none⟩) yl n0).trans y2⟩
  refine hK _ _ hHeld4 (fun _ => ?_)
  clear hK K hHeld
  try simp only [Act.put, List.setIfInBounds_toArray, List.set_cons_zero, List.set_cons_succ]
  refine wpAnyH_take (i := 7) (oi := { dst := some 22, op := Op.build 45 #[(0, Operand.const (Value.int IntKind.i64 2)), (1, Operand.tmp 21)], type := 45, pos := "writer.go:106", after := #[{ on := 6, ground := Ground.data }], guard := none }) (v := ?v13) rfl (by kernel_rfl) (by kernel_rfl) (by kernel_rfl) (fun _ _ _ h => h) (Or.inl ⟨by rfl, ?hy13⟩) (by assumption) ?rest13
  case hy13 => (intro w hSw; (try dsimp only at hSw); obtain ⟨hS1, hS2⟩ := hSw; go_simp; try with_reducible rfl)
  try simp only [Act.put, List.setIfInBounds_toArray, List.set_cons_zero, List.set_cons_succ]
  have zl4 := Nat.lt_of_lt_of_le zl F4.size
  have f0 := (F4.frozen (p := ⟨w.heap.size + 1, 0, none⟩) zl n1).trans (zf 0)
  have f1 := (F4.frozen (p := ⟨w.heap.size + 1, 1, none⟩) zl n1).trans (zf 1)
  have f2 := (F4.frozen (p := ⟨w.heap.size + 1, 2, none⟩) zl n1).trans (zf 2)
  have x0 := (F4.cell (p := ⟨w.heap.size + 1, 0, none⟩) zl n1).trans z0
  have x1 := (F4.cell (p := ⟨w.heap.size + 1, 1, none⟩) zl n1).trans z1
  have x2 := (F4.cell (p := ⟨w.heap.size + 1, 2, none⟩) zl n1).trans z2
  obtain ⟨w5, hw5, e0, e1, e2, hF5⟩ := set3 (.int .i64 2) (.int .i64 (wnum s.ws t : Nat)) (.int .i64 0) x0 x1 x2
  have hT1 : ¬ T' (w.heap.size + 1) := fun e => by
    rcases k3 _ e with h | h
    · exact n1 h
    · have : w2.drew.heap.size = w2.heap.size := rfl
      omega
  have hfbl := k1.fl
  have HTT := HK.out.fl
  have HKP := hide (show KP c G T w { s with ws := wput s.ws t } w5 from ⟨T', k1.fr hF5 (fun k hk e => hT1 (e ▸ hk)) (by omega) (by omega) (by omega), ((HF2.out.mono (fun _ _ e => e.elim)).trans F4).then hF5 (fun k hk e => by omega), fun k hk => by
    rcases k3 k hk with h | h
    · exact .inl h
    · exact .inr (Nat.le_trans HF2.out.size h)⟩)
  have hne : ¬ w.heap.size = w.heap.size + 1 := by omega
  have hHeld5 : w5.cell? ⟨c.wb, 1, none⟩ = some c.cl ∧ w5.cell? ⟨w.heap.size, 2, none⟩ = some (.string (bs t)) := ⟨(hF5.cell (p := ⟨c.wb, 1, none⟩) k1.wl (by have := HK.out.wl; show ¬ c.wb = w.heap.size + 1; omega)).trans k1.c1, (hF5.cell (p := ⟨w.heap.size, 2, none⟩) (Nat.lt_of_lt_of_le yl F4.size) hne).trans hHeld4.2⟩
  clear k1 k2 k3 F4
  refine wpAnyH_ready (rs := [8]) (by kernel_rfl) (by simp) ?_
  refine AllReadyH.cons (o := { dst := none, op := Op.store 45 (Operand.tmp 4) (Operand.tmp 22), type := 0, pos := "writer.go:106", after := #[{ on := 7, ground := Ground.data }, { on := 6, ground := Ground.chain }, { on := 0, ground := Ground.phase }, { on := 1, ground := Ground.phase }, { on := 2, ground := Ground.phase }, { on := 3, ground := Ground.phase }, { on := 4, ground := Ground.phase }, { on := 5, ground := Ground.phase }, { on := 6, ground := Ground.phase }, { on := 7, ground := Ground.phase }], guard := none }) rfl (fun K hK => ?_) AllReadyH.nil
  go_simp
  rw [← hw5]
  refine hK _ _ hHeld5 (fun _ => ?_)
  clear hK K
  try simp only [Act.put, List.setIfInBounds_toArray, List.set_cons_zero, List.set_cons_succ]
  refine wpAnyH_take (i := 9) (oi := { dst := some 5, op := Op.assign (Operand.const (Value.slice none 0 0)), type := 86, pos := "writer.go:106", after := #[{ on := 8, ground := Ground.chain }, { on := 0, ground := Ground.phase }, { on := 1, ground := Ground.phase }, { on := 2, ground := Ground.phase }, { on := 3, ground := Ground.phase }, { on := 4, ground := Ground.phase }, { on := 5, ground := Ground.phase }, { on := 6, ground := Ground.phase }, { on := 7, ground := Ground.phase }, { on := 8, ground := Ground.phase }], guard := none }) (v := ?v14) rfl (by kernel_rfl) (by kernel_rfl) (by kernel_rfl) (fun _ _ _ h => h) (Or.inl ⟨by rfl, ?hy14⟩) (by assumption) ?rest14
  case hy14 => (intro w hSw; (try dsimp only at hSw); obtain ⟨hS1, hS2⟩ := hSw; go_simp; try with_reducible rfl)
  try simp only [Act.put, List.setIfInBounds_toArray, List.set_cons_zero, List.set_cons_succ]
  refine wpAnyH_done (by kernel_rfl) ?_ _
  clear hw5 hF5
  go_wp2_with fail
  exact bodyPost_ret (v := .tuple #[iv ⟨2, (wnum s.ws t : Nat), 0⟩, .slice none 0 0]) (by simp [results, Tryd.results74, go_sem, e0, e1, e2]) rfl ⟨nilS, rfl, HKP.out, .inr ⟨rfl, rfl⟩⟩
/-- Any expression of a text. -/
theorem last_any (c : Wk) (G : Bs → Int) (T : Nat → Prop) (s : Ks) (w : World) (h : KI c G T s w) (k n : Int) (t : Bs) (sl : Slc) (a : List Ex) (ht : t.length ≤ 1500) (hl : s.ws.length ≤ 100000) (hm : k = 3 → t ∈ s.nm) (ha : k = 1 ∨ k = 2 ∨ k = 3 ∨ k = 9 → a = []) (hn : sl.n = a.length) (hmx : sl.n ≤ 9223372036854775807) :
    Calls Tryd.prog 74 #[.pointer (some ⟨c.wb, 0, none⟩), ev ⟨k, n, t, sl⟩] w (LP c G T s w ⟨k, n, t, sl⟩ k n t a) := by
  by_cases h1 : k = 1
  · subst h1; rw [ha (by omega)]; exact last_int c G T s w h n t sl
  by_cases h2 : k = 2
  · subst h2; rw [ha (by omega)]; exact last_text c G T s w h n t sl ht hl
  by_cases h3 : k = 3
  · subst h3; rw [ha (by omega)]; exact last_name c G T s w h n t sl ht (hm rfl)
  by_cases h9 : k = 9
  · subst h9; rw [ha (by omega)]; exact last_here c G T s w h n t sl
  by_cases h4 : k = 4
  · subst h4; exact last_two c G T s w h n t sl a
  by_cases h11 : k = 11
  · subst h11; exact last_call c G T s w h n t sl a ht hn hmx
  · exact last_plain c G T s w h k n t sl a h1 h2 h3 h9 h4 h11
end Go.Proofs.YtkmdamljhagogaaDoor
end
section
/- Package code: expressions. -/
set_option maxHeartbeats 0
set_option maxRecDepth 100000
namespace Go.Proofs.YtkmdamljhagogaaDoor
open Go Go.RowKit
def finX (G : Bs → Int) (s : Ks) (l : List Ex) (i : Nat) : Ks := { s with hi := max s.hi (dpsK i l), ins := s.ins ++ (exsK G s.E l s.ws).ins, ws := (exsK G s.E l s.ws).ws }
def stepX (G : Bs → Int) (s : Ks) (x : Ex) (i : Nat) : Ks := { s with hi := max s.hi (i + deepK x), ins := s.ins ++ (exK G s.E x s.ws).ins, ws := (exK G s.E x s.ws).ws }
theorem finX_nil (G : Bs → Int) (s : Ks) (i : Nat) : finX G s [] i = s := by
  unfold finX
  rw [exsK_nil, dpsK]
  simp
theorem finX_cons (G : Bs → Int) (s : Ks) (x : Ex) (l : List Ex) (i : Nat) : finX G s (x :: l) i = finX G (stepX G s x i) l (i + 1) := by
  unfold finX stepX
  rw [exsK_cons, dpsK]
  simp [Nat.max_assoc]
theorem dps_shift : ∀ (l : List Ex) (i b : Nat), l ≠ [] → dpsK (i + b) l = b + dpsK i l
  | [], _, _, h => absurd rfl h
  | [x], i, b, _ => by simp [dpsK]; omega
  | x :: y :: l, i, b, _ => by
    have := dps_shift (y :: l) (i + 1) b (by simp)
    have h1 : dpsK (i + b) (x :: y :: l) = max (i + b + deepK x) (dpsK (i + b + 1) (y :: l)) := by rw [dpsK]
    have h2 : dpsK i (x :: y :: l) = max (i + deepK x) (dpsK (i + 1) (y :: l)) := by rw [dpsK]
    rw [h1, h2, show i + b + 1 = i + 1 + b by omega, this]
    omega
theorem hi_mk (h b : Nat) (k n : Int) (t : Bs) (a : List Ex) : max (max h (dpsK b a)) (b + 1) = max h (b + deepK (.mk k n t a)) := by
  rw [deepK]
  cases a with
  | nil => simp [dpsK]
  | cons x l =>
    have := dps_shift (x :: l) 0 b (by simp)
    rw [Nat.zero_add] at this
    rw [this]
    omega
/-- Where the trees lie. -/
abbrev ap (T : Nat → Prop) (w : World) : Nat → Prop := fun k => ¬ T k ∧ k < w.heap.size
theorem ap_next {T T' : Nat → Prop} {w w' : World} (hf : Fr T w w') (h : ∀ k, T' k → T k ∨ w.heap.size ≤ k) : ∀ k, ap T w k → ap T' w' k := fun k hk => ⟨fun e => (h k e).elim hk.1 (fun e => by have := hk.2; omega), Nat.lt_of_lt_of_le hk.2 hf.size⟩
def WEx (x : Ex) : Prop := ∀ (c : Wk) (G : Bs → Int) (T : Nat → Prop) (s : Ks) (r : RawE) (b : Nat) (w : World), KI c G T s w → ExOk w (ap T w) r x → exU (fun _ _ => True) s.nm x → s.ins.length + exN x ≤ 200000 → s.ws.length + exN x ≤ 100000 → b + exN x ≤ 100000 →
  Calls Tryd.prog 66 #[.pointer (some ⟨c.wb, 0, none⟩), ev r, .int .i64 (b : Nat)] w fun e w' => e = .returned (.tuple #[]) ∧ KP c G T w (stepX G s x b) w'
def WExs (a : List Ex) : Prop := ∀ (c : Wk) (G : Bs → Int) (T : Nat → Prop) (s : Ks) (sl : Slc) (rs : List RawE) (b : Nat) (w : World), KI c G T s w → Sl encE 4 w sl.v rs → (∀ k, sl.v.ownBlock = some k → ap T w k) → Each (ExOk w (ap T w)) rs a → exsU (fun _ _ => True) s.nm a → s.ins.length + exsN a ≤ 200000 → s.ws.length + exsN a ≤ 100000 → b + exsN a ≤ 100000 →
  Calls Tryd.prog 60 #[.pointer (some ⟨c.wb, 0, none⟩), .slice sl.a sl.n sl.c, .int .i64 (b : Nat)] w fun e w' => e = .returned (.tuple #[]) ∧ KP c G T w (finX G s a b) w'
theorem exsN_drop_le {l : List Ex} {j : Nat} (h : j ≤ l.length) : j + exsN (l.drop j) ≤ exsN l := by
  induction l generalizing j with
  | nil => simp at h; subst h; simp [exsN]
  | cons x l ih =>
    cases j with
    | zero => simp
    | succ j =>
      have := ih (j := j) (by simpa using h)
      have := exN_pos x
      rw [List.drop_succ_cons, exsN]
      omega
theorem wexprs_any (a : List Ex) (ih : ∀ x ∈ a, WEx x) : WExs a := by
  intro c G T s sl rs b w hK hS hP hE hU hI hW hB
  obtain ⟨hln, hlm⟩ := sl_len hS
  obtain ⟨la, ln, lc⟩ := sl
  simp only at hln
  rw [hE.1] at hln
  subst hln
  have hll : a.length ≤ 9223372036854775807 := by have := hE.1; omega
  have HS := hide hS
  have HE := hide hE
  have HK := hide hK
  have HP := hide hP
  have HU := hide hU
  have hal : a.length ≤ exsN a := by have := exsN_drop_le (l := a) (j := a.length) (Nat.le_refl _); omega
  clear hS hE hK hP hU
  go_enter Tryd.func60, Tryd.ntmps60
  go_wp2
  go_loopw [10, 6, 7] (fun i _ _ wr => ∃ (j : Nat), j ≤ a.length ∧ i = .int .i64 j ∧ Hid (∃ sj T', KI c G T' sj wr ∧ Fr T w wr ∧ (∀ k, T' k → T k ∨ w.heap.size ≤ k) ∧ finX G s a b = finX G sj (a.drop j) (b + j) ∧ sj.nm = s.nm ∧ sj.ins.length + exsN (a.drop j) ≤ 200000 ∧ sj.ws.length + exsN (a.drop j) ≤ 100000)) (fun i _ _ _ => a.length - (intOf i).toNat)
  case atStart => exact ⟨0, Nat.zero_le _, rfl, s, T, HK.out, Fr.refl _ _, fun k hk => .inl hk, rfl, rfl, hI, hW⟩
  case round =>
    obtain ⟨j, hj, rfl, hR⟩ := hrel
    by_cases hjl : j < a.length
    · have hx : a[j]? = some a[j] := List.getElem?_eq_getElem hjl
      have hr : rs[j]? = some (rs[j]'(by rw [HE.out.1]; omega)) := List.getElem?_eq_getElem _
      have hxm : a[j] ∈ a := List.getElem_mem hjl
      have hdr : a.drop j = a[j] :: a.drop (j + 1) := List.drop_eq_getElem_cons hjl
      have hdn := exsN_drop_le (l := a) (j := j) hj
      generalize rs[j]'(by rw [HE.out.1]; omega) = r at hr
      generalize a[j] = x at hx hxm hdr
      have hok := HE.out.2 j r x hr hx
      obtain ⟨g, o, hg, -, dg, p0, p1, p2, p3⟩ := sl_elem4 (s := ⟨la, a.length, lc⟩) HS.out hr
      simp only at hg
      subst hg
      obtain ⟨sj, T', hKj, hFj, hTj, hEq, hnm, hIj, hWj⟩ := hR.out
      have hgT := (HP.out g rfl).1
      rw [← hFj.cell (p := ⟨g, _, none⟩) dg hgT] at p0 p1 p2 p3
      have eg : g < wr.heap.size := Nat.lt_of_lt_of_le dg hFj.size
      rw [hdr, finX_cons] at hEq
      rw [hdr, exsN] at hIj hWj hdn
      have hFA : Fr nothing wr (wr.alloc (eo r)) := (Fr.refl _ _).alloc _
      have hok2 : ExOk (wr.alloc (eo r)) (ap T' (wr.alloc (eo r))) r x := ex_stays _ _ nothing _ _ _ _ (ex_stays _ _ T _ _ _ _ hok hFj (fun k hk => hk.1) (ap_next hFj hTj)) hFA (fun _ _ => id) (fun k hk => ⟨hk.1, Nat.lt_of_lt_of_le hk.2 hFA.size⟩)
      have HIH := hide (ih x hxm c G T' sj r (b + j) (wr.alloc (eo r)) (hKj.new hFA) hok2 (by rw [hnm]; exact exsU_mem HU.out x hxm) (by omega) (by omega) (by omega))
      have HNEXT := hide (fun w2 (h : KP c G T' (wr.alloc (eo r)) (stepX G sj x (b + j)) w2) => h.after ((hFj.trans (hFA.mono (fun _ _ e => e.elim)))) (fun k hk => hTj k hk))
      have HEQ := hide hEq
      have hlen := exK_len G sj.E x sj.ws
      have hwsl := exK_ws G sj.E x sj.ws
      have eb : IntKind.i64.wrap ((b : Nat) + (j : Nat)) = ((b + j : Nat) : Int) := by rw [wrap_in _ (by omega) (by omega)]; omega
      clear hR hKj hFj hEq hFA hok hok2 hr hx hTj
      obtain ⟨rk, rn, rt, rs4⟩ := r
      simp only at p0 p1 p2 p3
      go_wp2_with (go_at_call 66; first | (refine HIH.out.mono ?_; rintro e w2 ⟨rfl, hk2⟩; have HK2 := hide (HNEXT.out _ hk2); clear hk2))
      go_roundw
      case rel =>
        obtain ⟨T2, k1, k2, k3⟩ := HK2.out
        refine ⟨j + 1, by omega, by go_num, stepX G sj x (b + j), T2, k1, k2, k3, HEQ.out, hnm, ?_, ?_⟩
        · show (sj.ins ++ (exK G sj.E x sj.ws).ins).length + _ ≤ _
          rw [List.length_append]; omega
        · show (exK G sj.E x sj.ws).ws.length + _ ≤ _
          omega
      case measure => simp [intOf]; omega
    · have hje : j = a.length := by omega
      obtain ⟨sj, T', hKj, hFj, hTj, hEq, hnm, hIj, hWj⟩ := hR.out
      rw [hje, List.drop_length, finX_nil] at hEq
      have HEND := hide (show KP c G T w (finX G s a b) wr from ⟨T', hEq ▸ hKj, hFj, hTj⟩)
      clear hR hKj hFj hTj hEq hnm hje
      go_wp2
      go_end0
      exact ⟨rfl, HEND.out⟩
end Go.Proofs.YtkmdamljhagogaaDoor
end
section
/- Package code: an expression. -/
set_option maxHeartbeats 0
set_option maxRecDepth 100000
namespace Go.Proofs.YtkmdamljhagogaaDoor
open Go Go.RowKit
/-- The order in which package code makes an expression comes to the same. -/
theorem step_mk (G : Bs → Int) (s : Ks) (k n : Int) (t : Bs) (a : List Ex) (b : Nat) (ha : k = 1 ∨ k = 2 ∨ k = 3 ∨ k = 9 → a = []) :
    stepX G s (.mk k n t a) b = { finX G { s with ws := lastW k t s.ws } a b with ins := (finX G { s with ws := lastW k t s.ws } a b).ins ++ [lastI G s.E k n t a.length s.ws], hi := max (finX G { s with ws := lastW k t s.ws } a b).hi (b + 1) } := by
  unfold stepX finX
  rw [exK_mk]
  simp only [hi_mk _ _ k n t a]
  by_cases h2 : k = 2
  · rw [ha (by omega)]
    simp [exsK_nil]
  · have hw : ∀ ws, lastW k t ws = ws := fun ws => by unfold lastW; rw [if_neg h2]
    have hi : ∀ ws ws', lastI G s.E k n t a.length ws = lastI G s.E k n t a.length ws' := fun ws ws' => by unfold lastI; simp [h2]
    simp only [hw]
    rw [hi (exsK G s.E a s.ws).ws s.ws]
    simp
theorem KI.row2 {c : Wk} {G : Bs → Int} {T : Nat → Prop} {s : Ks} {w : World} (h : KI c G T s w) : ∃ (sa : Option Addr) (sc : Nat), w.cell? ⟨c.wb, 5, none⟩ = some (.slice sa s.ins.length sc) ∧ w.ownsRow c.base 45 3 (.slice sa s.ins.length sc) s.ins.length (s.ins.flatMap encI) ∧ ∀ b, (Value.slice sa s.ins.length sc).ownBlock = some b → T b ∧ b ≠ c.wb := by
  obtain ⟨sa, sc, h1, h2, h3⟩ := h.row
  obtain ⟨sl, sw, r1, _, _, _, r5, _⟩ := h.rows
  have e : sl.v = .slice sa s.ins.length sc := by rw [r1] at h1; exact Option.some.inj h1
  rw [e] at r5
  exact ⟨sa, sc, h1, h2, fun b hb => ⟨(r5 b hb).1, h3 b hb⟩⟩
theorem wexpr_step (k n : Int) (t : Bs) (a : List Ex) (iha : WExs a) (hat : k = 1 ∨ k = 2 ∨ k = 3 ∨ k = 9 → a = []) (ht : t.length ≤ 1500) : WEx (.mk k n t a) := by
  intro c G T s r b w hK hX hU hI hW hB
  obtain ⟨rk, rn, rt, rsl⟩ := r
  cases hX with
  | mk _ _ _ _ rs _ hS hP hl hE =>
  rw [exU] at hU
  rw [exN] at hI hW hB
  have hsn := (sl_len hS).1
  have hsm := (sl_len hS).2
  have hFA : Fr nothing w (w.alloc (eo ⟨k, n, t, rsl⟩)) := (Fr.refl _ _).alloc _
  have HLA := hide (last_any c G T s (w.alloc (eo ⟨k, n, t, rsl⟩)) (hK.new hFA) k n t rsl a ht (by omega) hU.1 hat (by rw [hsn, hl]) (by omega))
  have hlw : (lastW k t s.ws).length ≤ s.ws.length + 1 := by unfold lastW; split; exact wput_le _ _; omega
  have HEQ := hide (step_mk G s k n t a b hat)
  have HARG := hide (fun (T2 : Nat → Prop) (w3 : World) (q : Slc) (hf : Fr T w w3) (h3 : ∀ k, T2 k → T k ∨ w.heap.size ≤ k) (hq : q = rsl ∨ (q = nilS ∧ a = [])) => (show ∃ rs', Sl encE 4 w3 q.v rs' ∧ (∀ k, q.v.ownBlock = some k → ap T2 w3 k) ∧ Each (ExOk w3 (ap T2 w3)) rs' a from by
    rcases hq with rfl | ⟨rfl, rfl⟩
    · exact ⟨rs, hS.keep hf hP (fun k hk => hk.1), fun k hk => ap_next hf h3 k (hP k hk), hl, fun i r x hr hx => ex_stays _ _ T _ _ _ _ (hE i r x hr hx) hf (fun k hk => hk.1) (ap_next hf h3)⟩
    · exact ⟨[], ⟨none, 0, rfl, by unfold maxLen; simp, fun i x h => by simp at h⟩, fun k hk => (by cases hk), rfl, fun i r x h => by simp at h⟩))
  have HK := hide hK
  have HU := hide hU
  obtain ⟨j0, hj0, hy0, hy1, hy2⟩ := info_parts sizeIn
  have hbb : (b : Nat) ≤ 100000 := by omega
  clear hK hU hS hP hl hE hsn hsm
  go_enter Tryd.func66, Tryd.ntmps66
  go_wp2_with (first
    | (go_at_call 60; refine HXS.out.mono ?_; rintro e w4 ⟨rfl, hk4⟩; have HK4 := hide hk4; clear hk4)
    | (go_at_call 74; refine HLA.out.mono ?_; rintro e w2 ⟨q, rfl, hk2, hq⟩; obtain ⟨T2, k1, k2, k3⟩ := hk2; have F2 : Fr T w w2 := (hFA.mono (fun _ _ e => e.elim)).trans k2; have T2n : ∀ k, T2 k → T k ∨ w.heap.size ≤ k := (fun k hk => (k3 k hk).imp id (fun h => Nat.le_trans hFA.size h)); have F3 : Fr T w (w2.alloc (.cells #[.int .i64 (lastI G s.E k n t a.length s.ws).op, .int .i64 (lastI G s.E k n t a.length s.ws).a, .int .i64 (lastI G s.E k n t a.length s.ws).b] 45)) := F2.alloc _; obtain ⟨rs', hS', hP', hE'⟩ := HARG.out T2 _ q F3 T2n hq; have k1' := k1.new ((Fr.refl nothing w2).alloc (.cells #[.int .i64 (lastI G s.E k n t a.length s.ws).op, .int .i64 (lastI G s.E k n t a.length s.ws).a, .int .i64 (lastI G s.E k n t a.length s.ws).b] 45)); have HXS := hide (iha c G T2 _ q rs' b _ k1' hS' hP' hE' HU.out.2.2 (by show s.ins.length + _ ≤ _; omega) (by show (lastW k t s.ws).length + _ ≤ _; omega) (by omega)); have HF3 := hide F3; have HT2 := hide T2n; have HXL := hide (fun k hk => k1.tl k hk); have HIC := hide (made_cells (Fr.refl nothing (w2.alloc (.cells #[.int .i64 (lastI G s.E k n t a.length s.ws).op, .int .i64 (lastI G s.E k n t a.length s.ws).a, .int .i64 (lastI G s.E k n t a.length s.ws).b] 45))) id); clear k1 k2 k3 F2 T2n F3 hS' hP' hE' k1' hq))
  generalize hx : lastI G s.E k n t a.length s.ws = x at *
  generalize hs1 : finX G { s with ws := lastW k t s.ws } a b = s1 at *
  obtain ⟨T4, k4, f4, t4⟩ := HK4.out
  have hxb : ¬ T2 w2.heap.size := fun e => by have := HXL.out _ e; omega
  have hic := HIC.out
  have x0 := (f4.cell (p := ⟨w2.heap.size, 0, none⟩) hic.2.2 hxb).trans (hic.1 0)
  have x1 := (f4.cell (p := ⟨w2.heap.size, 1, none⟩) hic.2.2 hxb).trans (hic.1 1)
  have x2 := (f4.cell (p := ⟨w2.heap.size, 2, none⟩) hic.2.2 hxb).trans (hic.1 2)
  have xl := Nat.lt_of_lt_of_le hic.2.2 f4.size
  have HALL := hide (fun s' w' (h : KP c G T4 w4 s' w') => (h.after f4 t4).after HF3.out HT2.out)
  obtain ⟨sa, sc, h5, own, hbw⟩ := k4.row2
  have hx4 : ¬ T4 w2.heap.size := fun e => (t4 _ e).elim hxb (fun h => by have := hic.2.2; omega)
  have hwl := k4.wl
  have hz := k4.fz 5
  have hbl := k4.bl
  have hil : s1.ins.length ≤ 200000 := by
    rw [← hs1]
    show (s.ins ++ (exsK G s.E a (lastW k t s.ws)).ins).length ≤ _
    rw [List.length_append, exsK_len]; omega
  have hxs : w2.heap.size < w4.heap.size := xl
  have HO := hide own
  have HBW := hide hbw
  have HK5 := hide k4
  clear k4 f4 t4 hic own hbw HK4 HXS HIC
  refine wp_region_T (S := fun w' => w'.cell? ⟨c.wb, 5, none⟩ = some (.slice sa s1.ins.length sc) ∧ w'.cell? ⟨w2.heap.size, 0, none⟩ = some (.int .i64 x.op) ∧ w'.cell? ⟨w2.heap.size, 1, none⟩ = some (.int .i64 x.a) ∧ w'.cell? ⟨w2.heap.size, 2, none⟩ = some (.int .i64 x.b)) (by kernel_rfl) [10] ?_ (fun hHeld => ?_)
  · exact ⟨h5, x0, x1, x2⟩
  refine wpAnyT_take (i := 0) (oi := { dst := some 18, op := Op.move (Operand.tmp 0), type := 72, pos := "writer.go:96", after := #[], guard := none }) (v := ?v1) rfl (by kernel_rfl) (by kernel_rfl) (by kernel_rfl) (by kernel_rfl) (by kernel_rfl) (fun _ _ _ h => h) (Or.inl ⟨by rfl, ?hy1⟩) (by assumption) ?rest1
  case hy1 => (intro w hSw; (try dsimp only at hSw); obtain ⟨hS1, hS2, hS3, hS4⟩ := hSw; go_simp; try with_reducible rfl)
  try simp only [Act.put, List.setIfInBounds_toArray, List.set_cons_zero, List.set_cons_succ]
  refine wpAnyT_take (i := 1) (oi := { dst := some 19, op := Op.move (Operand.tmp 0), type := 72, pos := "writer.go:96", after := #[], guard := none }) (v := ?v2) rfl (by kernel_rfl) (by kernel_rfl) (by kernel_rfl) (by kernel_rfl) (by kernel_rfl) (fun _ _ _ h => h) (Or.inl ⟨by rfl, ?hy2⟩) (by assumption) ?rest2
  case hy2 => (intro w hSw; (try dsimp only at hSw); obtain ⟨hS1, hS2, hS3, hS4⟩ := hSw; go_simp; try with_reducible rfl)
  try simp only [Act.put, List.setIfInBounds_toArray, List.set_cons_zero, List.set_cons_succ]
  refine wpAnyT_take (i := 2) (oi := { dst := some 20, op := Op.nilCheck (Operand.tmp 19), type := 0, pos := "writer.go:96", after := #[{ on := 1, ground := Ground.data }], guard := none }) (v := ?v3) rfl (by kernel_rfl) (by kernel_rfl) (by kernel_rfl) (by kernel_rfl) (by kernel_rfl) (fun _ _ _ h => h) (Or.inl ⟨by rfl, ?hy3⟩) (by assumption) ?rest3
  case hy3 => (intro w hSw; (try dsimp only at hSw); obtain ⟨hS1, hS2, hS3, hS4⟩ := hSw; go_simp; try with_reducible rfl)
  try simp only [Act.put, List.setIfInBounds_toArray, List.set_cons_zero, List.set_cons_succ]
  refine wpAnyT_take (i := 3) (oi := { dst := some 21, op := Op.fieldAddr 74 (Operand.tmp 20) 5, type := 0, pos := "writer.go:96", after := #[{ on := 2, ground := Ground.data }], guard := none }) (v := ?v4) rfl (by kernel_rfl) (by kernel_rfl) (by kernel_rfl) (by kernel_rfl) (by kernel_rfl) (fun _ _ _ h => h) (Or.inl ⟨by rfl, ?hy4⟩) (by assumption) ?rest4
  case hy4 => (intro w hSw; (try dsimp only at hSw); obtain ⟨hS1, hS2, hS3, hS4⟩ := hSw; go_simp; try with_reducible rfl)
  try simp only [Act.put, List.setIfInBounds_toArray, List.set_cons_zero, List.set_cons_succ]
  refine wpAnyT_take (i := 4) (oi := { dst := some 22, op := Op.load 38 (Operand.tmp 21), type := 38, pos := "writer.go:96", after := #[{ on := 3, ground := Ground.data }], guard := none }) (v := ?v5) rfl (by kernel_rfl) (by kernel_rfl) (by kernel_rfl) (by kernel_rfl) (by kernel_rfl) (fun _ _ _ h => h) (Or.inl ⟨by rfl, ?hy5⟩) (by assumption) ?rest5
  case hy5 => (intro w hSw; (try dsimp only at hSw); obtain ⟨hS1, hS2, hS3, hS4⟩ := hSw; go_simp; try with_reducible rfl)
  try simp only [Act.put, List.setIfInBounds_toArray, List.set_cons_zero, List.set_cons_succ]
  refine wpAnyT_take (i := 5) (oi := { dst := some 23, op := Op.load 45 (Operand.tmp 6), type := 45, pos := "writer.go:96", after := #[], guard := none }) (v := ?v6) rfl (by kernel_rfl) (by kernel_rfl) (by kernel_rfl) (by kernel_rfl) (by kernel_rfl) (fun _ _ _ h => h) (Or.inl ⟨by rfl, ?hy6⟩) (by assumption) ?rest6
  case hy6 => (intro w hSw; (try dsimp only at hSw); obtain ⟨hS1, hS2, hS3, hS4⟩ := hSw; go_simp; try with_reducible rfl)
  try simp only [Act.put, List.setIfInBounds_toArray, List.set_cons_zero, List.set_cons_succ]
  have FA : Fr nothing w4 (w4.alloc (.cells #[.int .i64 x.op, .int .i64 x.a, .int .i64 x.b] 45)).drew := ((Fr.refl nothing w4).alloc _).drew
  have sA : (w4.alloc (.cells #[.int .i64 x.op, .int .i64 x.a, .int .i64 x.b] 45)).drew.heap.size = w4.heap.size + 1 := by show (w4.alloc (.cells #[.int .i64 x.op, .int .i64 x.a, .int .i64 x.b] 45)).heap.size = _; simp
  have hHeldA := (And.intro ((FA.cell (p := ⟨c.wb, 5, none⟩) hwl id).trans h5) (And.intro ((FA.cell (p := ⟨w2.heap.size, 0, none⟩) hxs id).trans x0) (And.intro ((FA.cell (p := ⟨w2.heap.size, 1, none⟩) hxs id).trans x1) ((FA.cell (p := ⟨w2.heap.size, 2, none⟩) hxs id).trans x2))))
  refine wpAnyT_ready (rs := [6]) (by kernel_rfl) (by simp) ?_
  refine AllReadyT.cons (o := { dst := some 24, op := Op.buildSlice 38 1 #[(0, Operand.tmp 23)], type := 38, pos := "writer.go:96", after := #[{ on := 5, ground := Ground.data }], guard := none }) rfl (fun K hK => ?_) AllReadyT.nil
  go_simp
  refine hK.out _ _ hHeldA ?_
  clear hK K hHeld
  try simp only [Act.put, List.setIfInBounds_toArray, List.set_cons_zero, List.set_cons_succ]
  refine wpAnyT_ready (rs := [7]) (by kernel_rfl) (by simp) ?_
  refine AllReadyT.cons (o := { dst := some 25, op := Op.call { callee := Callee.builtin Builtin.append, args := #[Operand.tmp 22, Operand.tmp 24], argTypes := #[38, 38] }, type := 38, pos := "writer.go:96", after := #[{ on := 4, ground := Ground.data }, { on := 6, ground := Ground.data }], guard := none }) rfl (fun K hK => ?_) AllReadyT.nil
  refine step_append_lies _ (by rfl) (.tmp 22) (.tmp 24) 38 (by rfl) c.base 45 j0 _ 3 24 Tryd.underlying38 hj0 hy0 hy1 hy2 rfl (by decide) (.slice sa s1.ins.length sc) s1.ins.length _ (by simp [Act.eval]) (owns_fr HO.out FA (fun _ _ => id)) ⟨w4.heap.size, 0, none⟩ 1 1 [.int .i64 x.op, .int .i64 x.a, .int .i64 x.b] (by simp [Act.eval]) rfl (World.news_of_block (cs := #[.int .i64 x.op, .int .i64 x.a, .int .i64 x.b]) (t := 45) (fr := (0, 0)) (heap_new w4 _)) (by simp [Value.oneCell']) (by decide) (by unfold maxLen; omega) (by omega) (by omega) _ rfl ?_
  intro g cp w8 hr8 hg8 hat8 hlt8
  have F8 : Fr (fun k => (Value.slice sa s1.ins.length sc).ownBlock = some k) w4 w8 := (FA.mono (fun _ _ e => e.elim)).grown hg8 (fun k hk => .inl hk)
  have y5 := (F8.cell (p := ⟨c.wb, 5, none⟩) hwl (fun e => (HBW.out _ e).2 rfl)).trans h5
  have yf := (F8.frozen (p := ⟨c.wb, 5, none⟩) hwl (fun e => (HBW.out _ e).2 rfl)).trans hz
  have yl := Nat.lt_of_lt_of_le hwl F8.size
  have nx : ∀ k, (Value.slice sa s1.ins.length sc).ownBlock = some k → ¬ k = w2.heap.size := fun k hk e => hx4 (e ▸ (HBW.out k hk).1)
  have hHeld8 := (And.intro y5 (And.intro ((F8.cell (p := ⟨w2.heap.size, 0, none⟩) hxs (fun e => nx _ e rfl)).trans x0) (And.intro ((F8.cell (p := ⟨w2.heap.size, 1, none⟩) hxs (fun e => nx _ e rfl)).trans x1) ((F8.cell (p := ⟨w2.heap.size, 2, none⟩) hxs (fun e => nx _ e rfl)).trans x2))))
  have HP8 := hide (HK5.out.push (x := x) (sl := ⟨sa, s1.ins.length, sc⟩) h5 hr8 F8 (hat8.imp id (fun e => by rw [e, sA]; omega)))
  clear hr8 hg8 F8 hat8
  refine hK.out _ _ hHeld8 ?_
  clear hK K hHeldA
  try simp only [Act.put, List.setIfInBounds_toArray, List.set_cons_zero, List.set_cons_succ]
  refine wpAnyT_ready (rs := [8]) (by kernel_rfl) (by simp) ?_
  refine AllReadyT.cons (o := { dst := some 26, op := Op.nilCheck (Operand.tmp 18), type := 0, pos := "writer.go:96", after := #[{ on := 0, ground := Ground.data }, { on := 0, ground := Ground.phase }, { on := 1, ground := Ground.phase }, { on := 2, ground := Ground.phase }, { on := 3, ground := Ground.phase }, { on := 4, ground := Ground.phase }, { on := 5, ground := Ground.phase }, { on := 6, ground := Ground.phase }, { on := 7, ground := Ground.phase }], guard := none }) rfl (fun K hK => ?_) AllReadyT.nil
  go_simp
  refine hK.out _ _ hHeld8 ?_
  clear hK K
  try simp only [Act.put, List.setIfInBounds_toArray, List.set_cons_zero, List.set_cons_succ]
  refine wpAnyT_take (i := 9) (oi := { dst := some 27, op := Op.fieldAddr 74 (Operand.tmp 26) 5, type := 0, pos := "writer.go:96", after := #[{ on := 8, ground := Ground.data }, { on := 0, ground := Ground.phase }, { on := 1, ground := Ground.phase }, { on := 2, ground := Ground.phase }, { on := 3, ground := Ground.phase }, { on := 4, ground := Ground.phase }, { on := 5, ground := Ground.phase }, { on := 6, ground := Ground.phase }, { on := 7, ground := Ground.phase }], guard := none }) (v := ?v7) rfl (by kernel_rfl) (by kernel_rfl) (by kernel_rfl) (by kernel_rfl) (by kernel_rfl) (fun _ _ _ h => h) (Or.inl ⟨by rfl, ?hy7⟩) (by assumption) ?rest7
  case hy7 => (intro w hSw; (try dsimp only at hSw); obtain ⟨hS1, hS2, hS3, hS4⟩ := hSw; go_simp; try with_reducible rfl)
  try simp only [Act.put, List.setIfInBounds_toArray, List.set_cons_zero, List.set_cons_succ]
  refine wpAnyT_ready (rs := [10]) (by kernel_rfl) (by simp) ?_
  refine AllReadyT.last (o := { dst := none, op := Op.store 38 (Operand.tmp 27) (Operand.tmp 25), type := 0, pos := "writer.go:96", after := #[{ on := 9, ground := Ground.data }, { on := 7, ground := Ground.data }, { on := 7, ground := Ground.chain }, { on := 0, ground := Ground.phase }, { on := 1, ground := Ground.phase }, { on := 2, ground := Ground.phase }, { on := 3, ground := Ground.phase }, { on := 4, ground := Ground.phase }, { on := 5, ground := Ground.phase }, { on := 6, ground := Ground.phase }, { on := 7, ground := Ground.phase }], guard := none }) rfl (by kernel_rfl) (fun K hK => ?_) AllReadyT.nil
  go_simp
  refine hK.out _ _ ?_
  clear hK K
  try simp only [Act.put, List.setIfInBounds_toArray, List.set_cons_zero, List.set_cons_succ]
  refine wpAny_done (by kernel_rfl) ?_ _
  obtain ⟨T6, k6, f6, t6⟩ := HP8.out
  generalize w8.setCell ⟨c.wb, 5, none⟩ (.slice (some ⟨g, 0, none⟩) (s1.ins.length + 1) cp) = w6 at *
  have c4 := k6.c4
  have hz4 := k6.fz 4
  have hwl6 := k6.wl
  have HHI := hide (k6.high (max s1.hi (b + 1)))
  have HF6 := hide f6
  have HT6 := hide t6
  simp only at c4
  clear HP8 k6 f6 t6 hHeld8 y5 yf yl
  go_wp2_with fail
  go_end0
  have hmx : max ((s1.hi : Nat) : Int) (((b : Nat) : Int) + 1) = ((max s1.hi (b + 1) : Nat) : Int) := by omega
  rw [hmx]
  refine ⟨rfl, ?_⟩
  rw [HEQ.out]
  refine HALL.out _ _ ⟨T6, HHI.out, HF6.out.then ((Fr.refl (fun k => k = c.wb) w6).setCell (p := ⟨c.wb, 4, none⟩) (.inl rfl) _) (fun k _ e => by subst e; exact HK5.out.tt.1), HT6.out⟩
theorem wexpr_any : ∀ (x : Ex), ExSh x → WEx x
  | .mk k n t a, h => by
    cases h with
    | mk h1 h2 h3 => exact wexpr_step k n t a (wexprs_any a (fun x hx => wexpr_any x (h3 x hx))) h1 h2
end Go.Proofs.YtkmdamljhagogaaDoor
end
