/- ClosE; ClosS; Expr0. -/
import Derived.Test.YtkmdamljhagogaaDoorPartR4
section
/- An expression's parts, gathered one by one. -/
namespace Go.Proofs.YtkmdamljhagogaaDoor
open Go.RowKit

def XPost {ρ α : Type} (vv : ρ → Value) (ok : World → (Nat → Prop) → ρ → α → Prop) (rb : Nat) (w : World) (res : Rd α) (e : Ending) (w' : World) : Prop :=
  ∃ r : ρ, e = .returned (vv r) ∧ Fr (at_ rb) w w' ∧ Pr rb res.l res.z w' ∧ ok w' (fun k => w.heap.size ≤ k ∧ k < w'.heap.size) r res.v
theorem sizeEx : (Tryd.prog.info? 93).map (fun i => (i.zero, i.size, i.bytes)) = some (some (.agg #[.int .i64 0, .int .i64 0, .string ⟨#[]⟩, .slice none 0 0]), 4, 56) := by kernel_rfl
--WALK
set_option maxHeartbeats 1000000 in
set_option maxRecDepth 20000 in
theorem clE (w0 : World) (rb : Nat) (w1 : World) (bp bd bx : Nat) (deep : Int) (one : Reader Ex) (acc : List Ex) (l : Bs) (w : World)
    (hone : ∀ l w, Pw w0 rb l 0 w → Calls Tryd.prog 51 #[.pointer (some ⟨rb, 0, none⟩), .int .i64 (deep + 1)] w (XPost ev ExOk rb w (one l 0)))
    (hless : Less one) (hsmall : Small one) (hd0 : 0 ≤ deep) (hd1 : deep ≤ 100)
    (hcp : w1.cell? ⟨bp, 0, none⟩ = some (.pointer (some ⟨rb, 0, none⟩))) (hcd : w1.cell? ⟨bd, 0, none⟩ = some (.int .i64 deep)) (hbx : bx < w1.heap.size) (hrb : rb < w1.heap.size)
    (hne : bp ≠ rb ∧ bp ≠ bx ∧ bd ≠ rb ∧ bd ≠ bx ∧ bx ≠ rb) (hw0 : w0.heap.size ≤ bx ∧ w0.heap.size ≤ w1.heap.size) (hfz : w1.frozen? ⟨bx, 3, none⟩ = false)
    (hJ : JL w0 rb 93 4 encE ExOk w1 bx 3 acc l 0 w) :
    Calls Tryd.prog 58 #[.pointer (some ⟨bx, 0, none⟩), .pointer (some ⟨bp, 0, none⟩), .pointer (some ⟨bd, 0, none⟩)] w fun e w' => e = .returned (.tuple #[]) ∧ JL w0 rb 93 4 encE ExOk w1 bx 3 (acc ++ [(one l 0).v]) (one l 0).l (one l 0).z w' := by
  obtain ⟨⟨va, vn, vc⟩, hx3, hrow⟩ := hJ.row
  obtain rfl : vn = acc.length := by
    obtain ⟨a, c, h⟩ := hrow.shape
    cases h; rfl
  have hlbp : bp < w1.heap.size := lt_of_cell hcp
  have hlbd : bd < w1.heap.size := lt_of_cell hcd
  have a1 : w.cell? ⟨bp, 0, none⟩ = some (.pointer (some ⟨rb, 0, none⟩)) := (hJ.fr.cell (p := ⟨bp, 0, none⟩) hlbp (by show ¬ (bp = rb ∨ bp = bx); omega)).trans hcp
  have a2 : w.cell? ⟨bd, 0, none⟩ = some (.int .i64 deep) := (hJ.fr.cell (p := ⟨bd, 0, none⟩) hlbd (by show ¬ (bd = rb ∨ bd = bx); omega)).trans hcd
  have hsz1 := hJ.fr.size
  have l1 : bp < w.heap.size := by omega
  have l2 : bd < w.heap.size := by omega
  have l3 : bx < w.heap.size := by omega
  have fx : w.frozen? ⟨bx, 3, none⟩ = false := (hJ.fz 3).trans hfz
  have hacc : acc.length ≤ 1500 := by have := hJ.le rfl; omega
  have HC : Hid (∀ w', Fr nothing w w' → Calls Tryd.prog 51 #[.pointer (some ⟨rb, 0, none⟩), .int .i64 (deep + 1)] w' (XPost ev ExOk rb w' (one l 0))) := fun w' hf => hone l w' (hJ.pw.fr hf id (fun k e => e.elim))
  have HJ := hide hJ
  have HR := hide hrow
  have HL : Hid ((one l 0).z = 0 → (one l 0).l.length < l.length) := hless l
  have HSM : Hid ((one l 0).l.length ≤ l.length) := hsmall l 0
  have i0 : (0 : Int) ≤ (acc.length : Int) := by omega
  have i1 : (acc.length : Int) < (acc.length : Int) + 1 := by omega
  have i2 : (acc.length : Int) < ((acc.length + 1 : Nat) : Int) := by omega
  clear hJ hone hcp hcd hrow hless hsmall
  have hwr : IntKind.i64.wrap (deep + 1) = deep + 1 := wrap_in _ (by omega) (by omega)
  obtain ⟨j0, hj0, hy0, hy1, hy2⟩ := info_parts sizeEx
  have frame : ∀ w', Fr (at_ rb) w w' → w'.cell? ⟨bx, 3, none⟩ = some (.slice va acc.length vc) ∧ w'.cell? ⟨bp, 0, none⟩ = some (.pointer (some ⟨rb, 0, none⟩)) ∧ w'.cell? ⟨bd, 0, none⟩ = some (.int .i64 deep) := fun w' hf =>
    ⟨(hf.cell (p := ⟨bx, 3, none⟩) l3 (by show ¬ bx = rb; omega)).trans hx3, (hf.cell (p := ⟨bp, 0, none⟩) l1 (by show ¬ bp = rb; omega)).trans a1, (hf.cell (p := ⟨bd, 0, none⟩) l2 (by show ¬ bd = rb; omega)).trans a2⟩
  have HFR := hide frame
  clear frame
  go_enter Tryd.func58, Tryd.ntmps58
  refine wp_region_T (S := fun w' => w'.cell? ⟨bx, 3, none⟩ = some (.slice va acc.length vc) ∧ w'.cell? ⟨bp, 0, none⟩ = some (.pointer (some ⟨rb, 0, none⟩)) ∧ w'.cell? ⟨bd, 0, none⟩ = some (.int .i64 deep)) (by kernel_rfl) [8] ?_ (fun hHeld => ?_)
  · exact ⟨hx3, a1, a2⟩
  refine wpAnyT_take (i := 0) (oi := { dst := some 3, op := Op.fieldAddr 93 (Operand.tmp 0) 3, type := 0, pos := "ref.go:415", after := #[], guard := none }) (v := ?v1) rfl (by kernel_rfl) (by kernel_rfl) (by kernel_rfl) (by kernel_rfl) (by kernel_rfl) (fun _ _ _ h => h) (Or.inl ⟨by rfl, ?hy1⟩) (by assumption) ?rest1
  case hy1 => (intro w hSw; (try dsimp only at hSw); obtain ⟨hS1, hS2, hS3⟩ := hSw; go_simp; try with_reducible rfl)
  try simp only [Act.put, List.setIfInBounds_toArray, List.set_cons_zero, List.set_cons_succ]
  refine wpAnyT_take (i := 1) (oi := { dst := some 4, op := Op.load 86 (Operand.tmp 3), type := 86, pos := "ref.go:415", after := #[{ on := 0, ground := Ground.data }], guard := none }) (v := ?v2) rfl (by kernel_rfl) (by kernel_rfl) (by kernel_rfl) (by kernel_rfl) (by kernel_rfl) (fun _ _ _ h => h) (Or.inl ⟨by rfl, ?hy2⟩) (by assumption) ?rest2
  case hy2 => (intro w hSw; (try dsimp only at hSw); obtain ⟨hS1, hS2, hS3⟩ := hSw; go_simp; try with_reducible rfl)
  try simp only [Act.put, List.setIfInBounds_toArray, List.set_cons_zero, List.set_cons_succ]
  refine wpAnyT_take (i := 2) (oi := { dst := some 5, op := Op.load 47 (Operand.tmp 1), type := 47, pos := "ref.go:415", after := #[], guard := none }) (v := ?v3) rfl (by kernel_rfl) (by kernel_rfl) (by kernel_rfl) (by kernel_rfl) (by kernel_rfl) (fun _ _ _ h => h) (Or.inl ⟨by rfl, ?hy3⟩) (by assumption) ?rest3
  case hy3 => (intro w hSw; (try dsimp only at hSw); obtain ⟨hS1, hS2, hS3⟩ := hSw; go_simp; try with_reducible rfl)
  try simp only [Act.put, List.setIfInBounds_toArray, List.set_cons_zero, List.set_cons_succ]
  refine wpAnyT_take (i := 3) (oi := { dst := some 6, op := Op.load 3 (Operand.tmp 2), type := 3, pos := "ref.go:415", after := #[], guard := none }) (v := ?v4) rfl (by kernel_rfl) (by kernel_rfl) (by kernel_rfl) (by kernel_rfl) (by kernel_rfl) (fun _ _ _ h => h) (Or.inl ⟨by rfl, ?hy4⟩) (by assumption) ?rest4
  case hy4 => (intro w hSw; (try dsimp only at hSw); obtain ⟨hS1, hS2, hS3⟩ := hSw; go_simp; try with_reducible rfl)
  try simp only [Act.put, List.setIfInBounds_toArray, List.set_cons_zero, List.set_cons_succ]
  refine wpAnyT_take (i := 4) (oi := { dst := some 7, op := Op.binOp BinOp.add 3 (Operand.tmp 6) (Operand.const (Value.int IntKind.i64 1)) 3, type := 3, pos := "ref.go:415", after := #[{ on := 3, ground := Ground.data }], guard := none }) (v := ?v5) rfl (by kernel_rfl) (by kernel_rfl) (by kernel_rfl) (by kernel_rfl) (by kernel_rfl) (fun _ _ _ h => h) (Or.inl ⟨by rfl, ?hy5⟩) (by assumption) ?rest5
  case hy5 => (intro w hSw; (try dsimp only at hSw); obtain ⟨hS1, hS2, hS3⟩ := hSw; go_simp; try with_reducible rfl)
  try simp only [Act.put, List.setIfInBounds_toArray, List.set_cons_zero, List.set_cons_succ]
  refine wpAnyT_take (i := 6) (oi := { dst := some 9, op := Op.call { callee := Callee.builtin Builtin.len, args := #[Operand.tmp 4], argTypes := #[86] }, type := 3, pos := "ref.go:415", after := #[{ on := 1, ground := Ground.data }], guard := none }) (v := ?v6) rfl (by kernel_rfl) (by kernel_rfl) (by kernel_rfl) (by kernel_rfl) (by kernel_rfl) (fun _ _ _ h => h) (Or.inl ⟨by rfl, ?hy6⟩) (by assumption) ?rest6
  case hy6 => (intro w hSw; (try dsimp only at hSw); obtain ⟨hS1, hS2, hS3⟩ := hSw; go_simp; try with_reducible rfl)
  try simp only [Act.put, List.setIfInBounds_toArray, List.set_cons_zero, List.set_cons_succ]
  refine wpAnyT_ready (rs := [5, 7]) (by kernel_rfl) (by simp) ?_
  refine AllReadyT.cons (o := { dst := some 8, op := Op.call { callee := Callee.value (Operand.func 51), args := #[Operand.tmp 5, Operand.tmp 7], argTypes := #[47, 3] }, type := 93, pos := "ref.go:415", after := #[{ on := 2, ground := Ground.data }, { on := 4, ground := Ground.data }], guard := none }) rfl (fun K hK => ?_) (AllReadyT.cons (o := { dst := some 10, op := Op.buildSlice 86 1 #[(0, Operand.const (Value.agg #[Value.int IntKind.i64 0, Value.int IntKind.i64 0, Value.string { data := #[] }, Value.slice none 0 0]))], type := 86, pos := "ref.go:415", after := #[], guard := none }) rfl (fun K hK => ?_) AllReadyT.nil)
  · refine step_call rfl 51 Tryd.f51 #[.tmp 5, .tmp 7] #[47, 3] rfl Tryd.func51 (by kernel_rfl) (by kernel_rfl) #[.pointer (some ⟨rb, 0, none⟩), .int .i64 (deep + 1)] (by simp [Act.eval]) _ (HC.out _ ((Fr.refl _ w).drew)) ?_
    rintro e w2 ⟨r, rfl, hF2, hP2, hx2⟩
    have F2 : Fr (at_ rb) w w2 := ((Fr.refl _ w).drew).trans hF2
    refine ⟨_, rfl, hK.out _ _ (HFR.out _ F2) ?_⟩
    clear hK K hHeld
    have hHeld := HFR.out _ F2
    try simp only [Act.put, List.setIfInBounds_toArray, List.set_cons_zero, List.set_cons_succ]
    refine wpAnyT_ready (rs := [7]) (by kernel_rfl) (by simp) ?_
    refine AllReadyT.cons (o := { dst := some 10, op := Op.buildSlice 86 1 #[(0, Operand.const (Value.agg #[Value.int IntKind.i64 0, Value.int IntKind.i64 0, Value.string { data := #[] }, Value.slice none 0 0]))], type := 86, pos := "ref.go:415", after := #[], guard := none }) rfl (fun K hK => ?_) AllReadyT.nil
    go_simp
    refine hK.out _ _ (HFR.out _ (F2.alloc _)) ?_
    clear hK K hHeld
    have hHeld := HFR.out _ (F2.alloc (.cells #[.int .i64 0, .int .i64 0, .string ⟨#[]⟩, .slice none 0 0] 93))
    try simp only [Act.put, List.setIfInBounds_toArray, List.set_cons_zero, List.set_cons_succ]
    have FA : Fr (at_ rb) w (w2.alloc (.cells #[.int .i64 0, .int .i64 0, .string ⟨#[]⟩, .slice none 0 0] 93)) := F2.alloc _
    have PA : Pr rb (one l 0).l (one l 0).z (w2.alloc (.cells #[.int .i64 0, .int .i64 0, .string ⟨#[]⟩, .slice none 0 0] 93)) := hP2.fr ((Fr.refl nothing w2).alloc _) id
    have XA : ExOk (w2.alloc (.cells #[.int .i64 0, .int .i64 0, .string ⟨#[]⟩, .slice none 0 0] 93)) (fun k => w.heap.size ≤ k ∧ k < (w2.alloc (.cells #[.int .i64 0, .int .i64 0, .string ⟨#[]⟩, .slice none 0 0] 93)).heap.size) r (one l 0).v := ex_stays _ _ nothing _ _ _ _ hx2 ((Fr.refl nothing w2).alloc _) (fun _ _ => id) (fun k hk => ⟨hk.1, by have := hk.2; simp; omega⟩)
    have NW : ∀ j u, ([.int .i64 0, .int .i64 0, .string ⟨#[]⟩, .slice none 0 0] : List Value)[j]? = some u → (w2.alloc (.cells #[.int .i64 0, .int .i64 0, .string ⟨#[]⟩, .slice none 0 0] 93)).cell? ((⟨w2.heap.size, 0, none⟩ : Addr).add j) = some u := World.news_of_block (cs := #[.int .i64 0, .int .i64 0, .string ⟨#[]⟩, .slice none 0 0]) (t := 93) (fr := (0, 0)) (heap_new _ _)
    have PW : Pw w0 rb (one l 0).l (one l 0).z (w2.alloc (.cells #[.int .i64 0, .int .i64 0, .string ⟨#[]⟩, .slice none 0 0] 93)) := HJ.out.pw.of PA HSM.out FA
    obtain ⟨rs, hown, hbase, heach⟩ := HR.out
    have hownA : (w2.alloc (.cells #[.int .i64 0, .int .i64 0, .string ⟨#[]⟩, .slice none 0 0] 93)).ownsRow w1.heap.size 93 4 (.slice va acc.length vc) acc.length (rs.flatMap encE) := owns_fr hown FA (fun k hk e => by have := (hown.lt k hk).1; have : k = rb := e; omega)
    have hbA : w1.heap.size ≤ (w2.alloc (.cells #[.int .i64 0, .int .i64 0, .string ⟨#[]⟩, .slice none 0 0] 93)).heap.size := Nat.le_trans hsz1 FA.size
    have OF := owns_far hownA (b := bx) hbx
    have gx : bx < (w2.alloc (.cells #[.int .i64 0, .int .i64 0, .string ⟨#[]⟩, .slice none 0 0] 93)).heap.size := by omega
    have fxA : (w2.alloc (.cells #[.int .i64 0, .int .i64 0, .string ⟨#[]⟩, .slice none 0 0] 93)).frozen? ⟨bx, 3, none⟩ = false := (FA.frozen (p := ⟨bx, 3, none⟩) l3 (by show ¬ bx = rb; omega)).trans fx
    have HOA := hide hownA
    have HPW := hide PW
    have HXA := hide XA
    have HFA := hide FA
    clear heach hown hownA PW XA FA PA
    refine wpAnyT_ready (rs := [8]) (by kernel_rfl) (by simp) ?_
    refine AllReadyT.last (o := { dst := some 11, op := Op.call { callee := Callee.builtin Builtin.append, args := #[Operand.tmp 4, Operand.tmp 10], argTypes := #[86, 86] }, type := 86, pos := "ref.go:415", after := #[{ on := 1, ground := Ground.data }, { on := 7, ground := Ground.data }, { on := 5, ground := Ground.chain }, { on := 0, ground := Ground.phase }, { on := 1, ground := Ground.phase }, { on := 2, ground := Ground.phase }, { on := 3, ground := Ground.phase }, { on := 4, ground := Ground.phase }, { on := 5, ground := Ground.phase }, { on := 6, ground := Ground.phase }, { on := 7, ground := Ground.phase }], guard := none }) rfl (by kernel_rfl) (fun K hK => ?_) AllReadyT.nil
    refine step_append_lies _ (by rfl) (.tmp 4) (.tmp 10) 86 (by rfl) w1.heap.size 93 j0 _ 4 56 Tryd.underlying86 hj0 hy0 hy1 hy2 rfl (by decide) (.slice va acc.length vc) acc.length _ (by simp [Act.eval]) HOA.out ⟨w2.heap.size, 0, none⟩ 1 1 [.int .i64 0, .int .i64 0, .string ⟨#[]⟩, .slice none 0 0] (by simp [Act.eval]) rfl NW (by simp [Value.oneCell']) (by decide) (by unfold maxLen; omega) (by omega) hbA _ rfl ?_
    intro g cp w6 hr6 hg6 hat6 hlt6
    have k3 : w6.cell? ⟨bx, 3, none⟩ = some (.slice va acc.length vc) := (hg6.cell_far ⟨bx, 3, none⟩ gx OF).trans hHeld.1
    have kz : w6.frozen? ⟨bx, 3, none⟩ = false := (hg6.frozen_far ⟨bx, 3, none⟩ gx OF).trans fxA
    have k6 : bx < w6.heap.size := by have := hg6.size; omega
    obtain ⟨⟨q0, q1, q2, q3⟩, y0, y1, y2, y3⟩ := new_cells4 hr6 HOA.out.1
    have gbx : ¬ g = bx := by
      rcases hat6 with h | h
      · intro e; subst e; exact OF h.symm
      · omega
    have gbx' : ¬ bx = g := fun e => gbx e.symm
    have HR6 := hide hr6
    have HG6 := hide hg6
    have HAT := hide hat6
    clear hr6 hg6 hat6 NW
    refine hK.out _ _ ?_
    clear hK K hHeld
    try simp only [Act.put, List.setIfInBounds_toArray, List.set_cons_zero, List.set_cons_succ]
    refine wpAny_take (i := 9) (oi := { dst := some 12, op := Op.indexAddr 86 (Operand.tmp 11) (Operand.tmp 9), type := 0, pos := "ref.go:415", after := #[{ on := 8, ground := Ground.data }, { on := 6, ground := Ground.data }, { on := 0, ground := Ground.phase }, { on := 1, ground := Ground.phase }, { on := 2, ground := Ground.phase }, { on := 3, ground := Ground.phase }, { on := 4, ground := Ground.phase }, { on := 5, ground := Ground.phase }, { on := 6, ground := Ground.phase }, { on := 7, ground := Ground.phase }, { on := 8, ground := Ground.phase }, { on := 12, ground := Ground.gcOnly Departure.appendInPlace }], guard := none }) (v := ?v7) rfl (by kernel_rfl) (by kernel_rfl) (by kernel_rfl) (fun _ _ _ h => h) (Or.inl ⟨by rfl, ?hy7⟩) ?rest7
    case hy7 => (intro w; go_simp; try with_reducible rfl)
    try simp only [Act.put, List.setIfInBounds_toArray, List.set_cons_zero, List.set_cons_succ]
    refine wpAny_take (i := 11) (oi := { dst := some 13, op := Op.fieldAddr 93 (Operand.tmp 0) 3, type := 0, pos := "ref.go:415", after := #[{ on := 0, ground := Ground.phase }, { on := 1, ground := Ground.phase }, { on := 2, ground := Ground.phase }, { on := 3, ground := Ground.phase }, { on := 4, ground := Ground.phase }, { on := 5, ground := Ground.phase }, { on := 6, ground := Ground.phase }, { on := 7, ground := Ground.phase }, { on := 8, ground := Ground.phase }, { on := 9, ground := Ground.textOnly Departure.appendInPlace }, { on := 10, ground := Ground.textOnly Departure.appendInPlace }], guard := none }) (v := ?v8) rfl (by kernel_rfl) (by kernel_rfl) (by kernel_rfl) (fun _ _ _ h => h) (Or.inl ⟨by rfl, ?hy8⟩) ?rest8
    case hy8 => (intro w; go_simp; try with_reducible rfl)
    try simp only [Act.put, List.setIfInBounds_toArray, List.set_cons_zero, List.set_cons_succ]
    refine wpAny_ready (rs := [10, 12]) (by kernel_rfl) (by simp) ?_
    refine AllReady.cons (o := { dst := none, op := Op.store 93 (Operand.tmp 12) (Operand.tmp 8), type := 0, pos := "ref.go:415", after := #[{ on := 9, ground := Ground.data }, { on := 5, ground := Ground.data }, { on := 8, ground := Ground.chain }, { on := 0, ground := Ground.phase }, { on := 1, ground := Ground.phase }, { on := 2, ground := Ground.phase }, { on := 3, ground := Ground.phase }, { on := 4, ground := Ground.phase }, { on := 5, ground := Ground.phase }, { on := 6, ground := Ground.phase }, { on := 7, ground := Ground.phase }, { on := 8, ground := Ground.phase }, { on := 12, ground := Ground.gcOnly Departure.appendInPlace }], guard := none }) rfl (fun K hK => ?_) (AllReady.cons (o := { dst := none, op := Op.store 86 (Operand.tmp 13) (Operand.tmp 11), type := 0, pos := "ref.go:415", after := #[{ on := 11, ground := Ground.data }, { on := 8, ground := Ground.data }, { on := 8, ground := Ground.chain }, { on := 10, ground := Ground.textOnly Departure.appendInPlace }, { on := 0, ground := Ground.phase }, { on := 1, ground := Ground.phase }, { on := 2, ground := Ground.phase }, { on := 3, ground := Ground.phase }, { on := 4, ground := Ground.phase }, { on := 5, ground := Ground.phase }, { on := 6, ground := Ground.phase }, { on := 7, ground := Ground.phase }, { on := 8, ground := Ground.phase }, { on := 9, ground := Ground.textOnly Departure.appendInPlace }, { on := 10, ground := Ground.textOnly Departure.appendInPlace }], guard := none }) rfl (fun K hK => ?_) AllReady.nil)
    · go_simp
      refine hK _ _ ?_
      clear hK K
      try simp only [Act.put, List.setIfInBounds_toArray, List.set_cons_zero, List.set_cons_succ]
      refine wpAny_ready (rs := [12]) (by kernel_rfl) (by simp) ?_
      refine AllReady.cons (o := { dst := none, op := Op.store 86 (Operand.tmp 13) (Operand.tmp 11), type := 0, pos := "ref.go:415", after := #[{ on := 11, ground := Ground.data }, { on := 8, ground := Ground.data }, { on := 8, ground := Ground.chain }, { on := 10, ground := Ground.textOnly Departure.appendInPlace }, { on := 0, ground := Ground.phase }, { on := 1, ground := Ground.phase }, { on := 2, ground := Ground.phase }, { on := 3, ground := Ground.phase }, { on := 4, ground := Ground.phase }, { on := 5, ground := Ground.phase }, { on := 6, ground := Ground.phase }, { on := 7, ground := Ground.phase }, { on := 8, ground := Ground.phase }, { on := 9, ground := Ground.textOnly Departure.appendInPlace }, { on := 10, ground := Ground.textOnly Departure.appendInPlace }], guard := none }) rfl (fun K hK => ?_) AllReady.nil
      go_simp
      refine hK _ _ ?_
      clear hK K
      try simp only [Act.put, List.setIfInBounds_toArray, List.set_cons_zero, List.set_cons_succ]
      refine wpAny_done (by kernel_rfl) ?_ _
      go_end0
      refine ⟨rfl, ?_⟩
      exact JL.push ex_stays encE_len hbx hrb hne.2.2.2.2 hw0 (us := [.int .i64 r.k, .int .i64 r.n, .string (bs r.t), .slice r.s.a r.s.n r.s.c]) HJ.out HR.out HFA.out HPW.out HXA.out HL.out HOA.out HR6.out HG6.out HAT.out (Nat.le_refl _) rfl rfl k3 (.inl rfl)
    · go_simp
      refine hK _ _ ?_
      clear hK K
      try simp only [Act.put, List.setIfInBounds_toArray, List.set_cons_zero, List.set_cons_succ]
      refine wpAny_ready (rs := [10]) (by kernel_rfl) (by simp) ?_
      refine AllReady.cons (o := { dst := none, op := Op.store 93 (Operand.tmp 12) (Operand.tmp 8), type := 0, pos := "ref.go:415", after := #[{ on := 9, ground := Ground.data }, { on := 5, ground := Ground.data }, { on := 8, ground := Ground.chain }, { on := 0, ground := Ground.phase }, { on := 1, ground := Ground.phase }, { on := 2, ground := Ground.phase }, { on := 3, ground := Ground.phase }, { on := 4, ground := Ground.phase }, { on := 5, ground := Ground.phase }, { on := 6, ground := Ground.phase }, { on := 7, ground := Ground.phase }, { on := 8, ground := Ground.phase }, { on := 12, ground := Ground.gcOnly Departure.appendInPlace }], guard := none }) rfl (fun K hK => ?_) AllReady.nil
      go_simp
      refine hK _ _ ?_
      clear hK K
      try simp only [Act.put, List.setIfInBounds_toArray, List.set_cons_zero, List.set_cons_succ]
      refine wpAny_done (by kernel_rfl) ?_ _
      go_end0
      refine ⟨rfl, ?_⟩
      exact JL.push ex_stays encE_len hbx hrb hne.2.2.2.2 hw0 (us := [.int .i64 r.k, .int .i64 r.n, .string (bs r.t), .slice r.s.a r.s.n r.s.c]) HJ.out HR.out HFA.out HPW.out HXA.out HL.out HOA.out HR6.out HG6.out HAT.out (Nat.le_refl _) rfl rfl k3 (.inr (.inl rfl))
  · go_simp
    refine hK.out _ _ (HFR.out _ ((Fr.refl _ w).drew.alloc _)) ?_
    clear hK K hHeld
    have F1 : Fr (at_ rb) w (w.drew.alloc (.cells #[.int .i64 0, .int .i64 0, .string ⟨#[]⟩, .slice none 0 0] 93)) := (Fr.refl _ w).drew.alloc _
    have hHeld := HFR.out _ F1
    try simp only [Act.put, List.setIfInBounds_toArray, List.set_cons_zero, List.set_cons_succ]
    refine wpAnyT_ready (rs := [5]) (by kernel_rfl) (by simp) ?_
    refine AllReadyT.cons (o := { dst := some 8, op := Op.call { callee := Callee.value (Operand.func 51), args := #[Operand.tmp 5, Operand.tmp 7], argTypes := #[47, 3] }, type := 93, pos := "ref.go:415", after := #[{ on := 2, ground := Ground.data }, { on := 4, ground := Ground.data }], guard := none }) rfl (fun K hK => ?_) AllReadyT.nil
    refine step_call rfl 51 Tryd.f51 #[.tmp 5, .tmp 7] #[47, 3] rfl Tryd.func51 (by kernel_rfl) (by kernel_rfl) #[.pointer (some ⟨rb, 0, none⟩), .int .i64 (deep + 1)] (by simp [Act.eval]) _ (HC.out _ ((Fr.refl _ w).drew.alloc _)) ?_
    rintro e w2 ⟨r, rfl, hF2, hP2, hx2⟩
    have FA : Fr (at_ rb) w w2 := F1.trans hF2
    refine ⟨_, rfl, hK.out _ _ (HFR.out _ FA) ?_⟩
    clear hK K hHeld
    have hHeld := HFR.out _ FA
    try simp only [Act.put, List.setIfInBounds_toArray, List.set_cons_zero, List.set_cons_succ]
    have PA : Pr rb (one l 0).l (one l 0).z w2 := hP2
    have XA : ExOk w2 (fun k => w.heap.size ≤ k ∧ k < w2.heap.size) r (one l 0).v := ex_stays _ _ nothing _ _ _ _ hx2 (Fr.refl nothing w2) (fun _ _ => id) (fun k hk => ⟨by have := hk.1; simp at this; omega, hk.2⟩)
    have NW : ∀ j u, ([.int .i64 0, .int .i64 0, .string ⟨#[]⟩, .slice none 0 0] : List Value)[j]? = some u → w2.cell? ((⟨w.heap.size, 0, none⟩ : Addr).add j) = some u := fun j u hu => by
      have h1 := World.news_of_block (cs := #[.int .i64 0, .int .i64 0, .string ⟨#[]⟩, .slice none 0 0]) (t := 93) (fr := (0, 0)) (heap_new w.drew _) j u hu
      rw [add_eq] at h1 ⊢
      exact (hF2.cell (p := ⟨w.heap.size, 0 + j, none⟩) (by show w.heap.size < _; simp) (by show ¬ w.heap.size = rb; omega)).trans h1
    have PW : Pw w0 rb (one l 0).l (one l 0).z w2 := HJ.out.pw.of PA HSM.out FA
    obtain ⟨rs, hown, hbase, heach⟩ := HR.out
    have hownA : w2.ownsRow w1.heap.size 93 4 (.slice va acc.length vc) acc.length (rs.flatMap encE) := owns_fr hown FA (fun k hk e => by have := (hown.lt k hk).1; have : k = rb := e; omega)
    have hbA : w1.heap.size ≤ w2.heap.size := Nat.le_trans hsz1 FA.size
    have OF := owns_far hownA (b := bx) hbx
    have gx : bx < w2.heap.size := by omega
    have fxA : w2.frozen? ⟨bx, 3, none⟩ = false := (FA.frozen (p := ⟨bx, 3, none⟩) l3 (by show ¬ bx = rb; omega)).trans fx
    have HOA := hide hownA
    have HPW := hide PW
    have HXA := hide XA
    have HFA := hide FA
    clear heach hown hownA PW XA FA PA
    refine wpAnyT_ready (rs := [8]) (by kernel_rfl) (by simp) ?_
    refine AllReadyT.last (o := { dst := some 11, op := Op.call { callee := Callee.builtin Builtin.append, args := #[Operand.tmp 4, Operand.tmp 10], argTypes := #[86, 86] }, type := 86, pos := "ref.go:415", after := #[{ on := 1, ground := Ground.data }, { on := 7, ground := Ground.data }, { on := 5, ground := Ground.chain }, { on := 0, ground := Ground.phase }, { on := 1, ground := Ground.phase }, { on := 2, ground := Ground.phase }, { on := 3, ground := Ground.phase }, { on := 4, ground := Ground.phase }, { on := 5, ground := Ground.phase }, { on := 6, ground := Ground.phase }, { on := 7, ground := Ground.phase }], guard := none }) rfl (by kernel_rfl) (fun K hK => ?_) AllReadyT.nil
    refine step_append_lies _ (by rfl) (.tmp 4) (.tmp 10) 86 (by rfl) w1.heap.size 93 j0 _ 4 56 Tryd.underlying86 hj0 hy0 hy1 hy2 rfl (by decide) (.slice va acc.length vc) acc.length _ (by simp [Act.eval]) HOA.out ⟨w.heap.size, 0, none⟩ 1 1 [.int .i64 0, .int .i64 0, .string ⟨#[]⟩, .slice none 0 0] (by simp [Act.eval]) rfl NW (by simp [Value.oneCell']) (by decide) (by unfold maxLen; omega) (by omega) hbA _ rfl ?_
    intro g cp w6 hr6 hg6 hat6 hlt6
    have k3 : w6.cell? ⟨bx, 3, none⟩ = some (.slice va acc.length vc) := (hg6.cell_far ⟨bx, 3, none⟩ gx OF).trans hHeld.1
    have kz : w6.frozen? ⟨bx, 3, none⟩ = false := (hg6.frozen_far ⟨bx, 3, none⟩ gx OF).trans fxA
    have k6 : bx < w6.heap.size := by have := hg6.size; omega
    obtain ⟨⟨q0, q1, q2, q3⟩, y0, y1, y2, y3⟩ := new_cells4 hr6 HOA.out.1
    have gbx : ¬ g = bx := by
      rcases hat6 with h | h
      · intro e; subst e; exact OF h.symm
      · omega
    have gbx' : ¬ bx = g := fun e => gbx e.symm
    have HR6 := hide hr6
    have HG6 := hide hg6
    have HAT := hide hat6
    clear hr6 hg6 hat6 NW
    refine hK.out _ _ ?_
    clear hK K hHeld
    try simp only [Act.put, List.setIfInBounds_toArray, List.set_cons_zero, List.set_cons_succ]
    refine wpAny_take (i := 9) (oi := { dst := some 12, op := Op.indexAddr 86 (Operand.tmp 11) (Operand.tmp 9), type := 0, pos := "ref.go:415", after := #[{ on := 8, ground := Ground.data }, { on := 6, ground := Ground.data }, { on := 0, ground := Ground.phase }, { on := 1, ground := Ground.phase }, { on := 2, ground := Ground.phase }, { on := 3, ground := Ground.phase }, { on := 4, ground := Ground.phase }, { on := 5, ground := Ground.phase }, { on := 6, ground := Ground.phase }, { on := 7, ground := Ground.phase }, { on := 8, ground := Ground.phase }, { on := 12, ground := Ground.gcOnly Departure.appendInPlace }], guard := none }) (v := ?v9) rfl (by kernel_rfl) (by kernel_rfl) (by kernel_rfl) (fun _ _ _ h => h) (Or.inl ⟨by rfl, ?hy9⟩) ?rest9
    case hy9 => (intro w; go_simp; try with_reducible rfl)
    try simp only [Act.put, List.setIfInBounds_toArray, List.set_cons_zero, List.set_cons_succ]
    refine wpAny_take (i := 11) (oi := { dst := some 13, op := Op.fieldAddr 93 (Operand.tmp 0) 3, type := 0, pos := "ref.go:415", after := #[{ on := 0, ground := Ground.phase }, { on := 1, ground := Ground.phase }, { on := 2, ground := Ground.phase }, { on := 3, ground := Ground.phase }, { on := 4, ground := Ground.phase }, { on := 5, ground := Ground.phase }, { on := 6, ground := Ground.phase }, { on := 7, ground := Ground.phase }, { on := 8, ground := Ground.phase }, { on := 9, ground := Ground.textOnly Departure.appendInPlace }, { on := 10, ground := Ground.textOnly Departure.appendInPlace }], guard := none }) (v := ?v10) rfl (by kernel_rfl) (by kernel_rfl) (by kernel_rfl) (fun _ _ _ h => h) (Or.inl ⟨by rfl, ?hy10⟩) ?rest10
    case hy10 => (intro w; go_simp; try with_reducible rfl)
    try simp only [Act.put, List.setIfInBounds_toArray, List.set_cons_zero, List.set_cons_succ]
    refine wpAny_ready (rs := [10, 12]) (by kernel_rfl) (by simp) ?_
    refine AllReady.cons (o := { dst := none, op := Op.store 93 (Operand.tmp 12) (Operand.tmp 8), type := 0, pos := "ref.go:415", after := #[{ on := 9, ground := Ground.data }, { on := 5, ground := Ground.data }, { on := 8, ground := Ground.chain }, { on := 0, ground := Ground.phase }, { on := 1, ground := Ground.phase }, { on := 2, ground := Ground.phase }, { on := 3, ground := Ground.phase }, { on := 4, ground := Ground.phase }, { on := 5, ground := Ground.phase }, { on := 6, ground := Ground.phase }, { on := 7, ground := Ground.phase }, { on := 8, ground := Ground.phase }, { on := 12, ground := Ground.gcOnly Departure.appendInPlace }], guard := none }) rfl (fun K hK => ?_) (AllReady.cons (o := { dst := none, op := Op.store 86 (Operand.tmp 13) (Operand.tmp 11), type := 0, pos := "ref.go:415", after := #[{ on := 11, ground := Ground.data }, { on := 8, ground := Ground.data }, { on := 8, ground := Ground.chain }, { on := 10, ground := Ground.textOnly Departure.appendInPlace }, { on := 0, ground := Ground.phase }, { on := 1, ground := Ground.phase }, { on := 2, ground := Ground.phase }, { on := 3, ground := Ground.phase }, { on := 4, ground := Ground.phase }, { on := 5, ground := Ground.phase }, { on := 6, ground := Ground.phase }, { on := 7, ground := Ground.phase }, { on := 8, ground := Ground.phase }, { on := 9, ground := Ground.textOnly Departure.appendInPlace }, { on := 10, ground := Ground.textOnly Departure.appendInPlace }], guard := none }) rfl (fun K hK => ?_) AllReady.nil)
    · go_simp
      refine hK _ _ ?_
      clear hK K
      try simp only [Act.put, List.setIfInBounds_toArray, List.set_cons_zero, List.set_cons_succ]
      refine wpAny_ready (rs := [12]) (by kernel_rfl) (by simp) ?_
      refine AllReady.cons (o := { dst := none, op := Op.store 86 (Operand.tmp 13) (Operand.tmp 11), type := 0, pos := "ref.go:415", after := #[{ on := 11, ground := Ground.data }, { on := 8, ground := Ground.data }, { on := 8, ground := Ground.chain }, { on := 10, ground := Ground.textOnly Departure.appendInPlace }, { on := 0, ground := Ground.phase }, { on := 1, ground := Ground.phase }, { on := 2, ground := Ground.phase }, { on := 3, ground := Ground.phase }, { on := 4, ground := Ground.phase }, { on := 5, ground := Ground.phase }, { on := 6, ground := Ground.phase }, { on := 7, ground := Ground.phase }, { on := 8, ground := Ground.phase }, { on := 9, ground := Ground.textOnly Departure.appendInPlace }, { on := 10, ground := Ground.textOnly Departure.appendInPlace }], guard := none }) rfl (fun K hK => ?_) AllReady.nil
      go_simp
      refine hK _ _ ?_
      clear hK K
      try simp only [Act.put, List.setIfInBounds_toArray, List.set_cons_zero, List.set_cons_succ]
      refine wpAny_done (by kernel_rfl) ?_ _
      go_end0
      refine ⟨rfl, ?_⟩
      exact JL.push ex_stays encE_len hbx hrb hne.2.2.2.2 hw0 (us := [.int .i64 r.k, .int .i64 r.n, .string (bs r.t), .slice r.s.a r.s.n r.s.c]) HJ.out HR.out HFA.out HPW.out HXA.out HL.out HOA.out HR6.out HG6.out HAT.out (Nat.le_refl _) rfl rfl k3 (.inl rfl)
    · go_simp
      refine hK _ _ ?_
      clear hK K
      try simp only [Act.put, List.setIfInBounds_toArray, List.set_cons_zero, List.set_cons_succ]
      refine wpAny_ready (rs := [10]) (by kernel_rfl) (by simp) ?_
      refine AllReady.cons (o := { dst := none, op := Op.store 93 (Operand.tmp 12) (Operand.tmp 8), type := 0, pos := "ref.go:415", after := #[{ on := 9, ground := Ground.data }, { on := 5, ground := Ground.data }, { on := 8, ground := Ground.chain }, { on := 0, ground := Ground.phase }, { on := 1, ground := Ground.phase }, { on := 2, ground := Ground.phase }, { on := 3, ground := Ground.phase }, { on := 4, ground := Ground.phase }, { on := 5, ground := Ground.phase }, { on := 6, ground := Ground.phase }, { on := 7, ground := Ground.phase }, { on := 8, ground := Ground.phase }, { on := 12, ground := Ground.gcOnly Departure.appendInPlace }], guard := none }) rfl (fun K hK => ?_) AllReady.nil
      go_simp
      refine hK _ _ ?_
      clear hK K
      try simp only [Act.put, List.setIfInBounds_toArray, List.set_cons_zero, List.set_cons_succ]
      refine wpAny_done (by kernel_rfl) ?_ _
      go_end0
      refine ⟨rfl, ?_⟩
      exact JL.push ex_stays encE_len hbx hrb hne.2.2.2.2 hw0 (us := [.int .i64 r.k, .int .i64 r.n, .string (bs r.t), .slice r.s.a r.s.n r.s.c]) HJ.out HR.out HFA.out HPW.out HXA.out HL.out HOA.out HR6.out HG6.out HAT.out (Nat.le_refl _) rfl rfl k3 (.inr (.inl rfl))
end Go.Proofs.YtkmdamljhagogaaDoor
end
section
/- Statements, gathered one by one. -/
namespace Go.Proofs.YtkmdamljhagogaaDoor
open Go.RowKit

theorem sizeSt : (Tryd.prog.info? 88).map (fun i => (i.zero, i.size, i.bytes)) = some (some (.agg #[.int .i64 0, .string ⟨#[]⟩, .slice none 0 0, .slice none 0 0, .slice none 0 0]), 5, 96) := by kernel_rfl
theorem new_cells5 {w : World} {base E n cap g : Nat} {xs : List Value} {a b c d f : Value} (h : w.ownsRow base E 5 (.slice (some ⟨g, 0, none⟩) (n + 1) cap) (n + 1) (xs ++ [a, b, c, d, f])) (hx : xs.length = n * 5) :
    (w.cell? ⟨g, n * 5, none⟩ = some a ∧ w.cell? ⟨g, n * 5 + 1, none⟩ = some b ∧ w.cell? ⟨g, n * 5 + 2, none⟩ = some c ∧ w.cell? ⟨g, n * 5 + 3, none⟩ = some d ∧ w.cell? ⟨g, n * 5 + 4, none⟩ = some f) ∧ w.frozen? ⟨g, n * 5, none⟩ = false ∧ w.frozen? ⟨g, n * 5 + 1, none⟩ = false ∧ w.frozen? ⟨g, n * 5 + 2, none⟩ = false ∧ w.frozen? ⟨g, n * 5 + 3, none⟩ = false ∧ w.frozen? ⟨g, n * 5 + 4, none⟩ = false := by
  refine ⟨⟨?_, ?_, ?_, ?_, ?_⟩, h.frozenAt _, h.frozenAt _, h.frozenAt _, h.frozenAt _, h.frozenAt _⟩
  · rw [h.cellAt _ (by omega)]; exact behind (j := 0) hx rfl
  · rw [h.cellAt _ (by omega)]; exact behind (j := 1) hx rfl
  · rw [h.cellAt _ (by omega)]; exact behind (j := 2) hx rfl
  · rw [h.cellAt _ (by omega)]; exact behind (j := 3) hx rfl
  · rw [h.cellAt _ (by omega)]; exact behind (j := 4) hx rfl
--WALK
set_option maxHeartbeats 1000000 in
set_option maxRecDepth 20000 in
theorem clS (w0 : World) (rb : Nat) (w1 : World) (bp bd bx : Nat) (deep : Int) (one : Reader St) (acc : List St) (l : Bs) (w : World)
    (hone : ∀ l w, Pw w0 rb l 0 w → Calls Tryd.prog 38 #[.pointer (some ⟨rb, 0, none⟩), .int .i64 (deep)] w (XPost sv StOk rb w (one l 0)))
    (hless : Less one) (hsmall : Small one) (hd0 : 0 ≤ deep) (hd1 : deep ≤ 100)
    (hcp : w1.cell? ⟨bp, 0, none⟩ = some (.pointer (some ⟨rb, 0, none⟩))) (hcd : w1.cell? ⟨bd, 0, none⟩ = some (.int .i64 deep)) (hbx : bx < w1.heap.size) (hrb : rb < w1.heap.size)
    (hne : bp ≠ rb ∧ bp ≠ bx ∧ bd ≠ rb ∧ bd ≠ bx ∧ bx ≠ rb) (hw0 : w0.heap.size ≤ bx ∧ w0.heap.size ≤ w1.heap.size) (hfz : w1.frozen? ⟨bx, 0, none⟩ = false)
    (hJ : JL w0 rb 88 5 encS StOk w1 bx 0 acc l 0 w) :
    Calls Tryd.prog 37 #[.pointer (some ⟨bx, 0, none⟩), .pointer (some ⟨bp, 0, none⟩), .pointer (some ⟨bd, 0, none⟩)] w fun e w' => e = .returned (.tuple #[]) ∧ JL w0 rb 88 5 encS StOk w1 bx 0 (acc ++ [(one l 0).v]) (one l 0).l (one l 0).z w' := by
  obtain ⟨⟨va, vn, vc⟩, hx3, hrow⟩ := hJ.row
  obtain rfl : vn = acc.length := by
    obtain ⟨a, c, h⟩ := hrow.shape
    cases h; rfl
  have hlbp : bp < w1.heap.size := lt_of_cell hcp
  have hlbd : bd < w1.heap.size := lt_of_cell hcd
  have a1 : w.cell? ⟨bp, 0, none⟩ = some (.pointer (some ⟨rb, 0, none⟩)) := (hJ.fr.cell (p := ⟨bp, 0, none⟩) hlbp (by show ¬ (bp = rb ∨ bp = bx); omega)).trans hcp
  have a2 : w.cell? ⟨bd, 0, none⟩ = some (.int .i64 deep) := (hJ.fr.cell (p := ⟨bd, 0, none⟩) hlbd (by show ¬ (bd = rb ∨ bd = bx); omega)).trans hcd
  have hsz1 := hJ.fr.size
  have l1 : bp < w.heap.size := by omega
  have l2 : bd < w.heap.size := by omega
  have l3 : bx < w.heap.size := by omega
  have fx : w.frozen? ⟨bx, 0, none⟩ = false := (hJ.fz 0).trans hfz
  have hacc : acc.length ≤ 1500 := by have := hJ.le rfl; omega
  have HC : Hid (∀ w', Fr nothing w w' → Calls Tryd.prog 38 #[.pointer (some ⟨rb, 0, none⟩), .int .i64 (deep)] w' (XPost sv StOk rb w' (one l 0))) := fun w' hf => hone l w' (hJ.pw.fr hf id (fun k e => e.elim))
  have HJ := hide hJ
  have HR := hide hrow
  have HL : Hid ((one l 0).z = 0 → (one l 0).l.length < l.length) := hless l
  have HSM : Hid ((one l 0).l.length ≤ l.length) := hsmall l 0
  have i0 : (0 : Int) ≤ (acc.length : Int) := by omega
  have i1 : (acc.length : Int) < (acc.length : Int) + 1 := by omega
  have i2 : (acc.length : Int) < ((acc.length + 1 : Nat) : Int) := by omega
  clear hJ hone hcp hcd hrow hless hsmall
  have hwr : IntKind.i64.wrap (deep + 1) = deep + 1 := wrap_in _ (by omega) (by omega)
  obtain ⟨j0, hj0, hy0, hy1, hy2⟩ := info_parts sizeSt
  have frame : ∀ w', Fr (at_ rb) w w' → w'.cell? ⟨bx, 0, none⟩ = some (.slice va acc.length vc) ∧ w'.cell? ⟨bp, 0, none⟩ = some (.pointer (some ⟨rb, 0, none⟩)) ∧ w'.cell? ⟨bd, 0, none⟩ = some (.int .i64 deep) := fun w' hf =>
    ⟨(hf.cell (p := ⟨bx, 0, none⟩) l3 (by show ¬ bx = rb; omega)).trans hx3, (hf.cell (p := ⟨bp, 0, none⟩) l1 (by show ¬ bp = rb; omega)).trans a1, (hf.cell (p := ⟨bd, 0, none⟩) l2 (by show ¬ bd = rb; omega)).trans a2⟩
  have HFR := hide frame
  clear frame
  go_enter Tryd.func37, Tryd.ntmps37
  refine wp_region_T (S := fun w' => w'.cell? ⟨bx, 0, none⟩ = some (.slice va acc.length vc) ∧ w'.cell? ⟨bp, 0, none⟩ = some (.pointer (some ⟨rb, 0, none⟩)) ∧ w'.cell? ⟨bd, 0, none⟩ = some (.int .i64 deep)) (by kernel_rfl) [6] ?_ (fun hHeld => ?_)
  · exact ⟨hx3, a1, a2⟩
  refine wpAnyT_take (i := 0) (oi := { dst := some 3, op := Op.load 41 (Operand.tmp 0), type := 41, pos := "ref.go:425", after := #[], guard := none }) (v := ?v1) rfl (by kernel_rfl) (by kernel_rfl) (by kernel_rfl) (by kernel_rfl) (by kernel_rfl) (fun _ _ _ h => h) (Or.inl ⟨by rfl, ?hy1⟩) (by assumption) ?rest1
  case hy1 => (intro w hSw; (try dsimp only at hSw); obtain ⟨hS1, hS2, hS3⟩ := hSw; go_simp; try with_reducible rfl)
  try simp only [Act.put, List.setIfInBounds_toArray, List.set_cons_zero, List.set_cons_succ]
  refine wpAnyT_take (i := 1) (oi := { dst := some 4, op := Op.load 47 (Operand.tmp 1), type := 47, pos := "ref.go:425", after := #[], guard := none }) (v := ?v2) rfl (by kernel_rfl) (by kernel_rfl) (by kernel_rfl) (by kernel_rfl) (by kernel_rfl) (fun _ _ _ h => h) (Or.inl ⟨by rfl, ?hy2⟩) (by assumption) ?rest2
  case hy2 => (intro w hSw; (try dsimp only at hSw); obtain ⟨hS1, hS2, hS3⟩ := hSw; go_simp; try with_reducible rfl)
  try simp only [Act.put, List.setIfInBounds_toArray, List.set_cons_zero, List.set_cons_succ]
  refine wpAnyT_take (i := 2) (oi := { dst := some 5, op := Op.load 3 (Operand.tmp 2), type := 3, pos := "ref.go:425", after := #[], guard := none }) (v := ?v3) rfl (by kernel_rfl) (by kernel_rfl) (by kernel_rfl) (by kernel_rfl) (by kernel_rfl) (fun _ _ _ h => h) (Or.inl ⟨by rfl, ?hy3⟩) (by assumption) ?rest3
  case hy3 => (intro w hSw; (try dsimp only at hSw); obtain ⟨hS1, hS2, hS3⟩ := hSw; go_simp; try with_reducible rfl)
  try simp only [Act.put, List.setIfInBounds_toArray, List.set_cons_zero, List.set_cons_succ]
  refine wpAnyT_take (i := 4) (oi := { dst := some 7, op := Op.call { callee := Callee.builtin Builtin.len, args := #[Operand.tmp 3], argTypes := #[41] }, type := 3, pos := "ref.go:425", after := #[{ on := 0, ground := Ground.data }], guard := none }) (v := ?v4) rfl (by kernel_rfl) (by kernel_rfl) (by kernel_rfl) (by kernel_rfl) (by kernel_rfl) (fun _ _ _ h => h) (Or.inl ⟨by rfl, ?hy4⟩) (by assumption) ?rest4
  case hy4 => (intro w hSw; (try dsimp only at hSw); obtain ⟨hS1, hS2, hS3⟩ := hSw; go_simp; try with_reducible rfl)
  try simp only [Act.put, List.setIfInBounds_toArray, List.set_cons_zero, List.set_cons_succ]
  refine wpAnyT_ready (rs := [3, 5]) (by kernel_rfl) (by simp) ?_
  refine AllReadyT.cons (o := { dst := some 6, op := Op.call { callee := Callee.value (Operand.func 38), args := #[Operand.tmp 4, Operand.tmp 5], argTypes := #[47, 3] }, type := 88, pos := "ref.go:425", after := #[{ on := 1, ground := Ground.data }, { on := 2, ground := Ground.data }], guard := none }) rfl (fun K hK => ?_) (AllReadyT.cons (o := { dst := some 8, op := Op.buildSlice 41 1 #[(0, Operand.const (Value.agg #[Value.int IntKind.i64 0, Value.string { data := #[] }, Value.slice none 0 0, Value.slice none 0 0, Value.slice none 0 0]))], type := 41, pos := "ref.go:425", after := #[], guard := none }) rfl (fun K hK => ?_) AllReadyT.nil)
  · refine step_call rfl 38 Tryd.f38 #[.tmp 4, .tmp 5] #[47, 3] rfl Tryd.func38 (by kernel_rfl) (by kernel_rfl) #[.pointer (some ⟨rb, 0, none⟩), .int .i64 deep] (by simp [Act.eval]) _ (HC.out _ ((Fr.refl _ w).drew)) ?_
    rintro e w2 ⟨r, rfl, hF2, hP2, hx2⟩
    have F2 : Fr (at_ rb) w w2 := ((Fr.refl _ w).drew).trans hF2
    refine ⟨_, rfl, hK.out _ _ (HFR.out _ F2) ?_⟩
    clear hK K hHeld
    have hHeld := HFR.out _ F2
    try simp only [Act.put, List.setIfInBounds_toArray, List.set_cons_zero, List.set_cons_succ]
    refine wpAnyT_ready (rs := [5]) (by kernel_rfl) (by simp) ?_
    refine AllReadyT.cons (o := { dst := some 8, op := Op.buildSlice 41 1 #[(0, Operand.const (Value.agg #[Value.int IntKind.i64 0, Value.string { data := #[] }, Value.slice none 0 0, Value.slice none 0 0, Value.slice none 0 0]))], type := 41, pos := "ref.go:425", after := #[], guard := none }) rfl (fun K hK => ?_) AllReadyT.nil
    go_simp
    refine hK.out _ _ (HFR.out _ (F2.alloc _)) ?_
    clear hK K hHeld
    have hHeld := HFR.out _ (F2.alloc (.cells #[.int .i64 0, .string ⟨#[]⟩, .slice none 0 0, .slice none 0 0, .slice none 0 0] 88))
    try simp only [Act.put, List.setIfInBounds_toArray, List.set_cons_zero, List.set_cons_succ]
    have FA : Fr (at_ rb) w (w2.alloc (.cells #[.int .i64 0, .string ⟨#[]⟩, .slice none 0 0, .slice none 0 0, .slice none 0 0] 88)) := F2.alloc _
    have PA : Pr rb (one l 0).l (one l 0).z (w2.alloc (.cells #[.int .i64 0, .string ⟨#[]⟩, .slice none 0 0, .slice none 0 0, .slice none 0 0] 88)) := hP2.fr ((Fr.refl nothing w2).alloc _) id
    have XA : StOk (w2.alloc (.cells #[.int .i64 0, .string ⟨#[]⟩, .slice none 0 0, .slice none 0 0, .slice none 0 0] 88)) (fun k => w.heap.size ≤ k ∧ k < (w2.alloc (.cells #[.int .i64 0, .string ⟨#[]⟩, .slice none 0 0, .slice none 0 0, .slice none 0 0] 88)).heap.size) r (one l 0).v := st_stays _ _ nothing _ _ _ _ hx2 ((Fr.refl nothing w2).alloc _) (fun _ _ => id) (fun k hk => ⟨hk.1, by have := hk.2; simp; omega⟩)
    have NW : ∀ j u, ([.int .i64 0, .string ⟨#[]⟩, .slice none 0 0, .slice none 0 0, .slice none 0 0] : List Value)[j]? = some u → (w2.alloc (.cells #[.int .i64 0, .string ⟨#[]⟩, .slice none 0 0, .slice none 0 0, .slice none 0 0] 88)).cell? ((⟨w2.heap.size, 0, none⟩ : Addr).add j) = some u := World.news_of_block (cs := #[.int .i64 0, .string ⟨#[]⟩, .slice none 0 0, .slice none 0 0, .slice none 0 0]) (t := 88) (fr := (0, 0)) (heap_new _ _)
    have PW : Pw w0 rb (one l 0).l (one l 0).z (w2.alloc (.cells #[.int .i64 0, .string ⟨#[]⟩, .slice none 0 0, .slice none 0 0, .slice none 0 0] 88)) := HJ.out.pw.of PA HSM.out FA
    obtain ⟨rs, hown, hbase, heach⟩ := HR.out
    have hownA : (w2.alloc (.cells #[.int .i64 0, .string ⟨#[]⟩, .slice none 0 0, .slice none 0 0, .slice none 0 0] 88)).ownsRow w1.heap.size 88 5 (.slice va acc.length vc) acc.length (rs.flatMap encS) := owns_fr hown FA (fun k hk e => by have := (hown.lt k hk).1; have : k = rb := e; omega)
    have hbA : w1.heap.size ≤ (w2.alloc (.cells #[.int .i64 0, .string ⟨#[]⟩, .slice none 0 0, .slice none 0 0, .slice none 0 0] 88)).heap.size := Nat.le_trans hsz1 FA.size
    have OF := owns_far hownA (b := bx) hbx
    have gx : bx < (w2.alloc (.cells #[.int .i64 0, .string ⟨#[]⟩, .slice none 0 0, .slice none 0 0, .slice none 0 0] 88)).heap.size := by omega
    have fxA : (w2.alloc (.cells #[.int .i64 0, .string ⟨#[]⟩, .slice none 0 0, .slice none 0 0, .slice none 0 0] 88)).frozen? ⟨bx, 0, none⟩ = false := (FA.frozen (p := ⟨bx, 0, none⟩) l3 (by show ¬ bx = rb; omega)).trans fx
    have HOA := hide hownA
    have HPW := hide PW
    have HXA := hide XA
    have HFA := hide FA
    clear heach hown hownA PW XA FA PA
    refine wpAnyT_ready (rs := [6]) (by kernel_rfl) (by simp) ?_
    refine AllReadyT.last (o := { dst := some 9, op := Op.call { callee := Callee.builtin Builtin.append, args := #[Operand.tmp 3, Operand.tmp 8], argTypes := #[41, 41] }, type := 41, pos := "ref.go:425", after := #[{ on := 0, ground := Ground.data }, { on := 5, ground := Ground.data }, { on := 3, ground := Ground.chain }, { on := 0, ground := Ground.phase }, { on := 1, ground := Ground.phase }, { on := 2, ground := Ground.phase }, { on := 3, ground := Ground.phase }, { on := 4, ground := Ground.phase }, { on := 5, ground := Ground.phase }], guard := none }) rfl (by kernel_rfl) (fun K hK => ?_) AllReadyT.nil
    refine step_append_lies _ (by rfl) (.tmp 3) (.tmp 8) 41 (by rfl) w1.heap.size 88 j0 _ 5 96 Tryd.underlying41 hj0 hy0 hy1 hy2 rfl (by decide) (.slice va acc.length vc) acc.length _ (by simp [Act.eval]) HOA.out ⟨w2.heap.size, 0, none⟩ 1 1 [.int .i64 0, .string ⟨#[]⟩, .slice none 0 0, .slice none 0 0, .slice none 0 0] (by simp [Act.eval]) rfl NW (by simp [Value.oneCell']) (by decide) (by unfold maxLen; omega) (by omega) hbA _ rfl ?_
    intro g cp w6 hr6 hg6 hat6 hlt6
    have k3 : w6.cell? ⟨bx, 0, none⟩ = some (.slice va acc.length vc) := (hg6.cell_far ⟨bx, 0, none⟩ gx OF).trans hHeld.1
    have kz : w6.frozen? ⟨bx, 0, none⟩ = false := (hg6.frozen_far ⟨bx, 0, none⟩ gx OF).trans fxA
    have k6 : bx < w6.heap.size := by have := hg6.size; omega
    obtain ⟨⟨q0, q1, q2, q3, q4⟩, y0, y1, y2, y3, y4⟩ := new_cells5 hr6 HOA.out.1
    have gbx : ¬ g = bx := by
      rcases hat6 with h | h
      · intro e; subst e; exact OF h.symm
      · omega
    have gbx' : ¬ bx = g := fun e => gbx e.symm
    have HR6 := hide hr6
    have HG6 := hide hg6
    have HAT := hide hat6
    clear hr6 hg6 hat6 NW
    refine hK.out _ _ ?_
    clear hK K hHeld
    try simp only [Act.put, List.setIfInBounds_toArray, List.set_cons_zero, List.set_cons_succ]
    refine wpAny_take (i := 7) (oi := { dst := some 10, op := Op.indexAddr 41 (Operand.tmp 9) (Operand.tmp 7), type := 0, pos := "ref.go:425", after := #[{ on := 6, ground := Ground.data }, { on := 4, ground := Ground.data }, { on := 0, ground := Ground.phase }, { on := 1, ground := Ground.phase }, { on := 2, ground := Ground.phase }, { on := 3, ground := Ground.phase }, { on := 4, ground := Ground.phase }, { on := 5, ground := Ground.phase }, { on := 6, ground := Ground.phase }, { on := 9, ground := Ground.gcOnly Departure.appendInPlace }], guard := none }) (v := ?v5) rfl (by kernel_rfl) (by kernel_rfl) (by kernel_rfl) (fun _ _ _ h => h) (Or.inl ⟨by rfl, ?hy5⟩) ?rest5
    case hy5 => (intro w; go_simp; try with_reducible rfl)
    try simp only [Act.put, List.setIfInBounds_toArray, List.set_cons_zero, List.set_cons_succ]
    refine wpAny_ready (rs := [8, 9]) (by kernel_rfl) (by simp) ?_
    refine AllReady.cons (o := { dst := none, op := Op.store 88 (Operand.tmp 10) (Operand.tmp 6), type := 0, pos := "ref.go:425", after := #[{ on := 7, ground := Ground.data }, { on := 3, ground := Ground.data }, { on := 6, ground := Ground.chain }, { on := 0, ground := Ground.phase }, { on := 1, ground := Ground.phase }, { on := 2, ground := Ground.phase }, { on := 3, ground := Ground.phase }, { on := 4, ground := Ground.phase }, { on := 5, ground := Ground.phase }, { on := 6, ground := Ground.phase }, { on := 9, ground := Ground.gcOnly Departure.appendInPlace }], guard := none }) rfl (fun K hK => ?_) (AllReady.cons (o := { dst := none, op := Op.store 41 (Operand.tmp 0) (Operand.tmp 9), type := 0, pos := "ref.go:425", after := #[{ on := 6, ground := Ground.data }, { on := 6, ground := Ground.chain }, { on := 8, ground := Ground.textOnly Departure.appendInPlace }, { on := 0, ground := Ground.phase }, { on := 1, ground := Ground.phase }, { on := 2, ground := Ground.phase }, { on := 3, ground := Ground.phase }, { on := 4, ground := Ground.phase }, { on := 5, ground := Ground.phase }, { on := 6, ground := Ground.phase }, { on := 7, ground := Ground.textOnly Departure.appendInPlace }, { on := 8, ground := Ground.textOnly Departure.appendInPlace }], guard := none }) rfl (fun K hK => ?_) AllReady.nil)
    · go_simp
      refine hK _ _ ?_
      clear hK K
      try simp only [Act.put, List.setIfInBounds_toArray, List.set_cons_zero, List.set_cons_succ]
      refine wpAny_ready (rs := [9]) (by kernel_rfl) (by simp) ?_
      refine AllReady.cons (o := { dst := none, op := Op.store 41 (Operand.tmp 0) (Operand.tmp 9), type := 0, pos := "ref.go:425", after := #[{ on := 6, ground := Ground.data }, { on := 6, ground := Ground.chain }, { on := 8, ground := Ground.textOnly Departure.appendInPlace }, { on := 0, ground := Ground.phase }, { on := 1, ground := Ground.phase }, { on := 2, ground := Ground.phase }, { on := 3, ground := Ground.phase }, { on := 4, ground := Ground.phase }, { on := 5, ground := Ground.phase }, { on := 6, ground := Ground.phase }, { on := 7, ground := Ground.textOnly Departure.appendInPlace }, { on := 8, ground := Ground.textOnly Departure.appendInPlace }], guard := none }) rfl (fun K hK => ?_) AllReady.nil
      go_simp
      refine hK _ _ ?_
      clear hK K
      try simp only [Act.put, List.setIfInBounds_toArray, List.set_cons_zero, List.set_cons_succ]
      refine wpAny_done (by kernel_rfl) ?_ _
      go_end0
      refine ⟨rfl, ?_⟩
      exact JL.push st_stays encS_len hbx hrb hne.2.2.2.2 hw0 (us := [.int .i64 r.k, .string (bs r.t), .slice r.a.a r.a.n r.a.c, .slice r.x.a r.x.n r.x.c, .slice r.y.a r.y.n r.y.c]) HJ.out HR.out HFA.out HPW.out HXA.out HL.out HOA.out HR6.out HG6.out HAT.out (Nat.le_refl _) rfl rfl k3 (.inl rfl)
    · go_simp
      refine hK _ _ ?_
      clear hK K
      try simp only [Act.put, List.setIfInBounds_toArray, List.set_cons_zero, List.set_cons_succ]
      refine wpAny_ready (rs := [8]) (by kernel_rfl) (by simp) ?_
      refine AllReady.cons (o := { dst := none, op := Op.store 88 (Operand.tmp 10) (Operand.tmp 6), type := 0, pos := "ref.go:425", after := #[{ on := 7, ground := Ground.data }, { on := 3, ground := Ground.data }, { on := 6, ground := Ground.chain }, { on := 0, ground := Ground.phase }, { on := 1, ground := Ground.phase }, { on := 2, ground := Ground.phase }, { on := 3, ground := Ground.phase }, { on := 4, ground := Ground.phase }, { on := 5, ground := Ground.phase }, { on := 6, ground := Ground.phase }, { on := 9, ground := Ground.gcOnly Departure.appendInPlace }], guard := none }) rfl (fun K hK => ?_) AllReady.nil
      go_simp
      refine hK _ _ ?_
      clear hK K
      try simp only [Act.put, List.setIfInBounds_toArray, List.set_cons_zero, List.set_cons_succ]
      refine wpAny_done (by kernel_rfl) ?_ _
      go_end0
      refine ⟨rfl, ?_⟩
      exact JL.push st_stays encS_len hbx hrb hne.2.2.2.2 hw0 (us := [.int .i64 r.k, .string (bs r.t), .slice r.a.a r.a.n r.a.c, .slice r.x.a r.x.n r.x.c, .slice r.y.a r.y.n r.y.c]) HJ.out HR.out HFA.out HPW.out HXA.out HL.out HOA.out HR6.out HG6.out HAT.out (Nat.le_refl _) rfl rfl k3 (.inr (.inl rfl))
  · go_simp
    refine hK.out _ _ (HFR.out _ ((Fr.refl _ w).drew.alloc _)) ?_
    clear hK K hHeld
    have F1 : Fr (at_ rb) w (w.drew.alloc (.cells #[.int .i64 0, .string ⟨#[]⟩, .slice none 0 0, .slice none 0 0, .slice none 0 0] 88)) := (Fr.refl _ w).drew.alloc _
    have hHeld := HFR.out _ F1
    try simp only [Act.put, List.setIfInBounds_toArray, List.set_cons_zero, List.set_cons_succ]
    refine wpAnyT_ready (rs := [3]) (by kernel_rfl) (by simp) ?_
    refine AllReadyT.cons (o := { dst := some 6, op := Op.call { callee := Callee.value (Operand.func 38), args := #[Operand.tmp 4, Operand.tmp 5], argTypes := #[47, 3] }, type := 88, pos := "ref.go:425", after := #[{ on := 1, ground := Ground.data }, { on := 2, ground := Ground.data }], guard := none }) rfl (fun K hK => ?_) AllReadyT.nil
    refine step_call rfl 38 Tryd.f38 #[.tmp 4, .tmp 5] #[47, 3] rfl Tryd.func38 (by kernel_rfl) (by kernel_rfl) #[.pointer (some ⟨rb, 0, none⟩), .int .i64 deep] (by simp [Act.eval]) _ (HC.out _ ((Fr.refl _ w).drew.alloc _)) ?_
    rintro e w2 ⟨r, rfl, hF2, hP2, hx2⟩
    have FA : Fr (at_ rb) w w2 := F1.trans hF2
    refine ⟨_, rfl, hK.out _ _ (HFR.out _ FA) ?_⟩
    clear hK K hHeld
    have hHeld := HFR.out _ FA
    try simp only [Act.put, List.setIfInBounds_toArray, List.set_cons_zero, List.set_cons_succ]
    have PA : Pr rb (one l 0).l (one l 0).z w2 := hP2
    have XA : StOk w2 (fun k => w.heap.size ≤ k ∧ k < w2.heap.size) r (one l 0).v := st_stays _ _ nothing _ _ _ _ hx2 (Fr.refl nothing w2) (fun _ _ => id) (fun k hk => ⟨by have := hk.1; simp at this; omega, hk.2⟩)
    have NW : ∀ j u, ([.int .i64 0, .string ⟨#[]⟩, .slice none 0 0, .slice none 0 0, .slice none 0 0] : List Value)[j]? = some u → w2.cell? ((⟨w.heap.size, 0, none⟩ : Addr).add j) = some u := fun j u hu => by
      have h1 := World.news_of_block (cs := #[.int .i64 0, .string ⟨#[]⟩, .slice none 0 0, .slice none 0 0, .slice none 0 0]) (t := 88) (fr := (0, 0)) (heap_new w.drew _) j u hu
      rw [add_eq] at h1 ⊢
      exact (hF2.cell (p := ⟨w.heap.size, 0 + j, none⟩) (by show w.heap.size < _; simp) (by show ¬ w.heap.size = rb; omega)).trans h1
    have PW : Pw w0 rb (one l 0).l (one l 0).z w2 := HJ.out.pw.of PA HSM.out FA
    obtain ⟨rs, hown, hbase, heach⟩ := HR.out
    have hownA : w2.ownsRow w1.heap.size 88 5 (.slice va acc.length vc) acc.length (rs.flatMap encS) := owns_fr hown FA (fun k hk e => by have := (hown.lt k hk).1; have : k = rb := e; omega)
    have hbA : w1.heap.size ≤ w2.heap.size := Nat.le_trans hsz1 FA.size
    have OF := owns_far hownA (b := bx) hbx
    have gx : bx < w2.heap.size := by omega
    have fxA : w2.frozen? ⟨bx, 0, none⟩ = false := (FA.frozen (p := ⟨bx, 0, none⟩) l3 (by show ¬ bx = rb; omega)).trans fx
    have HOA := hide hownA
    have HPW := hide PW
    have HXA := hide XA
    have HFA := hide FA
    clear heach hown hownA PW XA FA PA
    refine wpAnyT_ready (rs := [6]) (by kernel_rfl) (by simp) ?_
    refine AllReadyT.last (o := { dst := some 9, op := Op.call { callee := Callee.builtin Builtin.append, args := #[Operand.tmp 3, Operand.tmp 8], argTypes := #[41, 41] }, type := 41, pos := "ref.go:425", after := #[{ on := 0, ground := Ground.data }, { on := 5, ground := Ground.data }, { on := 3, ground := Ground.chain }, { on := 0, ground := Ground.phase }, { on := 1, ground := Ground.phase }, { on := 2, ground := Ground.phase }, { on := 3, ground := Ground.phase }, { on := 4, ground := Ground.phase }, { on := 5, ground := Ground.phase }], guard := none }) rfl (by kernel_rfl) (fun K hK => ?_) AllReadyT.nil
    refine step_append_lies _ (by rfl) (.tmp 3) (.tmp 8) 41 (by rfl) w1.heap.size 88 j0 _ 5 96 Tryd.underlying41 hj0 hy0 hy1 hy2 rfl (by decide) (.slice va acc.length vc) acc.length _ (by simp [Act.eval]) HOA.out ⟨w.heap.size, 0, none⟩ 1 1 [.int .i64 0, .string ⟨#[]⟩, .slice none 0 0, .slice none 0 0, .slice none 0 0] (by simp [Act.eval]) rfl NW (by simp [Value.oneCell']) (by decide) (by unfold maxLen; omega) (by omega) hbA _ rfl ?_
    intro g cp w6 hr6 hg6 hat6 hlt6
    have k3 : w6.cell? ⟨bx, 0, none⟩ = some (.slice va acc.length vc) := (hg6.cell_far ⟨bx, 0, none⟩ gx OF).trans hHeld.1
    have kz : w6.frozen? ⟨bx, 0, none⟩ = false := (hg6.frozen_far ⟨bx, 0, none⟩ gx OF).trans fxA
    have k6 : bx < w6.heap.size := by have := hg6.size; omega
    obtain ⟨⟨q0, q1, q2, q3, q4⟩, y0, y1, y2, y3, y4⟩ := new_cells5 hr6 HOA.out.1
    have gbx : ¬ g = bx := by
      rcases hat6 with h | h
      · intro e; subst e; exact OF h.symm
      · omega
    have gbx' : ¬ bx = g := fun e => gbx e.symm
    have HR6 := hide hr6
    have HG6 := hide hg6
    have HAT := hide hat6
    clear hr6 hg6 hat6 NW
    refine hK.out _ _ ?_
    clear hK K hHeld
    try simp only [Act.put, List.setIfInBounds_toArray, List.set_cons_zero, List.set_cons_succ]
    refine wpAny_take (i := 7) (oi := { dst := some 10, op := Op.indexAddr 41 (Operand.tmp 9) (Operand.tmp 7), type := 0, pos := "ref.go:425", after := #[{ on := 6, ground := Ground.data }, { on := 4, ground := Ground.data }, { on := 0, ground := Ground.phase }, { on := 1, ground := Ground.phase }, { on := 2, ground := Ground.phase }, { on := 3, ground := Ground.phase }, { on := 4, ground := Ground.phase }, { on := 5, ground := Ground.phase }, { on := 6, ground := Ground.phase }, { on := 9, ground := Ground.gcOnly Departure.appendInPlace }], guard := none }) (v := ?v6) rfl (by kernel_rfl) (by kernel_rfl) (by kernel_rfl) (fun _ _ _ h => h) (Or.inl ⟨by rfl, ?hy6⟩) ?rest6
    case hy6 => (intro w; go_simp; try with_reducible rfl)
    try simp only [Act.put, List.setIfInBounds_toArray, List.set_cons_zero, List.set_cons_succ]
    refine wpAny_ready (rs := [8, 9]) (by kernel_rfl) (by simp) ?_
    refine AllReady.cons (o := { dst := none, op := Op.store 88 (Operand.tmp 10) (Operand.tmp 6), type := 0, pos := "ref.go:425", after := #[{ on := 7, ground := Ground.data }, { on := 3, ground := Ground.data }, { on := 6, ground := Ground.chain }, { on := 0, ground := Ground.phase }, { on := 1, ground := Ground.phase }, { on := 2, ground := Ground.phase }, { on := 3, ground := Ground.phase }, { on := 4, ground := Ground.phase }, { on := 5, ground := Ground.phase }, { on := 6, ground := Ground.phase }, { on := 9, ground := Ground.gcOnly Departure.appendInPlace }], guard := none }) rfl (fun K hK => ?_) (AllReady.cons (o := { dst := none, op := Op.store 41 (Operand.tmp 0) (Operand.tmp 9), type := 0, pos := "ref.go:425", after := #[{ on := 6, ground := Ground.data }, { on := 6, ground := Ground.chain }, { on := 8, ground := Ground.textOnly Departure.appendInPlace }, { on := 0, ground := Ground.phase }, { on := 1, ground := Ground.phase }, { on := 2, ground := Ground.phase }, { on := 3, ground := Ground.phase }, { on := 4, ground := Ground.phase }, { on := 5, ground := Ground.phase }, { on := 6, ground := Ground.phase }, { on := 7, ground := Ground.textOnly Departure.appendInPlace }, { on := 8, ground := Ground.textOnly Departure.appendInPlace }], guard := none }) rfl (fun K hK => ?_) AllReady.nil)
    · go_simp
      refine hK _ _ ?_
      clear hK K
      try simp only [Act.put, List.setIfInBounds_toArray, List.set_cons_zero, List.set_cons_succ]
      refine wpAny_ready (rs := [9]) (by kernel_rfl) (by simp) ?_
      refine AllReady.cons (o := { dst := none, op := Op.store 41 (Operand.tmp 0) (Operand.tmp 9), type := 0, pos := "ref.go:425", after := #[{ on := 6, ground := Ground.data }, { on := 6, ground := Ground.chain }, { on := 8, ground := Ground.textOnly Departure.appendInPlace }, { on := 0, ground := Ground.phase }, { on := 1, ground := Ground.phase }, { on := 2, ground := Ground.phase }, { on := 3, ground := Ground.phase }, { on := 4, ground := Ground.phase }, { on := 5, ground := Ground.phase }, { on := 6, ground := Ground.phase }, { on := 7, ground := Ground.textOnly Departure.appendInPlace }, { on := 8, ground := Ground.textOnly Departure.appendInPlace }], guard := none }) rfl (fun K hK => ?_) AllReady.nil
      go_simp
      refine hK _ _ ?_
      clear hK K
      try simp only [Act.put, List.setIfInBounds_toArray, List.set_cons_zero, List.set_cons_succ]
      refine wpAny_done (by kernel_rfl) ?_ _
      go_end0
      refine ⟨rfl, ?_⟩
      exact JL.push st_stays encS_len hbx hrb hne.2.2.2.2 hw0 (us := [.int .i64 r.k, .string (bs r.t), .slice r.a.a r.a.n r.a.c, .slice r.x.a r.x.n r.x.c, .slice r.y.a r.y.n r.y.c]) HJ.out HR.out HFA.out HPW.out HXA.out HL.out HOA.out HR6.out HG6.out HAT.out (Nat.le_refl _) rfl rfl k3 (.inl rfl)
    · go_simp
      refine hK _ _ ?_
      clear hK K
      try simp only [Act.put, List.setIfInBounds_toArray, List.set_cons_zero, List.set_cons_succ]
      refine wpAny_ready (rs := [8]) (by kernel_rfl) (by simp) ?_
      refine AllReady.cons (o := { dst := none, op := Op.store 88 (Operand.tmp 10) (Operand.tmp 6), type := 0, pos := "ref.go:425", after := #[{ on := 7, ground := Ground.data }, { on := 3, ground := Ground.data }, { on := 6, ground := Ground.chain }, { on := 0, ground := Ground.phase }, { on := 1, ground := Ground.phase }, { on := 2, ground := Ground.phase }, { on := 3, ground := Ground.phase }, { on := 4, ground := Ground.phase }, { on := 5, ground := Ground.phase }, { on := 6, ground := Ground.phase }, { on := 9, ground := Ground.gcOnly Departure.appendInPlace }], guard := none }) rfl (fun K hK => ?_) AllReady.nil
      go_simp
      refine hK _ _ ?_
      clear hK K
      try simp only [Act.put, List.setIfInBounds_toArray, List.set_cons_zero, List.set_cons_succ]
      refine wpAny_done (by kernel_rfl) ?_ _
      go_end0
      refine ⟨rfl, ?_⟩
      exact JL.push st_stays encS_len hbx hrb hne.2.2.2.2 hw0 (us := [.int .i64 r.k, .string (bs r.t), .slice r.a.a r.a.n r.a.c, .slice r.x.a r.x.n r.x.c, .slice r.y.a r.y.n r.y.c]) HJ.out HR.out HFA.out HPW.out HXA.out HL.out HOA.out HR6.out HG6.out HAT.out (Nat.le_refl _) rfl rfl k3 (.inr (.inl rfl))
end Go.Proofs.YtkmdamljhagogaaDoor
end
section
/- How deep; an expression that isn't read, and one in quotes. -/
namespace Go.Proofs.YtkmdamljhagogaaDoor
open Go.RowKit

def deepZ (n z : Int) : Int := if 10 < n then bad z 9 else z
set_option maxHeartbeats 400000 in
theorem deep_any (rb : Nat) (l : Bs) (z n : Int) (w : World) (h : Pr rb l z w) :
    Calls Tryd.prog 50 #[.pointer (some ⟨rb, 0, none⟩), .int .i64 n] w fun r w' => r = .returned (.bool (deepZ n z == 0)) ∧ Pr rb l (deepZ n z) w' ∧ Fr (at_ rb) w w' := by
  by_cases hn : 10 < n
  · have e : deepZ n z = bad z 9 := by simp [deepZ, hn]
    rw [e]
    have HB := hide (bad_any rb l z 9 w h)
    clear h e
    go_enter Tryd.func50, Tryd.ntmps50
    go_wp2_with (go_at_call 35; refine HB.out.mono ?_; rintro e w2 ⟨rfl, hp, hf⟩; have c1 := hp.e; have hlt := hp.lt; have HP := hide hp; have HF := hide hf; clear hp hf)
    go_ret
    exact ⟨rfl, HP.out, HF.out⟩
  · have e : deepZ n z = z := by simp [deepZ, hn]
    rw [e]
    have c1 := h.e
    have hlt := h.lt
    have HP := hide h
    clear h e
    go_enter Tryd.func50, Tryd.ntmps50
    go_wp2
    go_ret
    exact ⟨rfl, HP.out, Fr.refl _ _⟩
/-- Three blocks made ahead stay. -/
theorem made3 {w w' : World} {A B C : Array Value} {ta tb tc : TypeId} {S : Nat → Prop} (hf : Fr S (((w.alloc (.cells A ta)).alloc (.cells B tb)).alloc (.cells C tc)) w') (h0 : ¬ S w.heap.size) (h1 : ¬ S (w.heap.size + 1)) (h2 : ¬ S (w.heap.size + 1 + 1)) :
    (∀ j, w'.cell? ⟨w.heap.size, j, none⟩ = A[j]?) ∧ (∀ j, w'.cell? ⟨w.heap.size + 1, j, none⟩ = B[j]?) ∧ (∀ j, w'.cell? ⟨w.heap.size + 1 + 1, j, none⟩ = C[j]?) ∧ (∀ j, w'.frozen? ⟨w.heap.size + 1 + 1, j, none⟩ = false) ∧ w.heap.size + 1 + 1 < w'.heap.size := by
  have hz := hf.size
  simp at hz
  have e1 : (w.alloc (.cells A ta)).heap.size = w.heap.size + 1 := by simp
  have e2 : ((w.alloc (.cells A ta)).alloc (.cells B tb)).heap.size = w.heap.size + 1 + 1 := by simp
  refine ⟨fun j => ?_, fun j => ?_, fun j => ?_, fun j => ?_, by omega⟩
  · rw [hf.cell (p := ⟨w.heap.size, j, none⟩) (by simp; omega) h0, World.cell?_alloc_past _ _ _ (by simp; omega), World.cell?_alloc_past _ _ _ (by simp), World.cell?_alloc_new]
  · rw [hf.cell (p := ⟨w.heap.size + 1, j, none⟩) (by simp) h1, World.cell?_alloc_past _ _ _ (by simp), ← e1, World.cell?_alloc_new]
  · rw [hf.cell (p := ⟨w.heap.size + 1 + 1, j, none⟩) (by simp) h2, ← e2, World.cell?_alloc_new]
  · rw [hf.frozen (p := ⟨w.heap.size + 1 + 1, j, none⟩) (by simp) h2, ← e2, World.frozen?_alloc_new]
abbrev w3of (w : World) (rb : Nat) (d : Int) : World := ((w.alloc (.cells #[.pointer (some ⟨rb, 0, none⟩)] 47)).alloc (.cells #[.int .i64 d] 3)).alloc (.cells #[.int .i64 0, .int .i64 0, .string ⟨#[]⟩, .slice none 0 0] 93)
theorem fr3 {S : Nat → Prop} (w : World) (rb : Nat) (d : Int) : Fr S w (w3of w rb d) := (((Fr.refl S w).alloc _).alloc _).alloc _
theorem boxes {w w' : World} {rb : Nat} {d : Int} (hrb : rb < w.heap.size) (hf : Fr (at_ rb) (w3of w rb d) w') :
    w'.cell? ⟨w.heap.size, 0, none⟩ = some (.pointer (some ⟨rb, 0, none⟩)) ∧ w'.cell? ⟨w.heap.size + 1, 0, none⟩ = some (.int .i64 d) ∧
    w'.cell? ⟨w.heap.size + 1 + 1, 0, none⟩ = some (.int .i64 0) ∧ w'.cell? ⟨w.heap.size + 1 + 1, 1, none⟩ = some (.int .i64 0) ∧ w'.cell? ⟨w.heap.size + 1 + 1, 2, none⟩ = some (.string ⟨#[]⟩) ∧ w'.cell? ⟨w.heap.size + 1 + 1, 3, none⟩ = some (.slice none 0 0) ∧
    w'.frozen? ⟨w.heap.size + 1 + 1, 0, none⟩ = false ∧ w'.frozen? ⟨w.heap.size + 1 + 1, 1, none⟩ = false ∧ w'.frozen? ⟨w.heap.size + 1 + 1, 2, none⟩ = false ∧ w'.frozen? ⟨w.heap.size + 1 + 1, 3, none⟩ = false ∧ w.heap.size + 1 + 1 < w'.heap.size := by
  obtain ⟨h1, h2, h3, h4, h5⟩ := made3 hf (by show ¬ w.heap.size = rb; omega) (by show ¬ w.heap.size + 1 = rb; omega) (by show ¬ w.heap.size + 1 + 1 = rb; omega)
  exact ⟨h1 0, h2 0, h3 0, h3 1, h3 2, h3 3, h4 0, h4 1, h4 2, h4 3, h5⟩
/-- The answer is laid in its own block. -/
theorem ex_fin {rb : Nat} {w w' : World} {d : Int} {res : Rd Ex} {r : RawE} (hrb : rb < w.heap.size) (hf : Fr (at_ rb) (w3of w rb d) w') (hp : Pr rb res.l res.z w') (hx : ExOk w' (fun k => w.heap.size + 1 + 1 < k ∧ k < w'.heap.size) r res.v) (u0 u1 u2 u3 : Value) :
    XPost ev ExOk rb w res (.returned (ev r)) ((((w'.setCell ⟨w.heap.size + 1 + 1, 0, none⟩ u0).setCell ⟨w.heap.size + 1 + 1, 1, none⟩ u1).setCell ⟨w.heap.size + 1 + 1, 2, none⟩ u2).setCell ⟨w.heap.size + 1 + 1, 3, none⟩ u3) := by
  have hf9 : Fr (fun k => k = w.heap.size + 1 + 1) w' ((((w'.setCell ⟨w.heap.size + 1 + 1, 0, none⟩ u0).setCell ⟨w.heap.size + 1 + 1, 1, none⟩ u1).setCell ⟨w.heap.size + 1 + 1, 2, none⟩ u2).setCell ⟨w.heap.size + 1 + 1, 3, none⟩ u3) := Fr.putAll (us := [u0, u1, u2, u3]) (o := 0) (g := w.heap.size + 1 + 1) (Fr.refl _ w') (.inl rfl)
  refine ⟨r, rfl, ((fr3 w rb d).trans hf).then hf9 (fun j hj e => by omega), hp.fr hf9 (by omega), ex_stays _ _ _ _ _ _ _ hx hf9 (fun k hk e => by omega) (fun k hk => ⟨by omega, Nat.lt_of_lt_of_le hk.2 hf9.size⟩)⟩
set_option maxHeartbeats 400000 in
set_option maxRecDepth 20000 in
/-- Too deep, or wrong already. -/
theorem expr_not (rb : Nat) (l : Bs) (z d : Int) (w : World) (h : Pr rb l z w) (hz : deepZ d z ≠ 0) :
    Calls Tryd.prog 51 #[.pointer (some ⟨rb, 0, none⟩), .int .i64 d] w (XPost ev ExOk rb w ⟨ex0, l, deepZ d z⟩) := by
  have HD := hide (deep_any rb l z d _ (h.fr (fr3 w rb d) (S := nothing) id))
  have hrb := h.lt
  have hz' : (deepZ d z == 0) = false := by simpa using hz
  rw [hz'] at HD
  clear h hz'
  go_enter Tryd.func51, Tryd.ntmps51
  go_wp2_with (go_at_call 50; refine HD.out.mono ?_; rintro e w2 ⟨rfl, hp, hf⟩; obtain ⟨b0, b1, c0, c1, c2, c3, f0, f1, f2, f3, hlt⟩ := boxes hrb hf; have HP := hide hp; have HF := hide hf; clear hp hf)
  refine bodyPost_ret (v := ev ⟨0, 0, [], nilS⟩) (by simp [results, Tryd.results51, go_sem, c0, c1, c2, c3, bs]) rfl ?_
  exact ex_fin (res := ⟨ex0, l, deepZ d z⟩) hrb HF.out HP.out (ex_leaf _ _ _ _ _) _ _ _ _
end Go.Proofs.YtkmdamljhagogaaDoor
end
