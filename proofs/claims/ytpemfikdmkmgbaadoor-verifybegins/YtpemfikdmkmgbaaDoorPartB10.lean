/- ClosS; Expr0; Stmts; Push2; Maps; Kinds. -/
import Derived.Test.YtpemfikdmkmgbaaDoorPartB9
import Derived.Test.YtpemfikdmkmgbaaDoorPartB1
section
/- Statements, gathered one by one. -/
namespace Go.Proofs.YtpemfikdmkmgbaaDoor
open Go.RowKit

theorem sizeSt : (Tryd.prog.info? 128).map (fun i => (i.zero, i.size, i.bytes)) = some (some (.agg #[.int .i64 0, .string ⟨#[]⟩, .slice none 0 0, .slice none 0 0, .slice none 0 0]), 5, 96) := by kernel_rfl
theorem new_cells5 {w : World} {base E n cap g : Nat} {xs : List Value} {a b c d f : Value} (h : w.ownsRow base E 5 (.slice (some ⟨g, 0, none⟩) (n + 1) cap) (n + 1) (xs ++ [a, b, c, d, f])) (hx : xs.length = n * 5) :
    (w.cell? ⟨g, n * 5, none⟩ = some a ∧ w.cell? ⟨g, n * 5 + 1, none⟩ = some b ∧ w.cell? ⟨g, n * 5 + 2, none⟩ = some c ∧ w.cell? ⟨g, n * 5 + 3, none⟩ = some d ∧ w.cell? ⟨g, n * 5 + 4, none⟩ = some f) ∧ w.frozen? ⟨g, n * 5, none⟩ = false ∧ w.frozen? ⟨g, n * 5 + 1, none⟩ = false ∧ w.frozen? ⟨g, n * 5 + 2, none⟩ = false ∧ w.frozen? ⟨g, n * 5 + 3, none⟩ = false ∧ w.frozen? ⟨g, n * 5 + 4, none⟩ = false := by
  refine ⟨⟨?_, ?_, ?_, ?_, ?_⟩, h.frozenAt _, h.frozenAt _, h.frozenAt _, h.frozenAt _, h.frozenAt _⟩
  · rw [h.cellAt _ (by omega)]; exact behind (j := 0) hx rfl
  · rw [h.cellAt _ (by omega)]; exact behind (j := 1) hx rfl
  · rw [h.cellAt _ (by omega)]; exact behind (j := 2) hx rfl
  · rw [h.cellAt _ (by omega)]; exact behind (j := 3) hx rfl
  · rw [h.cellAt _ (by omega)]; exact behind (j := 4) hx rfl
--WALK
set_option maxHeartbeats 1000000 in
set_option maxRecDepth 20000 in
theorem clS (w0 : World) (rb : Nat) (w1 : World) (bp bd bx : Nat) (deep : Int) (one : Reader St) (acc : List St) (l : Bs) (w : World)
    (hone : ∀ l w, Pw w0 rb l 0 w → Calls Tryd.prog 58 #[.pointer (some ⟨rb, 0, none⟩), .int .i64 (deep)] w (XPost sv StOk rb w (one l 0)))
    (hless : Less one) (hsmall : Small one) (hd0 : 0 ≤ deep) (hd1 : deep ≤ 100)
    (hcp : w1.cell? ⟨bp, 0, none⟩ = some (.pointer (some ⟨rb, 0, none⟩))) (hcd : w1.cell? ⟨bd, 0, none⟩ = some (.int .i64 deep)) (hbx : bx < w1.heap.size) (hrb : rb < w1.heap.size)
    (hne : bp ≠ rb ∧ bp ≠ bx ∧ bd ≠ rb ∧ bd ≠ bx ∧ bx ≠ rb) (hw0 : w0.heap.size ≤ bx ∧ w0.heap.size ≤ w1.heap.size) (hfz : w1.frozen? ⟨bx, 0, none⟩ = false)
    (hJ : JL w0 rb 128 5 encS StOk w1 bx 0 acc l 0 w) :
    Calls Tryd.prog 57 #[.pointer (some ⟨bx, 0, none⟩), .pointer (some ⟨bp, 0, none⟩), .pointer (some ⟨bd, 0, none⟩)] w fun e w' => e = .returned (.tuple #[]) ∧ JL w0 rb 128 5 encS StOk w1 bx 0 (acc ++ [(one l 0).v]) (one l 0).l (one l 0).z w' := by
  obtain ⟨⟨va, vn, vc⟩, hx3, hrow⟩ := hJ.row
  obtain rfl : vn = acc.length := by
    obtain ⟨a, c, h⟩ := hrow.shape
    cases h; rfl
  have hlbp : bp < w1.heap.size := lt_of_cell hcp
  have hlbd : bd < w1.heap.size := lt_of_cell hcd
  have a1 : w.cell? ⟨bp, 0, none⟩ = some (.pointer (some ⟨rb, 0, none⟩)) := (hJ.fr.cell (p := ⟨bp, 0, none⟩) hlbp (by show ¬ (bp = rb ∨ bp = bx); omega)).trans hcp
  have a2 : w.cell? ⟨bd, 0, none⟩ = some (.int .i64 deep) := (hJ.fr.cell (p := ⟨bd, 0, none⟩) hlbd (by show ¬ (bd = rb ∨ bd = bx); omega)).trans hcd
  have hsz1 := hJ.fr.size
  have l1 : bp < w.heap.size := by omega
  have l2 : bd < w.heap.size := by omega
  have l3 : bx < w.heap.size := by omega
  have fx : w.frozen? ⟨bx, 0, none⟩ = false := (hJ.fz 0).trans hfz
  have hacc : acc.length ≤ 1500 := by have := hJ.le rfl; omega
  have HC : Hid (∀ w', Fr nothing w w' → Calls Tryd.prog 58 #[.pointer (some ⟨rb, 0, none⟩), .int .i64 (deep)] w' (XPost sv StOk rb w' (one l 0))) := fun w' hf => hone l w' (hJ.pw.fr hf id (fun k e => e.elim))
  have HJ := hide hJ
  have HR := hide hrow
  have HL : Hid ((one l 0).z = 0 → (one l 0).l.length < l.length) := hless l
  have HSM : Hid ((one l 0).l.length ≤ l.length) := hsmall l 0
  have i0 : (0 : Int) ≤ (acc.length : Int) := by omega
  have i1 : (acc.length : Int) < (acc.length : Int) + 1 := by omega
  have i2 : (acc.length : Int) < ((acc.length + 1 : Nat) : Int) := by omega
  clear hJ hone hcp hcd hrow hless hsmall
  have hwr : IntKind.i64.wrap (deep + 1) = deep + 1 := wrap_in _ (by omega) (by omega)
  obtain ⟨j0, hj0, hy0, hy1, hy2⟩ := info_parts sizeSt
  have frame : ∀ w', Fr (at_ rb) w w' → w'.cell? ⟨bx, 0, none⟩ = some (.slice va acc.length vc) ∧ w'.cell? ⟨bp, 0, none⟩ = some (.pointer (some ⟨rb, 0, none⟩)) ∧ w'.cell? ⟨bd, 0, none⟩ = some (.int .i64 deep) := fun w' hf =>
    ⟨(hf.cell (p := ⟨bx, 0, none⟩) l3 (by show ¬ bx = rb; omega)).trans hx3, (hf.cell (p := ⟨bp, 0, none⟩) l1 (by show ¬ bp = rb; omega)).trans a1, (hf.cell (p := ⟨bd, 0, none⟩) l2 (by show ¬ bd = rb; omega)).trans a2⟩
  have HFR := hide frame
  clear frame
  go_enter Tryd.func57, Tryd.ntmps57
  refine wp_region_T (S := fun w' => w'.cell? ⟨bx, 0, none⟩ = some (.slice va acc.length vc) ∧ w'.cell? ⟨bp, 0, none⟩ = some (.pointer (some ⟨rb, 0, none⟩)) ∧ w'.cell? ⟨bd, 0, none⟩ = some (.int .i64 deep)) (by kernel_rfl) [6] ?_ (fun hHeld => ?_)
  · exact ⟨hx3, a1, a2⟩
  refine wpAnyT_take (i := 0) (oi := { dst := some 3, op := Op.load 111 (Operand.tmp 0), type := 111, pos := "ref.go:425", after := #[], guard := none }) (v := ?v1) rfl (by kernel_rfl) (by kernel_rfl) (by kernel_rfl) (by kernel_rfl) (by kernel_rfl) (fun _ _ _ h => h) (Or.inl ⟨by rfl, ?hy1⟩) (by assumption) ?rest1
  case hy1 => (intro w hSw; (try dsimp only at hSw); obtain ⟨hS1, hS2, hS3⟩ := hSw; go_simp; try with_reducible rfl)
  try simp only [Act.put, List.setIfInBounds_toArray, List.set_cons_zero, List.set_cons_succ]
  refine wpAnyT_take (i := 1) (oi := { dst := some 4, op := Op.load 105 (Operand.tmp 1), type := 105, pos := "ref.go:425", after := #[], guard := none }) (v := ?v2) rfl (by kernel_rfl) (by kernel_rfl) (by kernel_rfl) (by kernel_rfl) (by kernel_rfl) (fun _ _ _ h => h) (Or.inl ⟨by rfl, ?hy2⟩) (by assumption) ?rest2
  case hy2 => (intro w hSw; (try dsimp only at hSw); obtain ⟨hS1, hS2, hS3⟩ := hSw; go_simp; try with_reducible rfl)
  try simp only [Act.put, List.setIfInBounds_toArray, List.set_cons_zero, List.set_cons_succ]
  refine wpAnyT_take (i := 2) (oi := { dst := some 5, op := Op.load 3 (Operand.tmp 2), type := 3, pos := "ref.go:425", after := #[], guard := none }) (v := ?v3) rfl (by kernel_rfl) (by kernel_rfl) (by kernel_rfl) (by kernel_rfl) (by kernel_rfl) (fun _ _ _ h => h) (Or.inl ⟨by rfl, ?hy3⟩) (by assumption) ?rest3
  case hy3 => (intro w hSw; (try dsimp only at hSw); obtain ⟨hS1, hS2, hS3⟩ := hSw; go_simp; try with_reducible rfl)
  try simp only [Act.put, List.setIfInBounds_toArray, List.set_cons_zero, List.set_cons_succ]
  refine wpAnyT_take (i := 4) (oi := { dst := some 7, op := Op.call { callee := Callee.builtin Builtin.len, args := #[Operand.tmp 3], argTypes := #[111] }, type := 3, pos := "ref.go:425", after := #[{ on := 0, ground := Ground.data }], guard := none }) (v := ?v4) rfl (by kernel_rfl) (by kernel_rfl) (by kernel_rfl) (by kernel_rfl) (by kernel_rfl) (fun _ _ _ h => h) (Or.inl ⟨by rfl, ?hy4⟩) (by assumption) ?rest4
  case hy4 => (intro w hSw; (try dsimp only at hSw); obtain ⟨hS1, hS2, hS3⟩ := hSw; go_simp; try with_reducible rfl)
  try simp only [Act.put, List.setIfInBounds_toArray, List.set_cons_zero, List.set_cons_succ]
  refine wpAnyT_ready (rs := [3, 5]) (by kernel_rfl) (by simp) ?_
  refine AllReadyT.cons (o := { dst := some 6, op := Op.call { callee := Callee.value (Operand.func 58), args := #[Operand.tmp 4, Operand.tmp 5], argTypes := #[105, 3] }, type := 128, pos := "ref.go:425", after := #[{ on := 1, ground := Ground.data }, { on := 2, ground := Ground.data }], guard := none }) rfl (fun K hK => ?_) (AllReadyT.cons (o := { dst := some 8, op := Op.buildSlice 111 1 #[(0, Operand.const (Value.agg #[Value.int IntKind.i64 0, Value.string { data := #[] }, Value.slice none 0 0, Value.slice none 0 0, Value.slice none 0 0]))], type := 111, pos := "ref.go:425", after := #[], guard := none }) rfl (fun K hK => ?_) AllReadyT.nil)
  · refine step_call rfl 58 Tryd.f58 #[.tmp 4, .tmp 5] #[105, 3] rfl Tryd.func58 (by kernel_rfl) (by kernel_rfl) #[.pointer (some ⟨rb, 0, none⟩), .int .i64 deep] (by simp [Act.eval]) _ (HC.out _ ((Fr.refl _ w).drew)) ?_
    rintro e w2 ⟨r, rfl, hF2, hP2, hx2⟩
    have F2 : Fr (at_ rb) w w2 := ((Fr.refl _ w).drew).trans hF2
    refine ⟨_, rfl, hK.out _ _ (HFR.out _ F2) ?_⟩
    clear hK K hHeld
    have hHeld := HFR.out _ F2
    try simp only [Act.put, List.setIfInBounds_toArray, List.set_cons_zero, List.set_cons_succ]
    refine wpAnyT_ready (rs := [5]) (by kernel_rfl) (by simp) ?_
    refine AllReadyT.cons (o := { dst := some 8, op := Op.buildSlice 111 1 #[(0, Operand.const (Value.agg #[Value.int IntKind.i64 0, Value.string { data := #[] }, Value.slice none 0 0, Value.slice none 0 0, Value.slice none 0 0]))], type := 111, pos := "ref.go:425", after := #[], guard := none }) rfl (fun K hK => ?_) AllReadyT.nil
    go_simp
    refine hK.out _ _ (HFR.out _ (F2.alloc _)) ?_
    clear hK K hHeld
    have hHeld := HFR.out _ (F2.alloc (.cells #[.int .i64 0, .string ⟨#[]⟩, .slice none 0 0, .slice none 0 0, .slice none 0 0] 128))
    try simp only [Act.put, List.setIfInBounds_toArray, List.set_cons_zero, List.set_cons_succ]
    have FA : Fr (at_ rb) w (w2.alloc (.cells #[.int .i64 0, .string ⟨#[]⟩, .slice none 0 0, .slice none 0 0, .slice none 0 0] 128)) := F2.alloc _
    have PA : Pr rb (one l 0).l (one l 0).z (w2.alloc (.cells #[.int .i64 0, .string ⟨#[]⟩, .slice none 0 0, .slice none 0 0, .slice none 0 0] 128)) := hP2.fr ((Fr.refl nothing w2).alloc _) id
    have XA : StOk (w2.alloc (.cells #[.int .i64 0, .string ⟨#[]⟩, .slice none 0 0, .slice none 0 0, .slice none 0 0] 128)) (fun k => w.heap.size ≤ k ∧ k < (w2.alloc (.cells #[.int .i64 0, .string ⟨#[]⟩, .slice none 0 0, .slice none 0 0, .slice none 0 0] 128)).heap.size) r (one l 0).v := st_stays _ _ nothing _ _ _ _ hx2 ((Fr.refl nothing w2).alloc _) (fun _ _ => id) (fun k hk => ⟨hk.1, by have := hk.2; simp; omega⟩)
    have NW : ∀ j u, ([.int .i64 0, .string ⟨#[]⟩, .slice none 0 0, .slice none 0 0, .slice none 0 0] : List Value)[j]? = some u → (w2.alloc (.cells #[.int .i64 0, .string ⟨#[]⟩, .slice none 0 0, .slice none 0 0, .slice none 0 0] 128)).cell? ((⟨w2.heap.size, 0, none⟩ : Addr).add j) = some u := World.news_of_block (cs := #[.int .i64 0, .string ⟨#[]⟩, .slice none 0 0, .slice none 0 0, .slice none 0 0]) (t := 128) (fr := (0, 0)) (heap_new _ _)
    have PW : Pw w0 rb (one l 0).l (one l 0).z (w2.alloc (.cells #[.int .i64 0, .string ⟨#[]⟩, .slice none 0 0, .slice none 0 0, .slice none 0 0] 128)) := HJ.out.pw.of PA HSM.out FA
    obtain ⟨rs, hown, hbase, heach⟩ := HR.out
    have hownA : (w2.alloc (.cells #[.int .i64 0, .string ⟨#[]⟩, .slice none 0 0, .slice none 0 0, .slice none 0 0] 128)).ownsRow w1.heap.size 128 5 (.slice va acc.length vc) acc.length (rs.flatMap encS) := owns_fr hown FA (fun k hk e => by have := (hown.lt k hk).1; have : k = rb := e; omega)
    have hbA : w1.heap.size ≤ (w2.alloc (.cells #[.int .i64 0, .string ⟨#[]⟩, .slice none 0 0, .slice none 0 0, .slice none 0 0] 128)).heap.size := Nat.le_trans hsz1 FA.size
    have OF := owns_far hownA (b := bx) hbx
    have gx : bx < (w2.alloc (.cells #[.int .i64 0, .string ⟨#[]⟩, .slice none 0 0, .slice none 0 0, .slice none 0 0] 128)).heap.size := by omega
    have fxA : (w2.alloc (.cells #[.int .i64 0, .string ⟨#[]⟩, .slice none 0 0, .slice none 0 0, .slice none 0 0] 128)).frozen? ⟨bx, 0, none⟩ = false := (FA.frozen (p := ⟨bx, 0, none⟩) l3 (by show ¬ bx = rb; omega)).trans fx
    have HOA := hide hownA
    have HPW := hide PW
    have HXA := hide XA
    have HFA := hide FA
    clear heach hown hownA PW XA FA PA
    refine wpAnyT_ready (rs := [6]) (by kernel_rfl) (by simp) ?_
    refine AllReadyT.last (o := { dst := some 9, op := Op.call { callee := Callee.builtin Builtin.append, args := #[Operand.tmp 3, Operand.tmp 8], argTypes := #[111, 111] }, type := 111, pos := "ref.go:425", after := #[{ on := 0, ground := Ground.data }, { on := 5, ground := Ground.data }, { on := 3, ground := Ground.chain }, { on := 0, ground := Ground.phase }, { on := 1, ground := Ground.phase }, { on := 2, ground := Ground.phase }, { on := 3, ground := Ground.phase }, { on := 4, ground := Ground.phase }, { on := 5, ground := Ground.phase }], guard := none }) rfl (by kernel_rfl) (fun K hK => ?_) AllReadyT.nil
    refine step_append_lies _ (by rfl) (.tmp 3) (.tmp 8) 111 (by rfl) w1.heap.size 128 j0 _ 5 96 Tryd.underlying111 hj0 hy0 hy1 hy2 rfl (by decide) (.slice va acc.length vc) acc.length _ (by simp [Act.eval]) HOA.out ⟨w2.heap.size, 0, none⟩ 1 1 [.int .i64 0, .string ⟨#[]⟩, .slice none 0 0, .slice none 0 0, .slice none 0 0] (by simp [Act.eval]) rfl NW (by simp [Value.oneCell']) (by decide) (by unfold maxLen; omega) (by omega) hbA _ rfl ?_
    intro g cp w6 hr6 hg6 hat6 hlt6
    have k3 : w6.cell? ⟨bx, 0, none⟩ = some (.slice va acc.length vc) := (hg6.cell_far ⟨bx, 0, none⟩ gx OF).trans hHeld.1
    have kz : w6.frozen? ⟨bx, 0, none⟩ = false := (hg6.frozen_far ⟨bx, 0, none⟩ gx OF).trans fxA
    have k6 : bx < w6.heap.size := by have := hg6.size; omega
    obtain ⟨⟨q0, q1, q2, q3, q4⟩, y0, y1, y2, y3, y4⟩ := new_cells5 hr6 HOA.out.1
    have gbx : ¬ g = bx := by
      rcases hat6 with h | h
      · intro e; subst e; exact OF h.symm
      · omega
    have gbx' : ¬ bx = g := fun e => gbx e.symm
    have HR6 := hide hr6
    have HG6 := hide hg6
    have HAT := hide hat6
    clear hr6 hg6 hat6 NW
    refine hK.out _ _ ?_
    clear hK K hHeld
    try simp only [Act.put, List.setIfInBounds_toArray, List.set_cons_zero, List.set_cons_succ]
    refine wpAny_take (i := 7) (oi := { dst := some 10, op := Op.indexAddr 111 (Operand.tmp 9) (Operand.tmp 7), type := 0, pos := "ref.go:425", after := #[{ on := 6, ground := Ground.data }, { on := 4, ground := Ground.data }, { on := 0, ground := Ground.phase }, { on := 1, ground := Ground.phase }, { on := 2, ground := Ground.phase }, { on := 3, ground := Ground.phase }, { on := 4, ground := Ground.phase }, { on := 5, ground := Ground.phase }, { on := 6, ground := Ground.phase }, { on := 9, ground := Ground.gcOnly Departure.appendInPlace }], guard := none }) (v := ?v5) rfl (by kernel_rfl) (by kernel_rfl) (by kernel_rfl) (fun _ _ _ h => h) (Or.inl ⟨by rfl, ?hy5⟩) ?rest5
    case hy5 => (intro w; go_simp; try with_reducible rfl)
    try simp only [Act.put, List.setIfInBounds_toArray, List.set_cons_zero, List.set_cons_succ]
    refine wpAny_ready (rs := [8, 9]) (by kernel_rfl) (by simp) ?_
    refine AllReady.cons (o := { dst := none, op := Op.store 128 (Operand.tmp 10) (Operand.tmp 6), type := 0, pos := "ref.go:425", after := #[{ on := 7, ground := Ground.data }, { on := 3, ground := Ground.data }, { on := 6, ground := Ground.chain }, { on := 0, ground := Ground.phase }, { on := 1, ground := Ground.phase }, { on := 2, ground := Ground.phase }, { on := 3, ground := Ground.phase }, { on := 4, ground := Ground.phase }, { on := 5, ground := Ground.phase }, { on := 6, ground := Ground.phase }, { on := 9, ground := Ground.gcOnly Departure.appendInPlace }], guard := none }) rfl (fun K hK => ?_) (AllReady.cons (o := { dst := none, op := Op.store 111 (Operand.tmp 0) (Operand.tmp 9), type := 0, pos := "ref.go:425", after := #[{ on := 6, ground := Ground.data }, { on := 6, ground := Ground.chain }, { on := 8, ground := Ground.textOnly Departure.appendInPlace }, { on := 0, ground := Ground.phase }, { on := 1, ground := Ground.phase }, { on := 2, ground := Ground.phase }, { on := 3, ground := Ground.phase }, { on := 4, ground := Ground.phase }, { on := 5, ground := Ground.phase }, { on := 6, ground := Ground.phase }, { on := 7, ground := Ground.textOnly Departure.appendInPlace }, { on := 8, ground := Ground.textOnly Departure.appendInPlace }], guard := none }) rfl (fun K hK => ?_) AllReady.nil)
    · go_simp
      refine hK _ _ ?_
      clear hK K
      try simp only [Act.put, List.setIfInBounds_toArray, List.set_cons_zero, List.set_cons_succ]
      refine wpAny_ready (rs := [9]) (by kernel_rfl) (by simp) ?_
      refine AllReady.cons (o := { dst := none, op := Op.store 111 (Operand.tmp 0) (Operand.tmp 9), type := 0, pos := "ref.go:425", after := #[{ on := 6, ground := Ground.data }, { on := 6, ground := Ground.chain }, { on := 8, ground := Ground.textOnly Departure.appendInPlace }, { on := 0, ground := Ground.phase }, { on := 1, ground := Ground.phase }, { on := 2, ground := Ground.phase }, { on := 3, ground := Ground.phase }, { on := 4, ground := Ground.phase }, { on := 5, ground := Ground.phase }, { on := 6, ground := Ground.phase }, { on := 7, ground := Ground.textOnly Departure.appendInPlace }, { on := 8, ground := Ground.textOnly Departure.appendInPlace }], guard := none }) rfl (fun K hK => ?_) AllReady.nil
      go_simp
      refine hK _ _ ?_
      clear hK K
      try simp only [Act.put, List.setIfInBounds_toArray, List.set_cons_zero, List.set_cons_succ]
      refine wpAny_done (by kernel_rfl) ?_ _
      go_end0
      refine ⟨rfl, ?_⟩
      exact JL.push st_stays encS_len hbx hrb hne.2.2.2.2 hw0 (us := [.int .i64 r.k, .string (bs r.t), .slice r.a.a r.a.n r.a.c, .slice r.x.a r.x.n r.x.c, .slice r.y.a r.y.n r.y.c]) HJ.out HR.out HFA.out HPW.out HXA.out HL.out HOA.out HR6.out HG6.out HAT.out (Nat.le_refl _) rfl rfl k3 (.inl rfl)
    · go_simp
      refine hK _ _ ?_
      clear hK K
      try simp only [Act.put, List.setIfInBounds_toArray, List.set_cons_zero, List.set_cons_succ]
      refine wpAny_ready (rs := [8]) (by kernel_rfl) (by simp) ?_
      refine AllReady.cons (o := { dst := none, op := Op.store 128 (Operand.tmp 10) (Operand.tmp 6), type := 0, pos := "ref.go:425", after := #[{ on := 7, ground := Ground.data }, { on := 3, ground := Ground.data }, { on := 6, ground := Ground.chain }, { on := 0, ground := Ground.phase }, { on := 1, ground := Ground.phase }, { on := 2, ground := Ground.phase }, { on := 3, ground := Ground.phase }, { on := 4, ground := Ground.phase }, { on := 5, ground := Ground.phase }, { on := 6, ground := Ground.phase }, { on := 9, ground := Ground.gcOnly Departure.appendInPlace }], guard := none }) rfl (fun K hK => ?_) AllReady.nil
      go_simp
      refine hK _ _ ?_
      clear hK K
      try simp only [Act.put, List.setIfInBounds_toArray, List.set_cons_zero, List.set_cons_succ]
      refine wpAny_done (by kernel_rfl) ?_ _
      go_end0
      refine ⟨rfl, ?_⟩
      exact JL.push st_stays encS_len hbx hrb hne.2.2.2.2 hw0 (us := [.int .i64 r.k, .string (bs r.t), .slice r.a.a r.a.n r.a.c, .slice r.x.a r.x.n r.x.c, .slice r.y.a r.y.n r.y.c]) HJ.out HR.out HFA.out HPW.out HXA.out HL.out HOA.out HR6.out HG6.out HAT.out (Nat.le_refl _) rfl rfl k3 (.inr (.inl rfl))
  · go_simp
    refine hK.out _ _ (HFR.out _ ((Fr.refl _ w).drew.alloc _)) ?_
    clear hK K hHeld
    have F1 : Fr (at_ rb) w (w.drew.alloc (.cells #[.int .i64 0, .string ⟨#[]⟩, .slice none 0 0, .slice none 0 0, .slice none 0 0] 128)) := (Fr.refl _ w).drew.alloc _
    have hHeld := HFR.out _ F1
    try simp only [Act.put, List.setIfInBounds_toArray, List.set_cons_zero, List.set_cons_succ]
    refine wpAnyT_ready (rs := [3]) (by kernel_rfl) (by simp) ?_
    refine AllReadyT.cons (o := { dst := some 6, op := Op.call { callee := Callee.value (Operand.func 58), args := #[Operand.tmp 4, Operand.tmp 5], argTypes := #[105, 3] }, type := 128, pos := "ref.go:425", after := #[{ on := 1, ground := Ground.data }, { on := 2, ground := Ground.data }], guard := none }) rfl (fun K hK => ?_) AllReadyT.nil
    refine step_call rfl 58 Tryd.f58 #[.tmp 4, .tmp 5] #[105, 3] rfl Tryd.func58 (by kernel_rfl) (by kernel_rfl) #[.pointer (some ⟨rb, 0, none⟩), .int .i64 deep] (by simp [Act.eval]) _ (HC.out _ ((Fr.refl _ w).drew.alloc _)) ?_
    rintro e w2 ⟨r, rfl, hF2, hP2, hx2⟩
    have FA : Fr (at_ rb) w w2 := F1.trans hF2
    refine ⟨_, rfl, hK.out _ _ (HFR.out _ FA) ?_⟩
    clear hK K hHeld
    have hHeld := HFR.out _ FA
    try simp only [Act.put, List.setIfInBounds_toArray, List.set_cons_zero, List.set_cons_succ]
    have PA : Pr rb (one l 0).l (one l 0).z w2 := hP2
    have XA : StOk w2 (fun k => w.heap.size ≤ k ∧ k < w2.heap.size) r (one l 0).v := st_stays _ _ nothing _ _ _ _ hx2 (Fr.refl nothing w2) (fun _ _ => id) (fun k hk => ⟨by have := hk.1; simp at this; omega, hk.2⟩)
    have NW : ∀ j u, ([.int .i64 0, .string ⟨#[]⟩, .slice none 0 0, .slice none 0 0, .slice none 0 0] : List Value)[j]? = some u → w2.cell? ((⟨w.heap.size, 0, none⟩ : Addr).add j) = some u := fun j u hu => by
      have h1 := World.news_of_block (cs := #[.int .i64 0, .string ⟨#[]⟩, .slice none 0 0, .slice none 0 0, .slice none 0 0]) (t := 128) (fr := (0, 0)) (heap_new w.drew _) j u hu
      rw [add_eq] at h1 ⊢
      exact (hF2.cell (p := ⟨w.heap.size, 0 + j, none⟩) (by show w.heap.size < _; simp) (by show ¬ w.heap.size = rb; omega)).trans h1
    have PW : Pw w0 rb (one l 0).l (one l 0).z w2 := HJ.out.pw.of PA HSM.out FA
    obtain ⟨rs, hown, hbase, heach⟩ := HR.out
    have hownA : w2.ownsRow w1.heap.size 128 5 (.slice va acc.length vc) acc.length (rs.flatMap encS) := owns_fr hown FA (fun k hk e => by have := (hown.lt k hk).1; have : k = rb := e; omega)
    have hbA : w1.heap.size ≤ w2.heap.size := Nat.le_trans hsz1 FA.size
    have OF := owns_far hownA (b := bx) hbx
    have gx : bx < w2.heap.size := by omega
    have fxA : w2.frozen? ⟨bx, 0, none⟩ = false := (FA.frozen (p := ⟨bx, 0, none⟩) l3 (by show ¬ bx = rb; omega)).trans fx
    have HOA := hide hownA
    have HPW := hide PW
    have HXA := hide XA
    have HFA := hide FA
    clear heach hown hownA PW XA FA PA
    refine wpAnyT_ready (rs := [6]) (by kernel_rfl) (by simp) ?_
    refine AllReadyT.last (o := { dst := some 9, op := Op.call { callee := Callee.builtin Builtin.append, args := #[Operand.tmp 3, Operand.tmp 8], argTypes := #[111, 111] }, type := 111, pos := "ref.go:425", after := #[{ on := 0, ground := Ground.data }, { on := 5, ground := Ground.data }, { on := 3, ground := Ground.chain }, { on := 0, ground := Ground.phase }, { on := 1, ground := Ground.phase }, { on := 2, ground := Ground.phase }, { on := 3, ground := Ground.phase }, { on := 4, ground := Ground.phase }, { on := 5, ground := Ground.phase }], guard := none }) rfl (by kernel_rfl) (fun K hK => ?_) AllReadyT.nil
    refine step_append_lies _ (by rfl) (.tmp 3) (.tmp 8) 111 (by rfl) w1.heap.size 128 j0 _ 5 96 Tryd.underlying111 hj0 hy0 hy1 hy2 rfl (by decide) (.slice va acc.length vc) acc.length _ (by simp [Act.eval]) HOA.out ⟨w.heap.size, 0, none⟩ 1 1 [.int .i64 0, .string ⟨#[]⟩, .slice none 0 0, .slice none 0 0, .slice none 0 0] (by simp [Act.eval]) rfl NW (by simp [Value.oneCell']) (by decide) (by unfold maxLen; omega) (by omega) hbA _ rfl ?_
    intro g cp w6 hr6 hg6 hat6 hlt6
    have k3 : w6.cell? ⟨bx, 0, none⟩ = some (.slice va acc.length vc) := (hg6.cell_far ⟨bx, 0, none⟩ gx OF).trans hHeld.1
    have kz : w6.frozen? ⟨bx, 0, none⟩ = false := (hg6.frozen_far ⟨bx, 0, none⟩ gx OF).trans fxA
    have k6 : bx < w6.heap.size := by have := hg6.size; omega
    obtain ⟨⟨q0, q1, q2, q3, q4⟩, y0, y1, y2, y3, y4⟩ := new_cells5 hr6 HOA.out.1
    have gbx : ¬ g = bx := by
      rcases hat6 with h | h
      · intro e; subst e; exact OF h.symm
      · omega
    have gbx' : ¬ bx = g := fun e => gbx e.symm
    have HR6 := hide hr6
    have HG6 := hide hg6
    have HAT := hide hat6
    clear hr6 hg6 hat6 NW
    refine hK.out _ _ ?_
    clear hK K hHeld
    try simp only [Act.put, List.setIfInBounds_toArray, List.set_cons_zero, List.set_cons_succ]
    refine wpAny_take (i := 7) (oi := { dst := some 10, op := Op.indexAddr 111 (Operand.tmp 9) (Operand.tmp 7), type := 0, pos := "ref.go:425", after := #[{ on := 6, ground := Ground.data }, { on := 4, ground := Ground.data }, { on := 0, ground := Ground.phase }, { on := 1, ground := Ground.phase }, { on := 2, ground := Ground.phase }, { on := 3, ground := Ground.phase }, { on := 4, ground := Ground.phase }, { on := 5, ground := Ground.phase }, { on := 6, ground := Ground.phase }, { on := 9, ground := Ground.gcOnly Departure.appendInPlace }], guard := none }) (v := ?v6) rfl (by kernel_rfl) (by kernel_rfl) (by kernel_rfl) (fun _ _ _ h => h) (Or.inl ⟨by rfl, ?hy6⟩) ?rest6
    case hy6 => (intro w; go_simp; try with_reducible rfl)
    try simp only [Act.put, List.setIfInBounds_toArray, List.set_cons_zero, List.set_cons_succ]
    refine wpAny_ready (rs := [8, 9]) (by kernel_rfl) (by simp) ?_
    refine AllReady.cons (o := { dst := none, op := Op.store 128 (Operand.tmp 10) (Operand.tmp 6), type := 0, pos := "ref.go:425", after := #[{ on := 7, ground := Ground.data }, { on := 3, ground := Ground.data }, { on := 6, ground := Ground.chain }, { on := 0, ground := Ground.phase }, { on := 1, ground := Ground.phase }, { on := 2, ground := Ground.phase }, { on := 3, ground := Ground.phase }, { on := 4, ground := Ground.phase }, { on := 5, ground := Ground.phase }, { on := 6, ground := Ground.phase }, { on := 9, ground := Ground.gcOnly Departure.appendInPlace }], guard := none }) rfl (fun K hK => ?_) (AllReady.cons (o := { dst := none, op := Op.store 111 (Operand.tmp 0) (Operand.tmp 9), type := 0, pos := "ref.go:425", after := #[{ on := 6, ground := Ground.data }, { on := 6, ground := Ground.chain }, { on := 8, ground := Ground.textOnly Departure.appendInPlace }, { on := 0, ground := Ground.phase }, { on := 1, ground := Ground.phase }, { on := 2, ground := Ground.phase }, { on := 3, ground := Ground.phase }, { on := 4, ground := Ground.phase }, { on := 5, ground := Ground.phase }, { on := 6, ground := Ground.phase }, { on := 7, ground := Ground.textOnly Departure.appendInPlace }, { on := 8, ground := Ground.textOnly Departure.appendInPlace }], guard := none }) rfl (fun K hK => ?_) AllReady.nil)
    · go_simp
      refine hK _ _ ?_
      clear hK K
      try simp only [Act.put, List.setIfInBounds_toArray, List.set_cons_zero, List.set_cons_succ]
      refine wpAny_ready (rs := [9]) (by kernel_rfl) (by simp) ?_
      refine AllReady.cons (o := { dst := none, op := Op.store 111 (Operand.tmp 0) (Operand.tmp 9), type := 0, pos := "ref.go:425", after := #[{ on := 6, ground := Ground.data }, { on := 6, ground := Ground.chain }, { on := 8, ground := Ground.textOnly Departure.appendInPlace }, { on := 0, ground := Ground.phase }, { on := 1, ground := Ground.phase }, { on := 2, ground := Ground.phase }, { on := 3, ground := Ground.phase }, { on := 4, ground := Ground.phase }, { on := 5, ground := Ground.phase }, { on := 6, ground := Ground.phase }, { on := 7, ground := Ground.textOnly Departure.appendInPlace }, { on := 8, ground := Ground.textOnly Departure.appendInPlace }], guard := none }) rfl (fun K hK => ?_) AllReady.nil
      go_simp
      refine hK _ _ ?_
      clear hK K
      try simp only [Act.put, List.setIfInBounds_toArray, List.set_cons_zero, List.set_cons_succ]
      refine wpAny_done (by kernel_rfl) ?_ _
      go_end0
      refine ⟨rfl, ?_⟩
      exact JL.push st_stays encS_len hbx hrb hne.2.2.2.2 hw0 (us := [.int .i64 r.k, .string (bs r.t), .slice r.a.a r.a.n r.a.c, .slice r.x.a r.x.n r.x.c, .slice r.y.a r.y.n r.y.c]) HJ.out HR.out HFA.out HPW.out HXA.out HL.out HOA.out HR6.out HG6.out HAT.out (Nat.le_refl _) rfl rfl k3 (.inl rfl)
    · go_simp
      refine hK _ _ ?_
      clear hK K
      try simp only [Act.put, List.setIfInBounds_toArray, List.set_cons_zero, List.set_cons_succ]
      refine wpAny_ready (rs := [8]) (by kernel_rfl) (by simp) ?_
      refine AllReady.cons (o := { dst := none, op := Op.store 128 (Operand.tmp 10) (Operand.tmp 6), type := 0, pos := "ref.go:425", after := #[{ on := 7, ground := Ground.data }, { on := 3, ground := Ground.data }, { on := 6, ground := Ground.chain }, { on := 0, ground := Ground.phase }, { on := 1, ground := Ground.phase }, { on := 2, ground := Ground.phase }, { on := 3, ground := Ground.phase }, { on := 4, ground := Ground.phase }, { on := 5, ground := Ground.phase }, { on := 6, ground := Ground.phase }, { on := 9, ground := Ground.gcOnly Departure.appendInPlace }], guard := none }) rfl (fun K hK => ?_) AllReady.nil
      go_simp
      refine hK _ _ ?_
      clear hK K
      try simp only [Act.put, List.setIfInBounds_toArray, List.set_cons_zero, List.set_cons_succ]
      refine wpAny_done (by kernel_rfl) ?_ _
      go_end0
      refine ⟨rfl, ?_⟩
      exact JL.push st_stays encS_len hbx hrb hne.2.2.2.2 hw0 (us := [.int .i64 r.k, .string (bs r.t), .slice r.a.a r.a.n r.a.c, .slice r.x.a r.x.n r.x.c, .slice r.y.a r.y.n r.y.c]) HJ.out HR.out HFA.out HPW.out HXA.out HL.out HOA.out HR6.out HG6.out HAT.out (Nat.le_refl _) rfl rfl k3 (.inr (.inl rfl))
end Go.Proofs.YtpemfikdmkmgbaaDoor
end
section
/- How deep; an expression that isn't read, and one in quotes. -/
namespace Go.Proofs.YtpemfikdmkmgbaaDoor
open Go.RowKit

def deepZ (n z : Int) : Int := if 10 < n then bad z 9 else z
set_option maxHeartbeats 400000 in
theorem deep_any (rb : Nat) (l : Bs) (z n : Int) (w : World) (h : Pr rb l z w) :
    Calls Tryd.prog 64 #[.pointer (some ⟨rb, 0, none⟩), .int .i64 n] w fun r w' => r = .returned (.bool (deepZ n z == 0)) ∧ Pr rb l (deepZ n z) w' ∧ Fr (at_ rb) w w' := by
  by_cases hn : 10 < n
  · have e : deepZ n z = bad z 9 := by simp [deepZ, hn]
    rw [e]
    have HB := hide (bad_any rb l z 9 w h)
    clear h e
    go_enter Tryd.func64, Tryd.ntmps64
    go_wp2_with (go_at_call 54; refine HB.out.mono ?_; rintro e w2 ⟨rfl, hp, hf⟩; have c1 := hp.e; have hlt := hp.lt; have HP := hide hp; have HF := hide hf; clear hp hf)
    go_ret
    exact ⟨rfl, HP.out, HF.out⟩
  · have e : deepZ n z = z := by simp [deepZ, hn]
    rw [e]
    have c1 := h.e
    have hlt := h.lt
    have HP := hide h
    clear h e
    go_enter Tryd.func64, Tryd.ntmps64
    go_wp2
    go_ret
    exact ⟨rfl, HP.out, Fr.refl _ _⟩
/-- Three blocks made ahead stay. -/
theorem made3 {w w' : World} {A B C : Array Value} {ta tb tc : TypeId} {S : Nat → Prop} (hf : Fr S (((w.alloc (.cells A ta)).alloc (.cells B tb)).alloc (.cells C tc)) w') (h0 : ¬ S w.heap.size) (h1 : ¬ S (w.heap.size + 1)) (h2 : ¬ S (w.heap.size + 1 + 1)) :
    (∀ j, w'.cell? ⟨w.heap.size, j, none⟩ = A[j]?) ∧ (∀ j, w'.cell? ⟨w.heap.size + 1, j, none⟩ = B[j]?) ∧ (∀ j, w'.cell? ⟨w.heap.size + 1 + 1, j, none⟩ = C[j]?) ∧ (∀ j, w'.frozen? ⟨w.heap.size + 1 + 1, j, none⟩ = false) ∧ w.heap.size + 1 + 1 < w'.heap.size := by
  have hz := hf.size
  simp at hz
  have e1 : (w.alloc (.cells A ta)).heap.size = w.heap.size + 1 := by simp
  have e2 : ((w.alloc (.cells A ta)).alloc (.cells B tb)).heap.size = w.heap.size + 1 + 1 := by simp
  refine ⟨fun j => ?_, fun j => ?_, fun j => ?_, fun j => ?_, by omega⟩
  · rw [hf.cell (p := ⟨w.heap.size, j, none⟩) (by simp; omega) h0, World.cell?_alloc_past _ _ _ (by simp; omega), World.cell?_alloc_past _ _ _ (by simp), World.cell?_alloc_new]
  · rw [hf.cell (p := ⟨w.heap.size + 1, j, none⟩) (by simp) h1, World.cell?_alloc_past _ _ _ (by simp), ← e1, World.cell?_alloc_new]
  · rw [hf.cell (p := ⟨w.heap.size + 1 + 1, j, none⟩) (by simp) h2, ← e2, World.cell?_alloc_new]
  · rw [hf.frozen (p := ⟨w.heap.size + 1 + 1, j, none⟩) (by simp) h2, ← e2, World.frozen?_alloc_new]
abbrev w3of (w : World) (rb : Nat) (d : Int) : World := ((w.alloc (.cells #[.pointer (some ⟨rb, 0, none⟩)] 105)).alloc (.cells #[.int .i64 d] 3)).alloc (.cells #[.int .i64 0, .int .i64 0, .string ⟨#[]⟩, .slice none 0 0] 131)
theorem fr3 {S : Nat → Prop} (w : World) (rb : Nat) (d : Int) : Fr S w (w3of w rb d) := (((Fr.refl S w).alloc _).alloc _).alloc _
theorem boxes {w w' : World} {rb : Nat} {d : Int} (hrb : rb < w.heap.size) (hf : Fr (at_ rb) (w3of w rb d) w') :
    w'.cell? ⟨w.heap.size, 0, none⟩ = some (.pointer (some ⟨rb, 0, none⟩)) ∧ w'.cell? ⟨w.heap.size + 1, 0, none⟩ = some (.int .i64 d) ∧
    w'.cell? ⟨w.heap.size + 1 + 1, 0, none⟩ = some (.int .i64 0) ∧ w'.cell? ⟨w.heap.size + 1 + 1, 1, none⟩ = some (.int .i64 0) ∧ w'.cell? ⟨w.heap.size + 1 + 1, 2, none⟩ = some (.string ⟨#[]⟩) ∧ w'.cell? ⟨w.heap.size + 1 + 1, 3, none⟩ = some (.slice none 0 0) ∧
    w'.frozen? ⟨w.heap.size + 1 + 1, 0, none⟩ = false ∧ w'.frozen? ⟨w.heap.size + 1 + 1, 1, none⟩ = false ∧ w'.frozen? ⟨w.heap.size + 1 + 1, 2, none⟩ = false ∧ w'.frozen? ⟨w.heap.size + 1 + 1, 3, none⟩ = false ∧ w.heap.size + 1 + 1 < w'.heap.size := by
  obtain ⟨h1, h2, h3, h4, h5⟩ := made3 hf (by show ¬ w.heap.size = rb; omega) (by show ¬ w.heap.size + 1 = rb; omega) (by show ¬ w.heap.size + 1 + 1 = rb; omega)
  exact ⟨h1 0, h2 0, h3 0, h3 1, h3 2, h3 3, h4 0, h4 1, h4 2, h4 3, h5⟩
/-- The answer is laid in its own block. -/
theorem ex_fin {rb : Nat} {w w' : World} {d : Int} {res : Rd Ex} {r : RawE} (hrb : rb < w.heap.size) (hf : Fr (at_ rb) (w3of w rb d) w') (hp : Pr rb res.l res.z w') (hx : ExOk w' (fun k => w.heap.size + 1 + 1 < k ∧ k < w'.heap.size) r res.v) (u0 u1 u2 u3 : Value) :
    XPost ev ExOk rb w res (.returned (ev r)) ((((w'.setCell ⟨w.heap.size + 1 + 1, 0, none⟩ u0).setCell ⟨w.heap.size + 1 + 1, 1, none⟩ u1).setCell ⟨w.heap.size + 1 + 1, 2, none⟩ u2).setCell ⟨w.heap.size + 1 + 1, 3, none⟩ u3) := by
  have hf9 : Fr (fun k => k = w.heap.size + 1 + 1) w' ((((w'.setCell ⟨w.heap.size + 1 + 1, 0, none⟩ u0).setCell ⟨w.heap.size + 1 + 1, 1, none⟩ u1).setCell ⟨w.heap.size + 1 + 1, 2, none⟩ u2).setCell ⟨w.heap.size + 1 + 1, 3, none⟩ u3) := Fr.putAll (us := [u0, u1, u2, u3]) (o := 0) (g := w.heap.size + 1 + 1) (Fr.refl _ w') (.inl rfl)
  refine ⟨r, rfl, ((fr3 w rb d).trans hf).then hf9 (fun j hj e => by omega), hp.fr hf9 (by omega), ex_stays _ _ _ _ _ _ _ hx hf9 (fun k hk e => by omega) (fun k hk => ⟨by omega, Nat.lt_of_lt_of_le hk.2 hf9.size⟩)⟩
set_option maxHeartbeats 400000 in
set_option maxRecDepth 20000 in
/-- Too deep, or wrong already. -/
theorem expr_not (rb : Nat) (l : Bs) (z d : Int) (w : World) (h : Pr rb l z w) (hz : deepZ d z ≠ 0) :
    Calls Tryd.prog 65 #[.pointer (some ⟨rb, 0, none⟩), .int .i64 d] w (XPost ev ExOk rb w ⟨ex0, l, deepZ d z⟩) := by
  have HD := hide (deep_any rb l z d _ (h.fr (fr3 w rb d) (S := nothing) id))
  have hrb := h.lt
  have hz' : (deepZ d z == 0) = false := by simpa using hz
  rw [hz'] at HD
  clear h hz'
  go_enter Tryd.func65, Tryd.ntmps65
  go_wp2_with (go_at_call 64; refine HD.out.mono ?_; rintro e w2 ⟨rfl, hp, hf⟩; obtain ⟨b0, b1, c0, c1, c2, c3, f0, f1, f2, f3, hlt⟩ := boxes hrb hf; have HP := hide hp; have HF := hide hf; clear hp hf)
  refine bodyPost_ret (v := ev ⟨0, 0, [], nilS⟩) (by simp [results, Tryd.results65, go_sem, c0, c1, c2, c3, bs]) rfl ?_
  exact ex_fin (res := ⟨ex0, l, deepZ d z⟩) hrb HF.out HP.out (ex_leaf _ _ _ _ _) _ _ _ _
end Go.Proofs.YtpemfikdmkmgbaaDoor
end
section
/- Statements up to a bracket. -/
namespace Go.Proofs.YtpemfikdmkmgbaaDoor
open Go.RowKit

/-- A list of statements, as it is answered. -/
def LPost (rb : Nat) (w : World) (res : Rd (List St)) (e : Ending) (w' : World) : Prop :=
  ∃ s : Slc, e = .returned (.slice s.a s.n s.c) ∧ Fr (at_ rb) w w' ∧ Pr rb res.l res.z w' ∧ s.n = res.v.length ∧ ∃ rs, Sl encS 5 w' s.v rs ∧ (∀ b, s.v.ownBlock = some b → w.heap.size ≤ b ∧ b < w'.heap.size) ∧ Each (StOk w' (fun k => w.heap.size ≤ k ∧ k < w'.heap.size)) rs res.v
set_option maxHeartbeats 400000 in
set_option maxRecDepth 20000 in
theorem stmts_any (w0 : World) (rb : Nat) (d : Int) (one : Reader St) (N : Nat) (hN : 1502 ≤ N) (hless : Less one) (hsmall : Small one) (hd0 : 0 ≤ d) (hd : d ≤ 100)
    (hone : ∀ l w, Pw w0 rb l 0 w → Calls Tryd.prog 58 #[.pointer (some ⟨rb, 0, none⟩), .int .i64 d] w (XPost sv StOk rb w (one l 0)))
    (l : Bs) (z : Int) (w : World) (h : Pw w0 rb l z w) :
    Calls Tryd.prog 46 #[.pointer (some ⟨rb, 0, none⟩), .int .i64 d] w (LPost rb w (until_ one N l z)) := by
  have hrb := h.pr.lt
  have hge := h.ge
  have hF3 : Fr nothing w (((w.alloc (.cells #[.pointer (some ⟨rb, 0, none⟩)] 105)).alloc (.cells #[.int .i64 d] 3)).alloc (.cells #[.slice none 0 0] 111)) := (((Fr.refl _ w).alloc _).alloc _).alloc _
  have hm := made3 (Fr.refl nothing (((w.alloc (.cells #[.pointer (some ⟨rb, 0, none⟩)] 105)).alloc (.cells #[.int .i64 d] 3)).alloc (.cells #[.slice none 0 0] 111))) id id id
  have hP3 := h.fr hF3 id (fun k e => e.elim)
  generalize hw1 : (((w.alloc (.cells #[.pointer (some ⟨rb, 0, none⟩)] 105)).alloc (.cells #[.int .i64 d] 3)).alloc (.cells #[.slice none 0 0] 111)) = w1 at hF3 hm hP3
  obtain ⟨m1, m2, m3, m4, m5⟩ := hm
  have hJ0 : JL w0 rb 128 5 encS StOk w1 (w.heap.size + 1 + 1) 0 [] l z w1 :=
    { pw := hP3, fr := Fr.refl _ _, fz := fun _ => rfl, old := fun _ _ => rfl, le := fun _ => by have := hP3.len; simpa using this, row := ⟨nilS, m3 0, Row.nil _ (Nat.le_refl _)⟩ }
  have hw01 := hP3.bel.size
  have hww := h.bel.size
  have hrb1 := hP3.pr.lt
  have hne : w.heap.size ≠ rb ∧ w.heap.size ≠ w.heap.size + 1 + 1 ∧ w.heap.size + 1 ≠ rb ∧ w.heap.size + 1 ≠ w.heap.size + 1 + 1 ∧ w.heap.size + 1 + 1 ≠ rb := ⟨by omega, by omega, by omega, by omega, by omega⟩
  have hU := until_S rb _ _ _ one (JL w0 rb 128 5 encS StOk w1 (w.heap.size + 1 + 1) 0) hless hsmall (fun acc l z w h => ⟨h.pw.pr, h.pw.len⟩)
    (fun acc l l' z z' w' w'' h hp hl hz hf => h.move st_stays m5 hrb1 hne.2.2.2.2 hp hl hz hf)
    (fun acc l w' h => clS w0 rb w1 w.heap.size (w.heap.size + 1) (w.heap.size + 1 + 1) d one acc l w' hone hless hsmall hd0 hd (m1 0) (m2 0) m5 hrb1 hne ⟨by omega, hw01⟩ (m4 0) h)
    N [] l z w1 hJ0 (by omega) (fun _ => by have := hP3.len; omega)
  simp only [List.nil_append] at hU
  subst hw1
  have HU := hide hU
  have HF3 := hide hF3
  generalize until_ one N l z = q at *
  clear hU hJ0 hP3 h hone m1 m2 m3 m4 m5 hF3
  go_enter Tryd.func46, Tryd.ntmps46
  go_wp2_with (go_at_call 44; refine HU.out.mono ?_; rintro e w9 ⟨rfl, hj⟩; obtain ⟨⟨sa, sn, sc⟩, hc3, hrow⟩ := hj.row; obtain rfl : sn = q.v.length := (by obtain ⟨a, c, h⟩ := hrow.shape; cases h; rfl); have hb9 : w.heap.size + 1 + 1 < w9.heap.size := (by have := hj.fr.size; simp at this; omega); have HJ9 := hide hj; have HR := hide hrow; clear hj hrow)
  go_ret
  obtain ⟨rs, k1, k2, k3⟩ := HR.out.done st_stays encS_len (B := w.heap.size) (by simp; omega)
  refine ⟨⟨sa, q.v.length, sc⟩, rfl, HF3.out.mono (fun _ _ e => e.elim) |>.then HJ9.out.fr (fun j hj e => ?_), HJ9.out.pw.pr, rfl, rs, k1, k2, k3⟩
  rcases e with e | e
  · exact e
  · omega
end Go.Proofs.YtpemfikdmkmgbaaDoor
end
section
/- One more, also where something is wrong. -/
namespace Go.Proofs.YtpemfikdmkmgbaaDoor
open Go.RowKit
section
variable {ρ α : Type} {w0 : World} {rb E sz : Nat} {enc : ρ → List Value} {ok : World → (Nat → Prop) → ρ → α → Prop} {w1 : World} {bx off : Nat}
theorem JL.pushz (hst : Stays ok) (hlen : ∀ r, (enc r).length = sz) (hbx : bx < w1.heap.size) (hrb : rb < w1.heap.size) (hne : bx ≠ rb) (hw0 : w0.heap.size ≤ bx ∧ w0.heap.size ≤ w1.heap.size) {acc : List α} {l l' : Bs} {z z' : Int} {w wA w6 w9 : World} {s : Slc} {g cp H : Nat} {r : ρ} {x : α} {xs zs us : List Value} (h : JL w0 rb E sz enc ok w1 bx off acc l z w)
    (hrow : Row E sz enc ok w1.heap.size s.v acc w) (hF : Fr (at_ rb) w wA) (hpA : Pw w0 rb l' z' wA) (hx : ok wA (fun k => w.heap.size ≤ k ∧ k < wA.heap.size) r x) (hle : z' = 0 → acc.length + 1 + l'.length ≤ 1500)
    (hxs : wA.ownsRow w1.heap.size E sz s.v acc.length xs) (hr6 : w6.ownsRow w1.heap.size E sz (.slice (some ⟨g, 0, none⟩) (acc.length + 1) cp) (acc.length + 1) (xs ++ zs)) (hg6 : wA.grownBy w6 s.v.ownBlock) (hat : s.v.ownBlock = some g ∨ g = H) (hH : wA.heap.size ≤ H)
    (hzs : zs.length = sz) (hus : us = enc r) (hk6 : w6.cell? ⟨bx, off, none⟩ = some s.v)
    (h9 : w9 = (putAll w6 g (acc.length * sz) us).setCell ⟨bx, off, none⟩ (.slice (some ⟨g, 0, none⟩) (acc.length + 1) cp) ∨ w9 = putAll (w6.setCell ⟨bx, off, none⟩ (.slice (some ⟨g, 0, none⟩) (acc.length + 1) cp)) g (acc.length * sz) us ∨ (zs = us ∧ w9 = w6.setCell ⟨bx, off, none⟩ (.slice (some ⟨g, 0, none⟩) (acc.length + 1) cp))) :
    JL w0 rb E sz enc ok w1 bx off (acc ++ [x]) l' z' w9 := by
  subst hus
  have hsz := h.fr.size
  have hszA := hF.size
  have hownlt : ∀ k, s.v.ownBlock = some k → w1.heap.size ≤ k ∧ k < wA.heap.size := hxs.lt
  have hgb : g ≠ bx := by
    rcases hat with e | e
    · have := (hownlt g e).1; omega
    · omega
  have hgr : g ≠ rb := by
    rcases hat with e | e
    · have := (hownlt g e).1; omega
    · omega
  have hat' : s.v.ownBlock = some g ∨ wA.heap.size ≤ g := by
    rcases hat with e | e
    · exact .inl e
    · exact .inr (by omega)
  have F6 : Fr (fun k => k = bx ∨ s.v.ownBlock = some k) wA w6 := (Fr.refl _ wA).grown hg6 (fun k hk => .inl (.inr hk))
  have hgS : (g = bx ∨ s.v.ownBlock = some g) ∨ wA.heap.size ≤ g := hat'.imp .inr id
  have hA9 : Fr (fun k => k = bx ∨ s.v.ownBlock = some k) wA w9 := by
    rcases h9 with rfl | rfl | ⟨hzu, rfl⟩
    · exact (F6.putAll hgS).setCell (p := ⟨bx, off, none⟩) (.inl (.inl rfl)) _
    · exact Fr.putAll (F6.setCell (p := ⟨bx, off, none⟩) (.inl (.inl rfl)) _) hgS
    · exact F6.setCell (p := ⟨bx, off, none⟩) (.inl (.inl rfl)) _
  have hbS : ∀ (wa : World) (cs : List Value), wa.ownsRow w1.heap.size E sz (.slice (some ⟨g, 0, none⟩) (acc.length + 1) cp) (acc.length + 1) cs → (wa.setCell ⟨bx, off, none⟩ (.slice (some ⟨g, 0, none⟩) (acc.length + 1) cp)).ownsRow w1.heap.size E sz (.slice (some ⟨g, 0, none⟩) (acc.length + 1) cp) (acc.length + 1) cs := fun wa cs hh =>
    owns_fr hh (Fr.setCell (Fr.refl (fun k => k = bx) wa) (p := ⟨bx, off, none⟩) (.inl rfl) _) (fun k hk e => by
      have : g = k := by simpa [Value.ownBlock] using hk
      omega)
  have hend : setAll (xs ++ zs) (acc.length * sz) (enc r) = xs ++ enc r := by
    have := setAll_end (enc r) xs zs (by rw [hzs, hlen])
    rwa [hxs.1] at this
  have row9 : w9.ownsRow w1.heap.size E sz (.slice (some ⟨g, 0, none⟩) (acc.length + 1) cp) (acc.length + 1) (xs ++ enc r) := by
    rcases h9 with rfl | rfl | ⟨hzu, rfl⟩
    · have := owns_putAll (us := enc r) (o := acc.length * sz) hr6
      rw [hend] at this
      exact hbS _ _ this
    · have := owns_putAll (us := enc r) (o := acc.length * sz) (hbS _ _ hr6)
      rw [hend] at this
      exact this
    · rw [hzu] at hr6
      exact hbS _ _ hr6
  have hcell : w9.cell? ⟨bx, off, none⟩ = some (.slice (some ⟨g, 0, none⟩) (acc.length + 1) cp) := by
    rcases h9 with rfl | rfl | ⟨hzu, rfl⟩
    · exact World.cell?_setCell_same _ _ _ (by rw [putAll_far hgb]; exact hk6)
    · rw [putAll_far hgb]; exact World.cell?_setCell_same _ _ _ hk6
    · exact World.cell?_setCell_same _ _ _ hk6
  have hfar : some bx ≠ s.v.ownBlock := fun e => by have := (hownlt bx e.symm).1; omega
  have hcell6 : ∀ j, j ≠ off → w9.cell? ⟨bx, j, none⟩ = w6.cell? ⟨bx, j, none⟩ := fun j hj => by
    rcases h9 with rfl | rfl | ⟨hzu, rfl⟩
    · rw [World.cell?_setCell_other _ ⟨bx, off, none⟩ ⟨bx, j, none⟩ _ (fun e => hj (by cases e; rfl)), putAll_far hgb]
    · rw [putAll_far hgb, World.cell?_setCell_other _ ⟨bx, off, none⟩ ⟨bx, j, none⟩ _ (fun e => hj (by cases e; rfl))]
    · rw [World.cell?_setCell_other _ ⟨bx, off, none⟩ ⟨bx, j, none⟩ _ (fun e => hj (by cases e; rfl))]
  have hfz6 : ∀ j, w9.frozen? ⟨bx, j, none⟩ = w6.frozen? ⟨bx, j, none⟩ := fun j => by
    rcases h9 with rfl | rfl | ⟨hzu, rfl⟩
    · rw [World.frozen?_setCell, putAll_frozen]
    · rw [putAll_frozen, World.frozen?_setCell]
    · rw [World.frozen?_setCell]
  have hbA : bx < wA.heap.size := by omega
  exact { pw := hpA.fr hA9 (fun e => by
            rcases e with e | e
            · exact hne e.symm
            · have := (hownlt rb e).1; omega) (fun k e => by
            rcases e with e | e
            · omega
            · have := (hownlt k e).1; omega)
          fr := (h.fr.trans (hF.mono (fun k _ e => .inl e))).then hA9 (fun j hj e => by
            rcases e with e | e
            · exact .inr e
            · have := (hownlt j e).1; omega)
          fz := fun j => (hfz6 j).trans ((hg6.frozen_far ⟨bx, j, none⟩ hbA hfar).trans ((hF.frozen (p := ⟨bx, j, none⟩) (by show bx < _; omega) hne).trans (h.fz j)))
          old := fun j hj => (hcell6 j hj).trans ((hg6.cell_far ⟨bx, j, none⟩ hbA hfar).trans ((hF.cell (p := ⟨bx, j, none⟩) (by show bx < _; omega) hne).trans (h.old j hj)))
          le := fun h0 => by have := hle h0; simp; omega
          row := ⟨⟨some ⟨g, 0, none⟩, acc.length + 1, cp⟩, hcell, hrow.push hst hF (fun k e => by show k < _; have : k = rb := e; omega) (Nat.le_refl _) hx hA9 (fun k e => by
              rcases e with e | e
              · exact .inl (by omega)
              · exact .inr e) (fun rs hrs => by
              have h2 : wA.ownsRow w1.heap.size E sz s.v acc.length (rs.flatMap enc) := owns_fr hrs hF (fun k hk e => by have := (hrs.lt k hk).1; have : k = rb := e; omega)
              have : rs.flatMap enc = xs := owns_same h2 hxs
              rw [this]
              exact row9) (by
              rcases hat' with e | e
              · exact .inl e.symm
              · exact .inr ⟨g, rfl, e⟩)⟩ }
end
end Go.Proofs.YtpemfikdmkmgbaaDoor
end
section
/- Maps of names. -/
namespace Go.Proofs.YtpemfikdmkmgbaaDoor
open Go.RowKit

/-- What a map holds, and how much. -/
structure AMap where
  f : Bs → Option Int
  n : Nat
def AMap.empty : AMap := ⟨fun _ => none, 0⟩
def AMap.put (A : AMap) (k : Bs) (v : Int) : AMap := ⟨fun x => if x = k then some v else A.f x, if (A.f k).isSome then A.n else A.n + 1⟩
def AMap.del (A : AMap) (k : Bs) : AMap := ⟨fun x => if x = k then none else A.f x, if (A.f k).isSome then A.n - 1 else A.n⟩
theorem law9 : Maps.Keyed Tryd.prog 9 := Maps.string_keyed Tryd.underlying9
theorem zero3 (w : World) : (zeroValue 3).run Tryd.prog w = .ok (.int .i64 0) w := by kernel_rfl
theorem key9 (k : Bs) (hk : k.length ≤ 100000) : keyOf Tryd.prog 9 (.string (bs k)) = some (.string k) := WideMaps.keyOf_string_mk Tryd.underlying9 (s := bs k) (by rw [bs_size]; unfold maxLen; omega)
/-- The block b is a map of names to numbers. -/
def SI (b : Nat) (A : AMap) (w : World) : Prop :=
  ∃ D : DataW Unit, w.ownsMap Tryd.prog 9 (plainElem Tryd.prog 3) b A.n D ∧ (∀ k, D.atKey (.string k) (.lit (.int .i64 0)) = .lit (.int .i64 ((A.f k).getD 0))) ∧ (∀ k, Maps.has D (.string k) = (A.f k).isSome) ∧ Maps.size D = A.n
theorem SI.lt {b : Nat} {A : AMap} {w : World} (h : SI b A w) : b < w.heap.size := by
  obtain ⟨D, h1, _⟩ := h
  exact World.ownsMap.lt h1
theorem owns_map_fr {P : Program} {k : TypeId} {R : Value → Option (DataW Unit × List MemPlace)} {b n : Nat} {D : DataW Unit} {w w' : World} {S : Nat → Prop} (h : w.ownsMap P k R b n D) (hf : Fr S w w') (hs : ¬ S b) : w'.ownsMap P k R b n D := by
  have hlt := World.ownsMap.lt h
  obtain ⟨es, clock, hb, F, hz, hD⟩ := h
  exact ⟨es, clock, (hf.block b hlt hs).trans hb, F, hz, hD⟩
theorem owns_map_tight {P : Program} {k : TypeId} {R : Value → Option (DataW Unit × List MemPlace)} {b n : Nat} {D : DataW Unit} {w : World} (h : w.ownsMap P k R b n D) : w.ownsMap P k R b (Maps.size D) D := by
  obtain ⟨es, clock, hb, F, hz, rfl⟩ := h
  exact ⟨es, clock, hb, F, by simp [Maps.size, length_sorted], rfl⟩
theorem SI.fr {b : Nat} {A : AMap} {w w' : World} {S : Nat → Prop} (h : SI b A w) (hf : Fr S w w') (hs : ¬ S b) : SI b A w' := by
  obtain ⟨D, h1, h2⟩ := h
  exact ⟨D, owns_map_fr h1 hf hs, h2⟩
theorem SI.made (w : World) : SI w.heap.size AMap.empty (w.alloc (.map #[] 0)) :=
  ⟨.map [], World.ownsMap_made w Tryd.prog 9 _, fun _ => rfl, fun _ => rfl, rfl⟩
theorem SI.look {b : Nat} {A : AMap} {w : World} (h : SI b A w) (k : Bs) (hk : k.length ≤ 100000) : (Instr.lookup 119 (.map (some b)) (.string (bs k)) false).run Tryd.prog w = .ok (.int .i64 ((A.f k).getD 0)) w := by
  obtain ⟨D, h1, h2, _⟩ := h
  obtain ⟨c, hrun, hat, _⟩ := h1.lookup_int law9 Tryd.underlying119 Tryd.underlying3 (zero3 w) (key9 k hk)
  rw [h2] at hat
  simp only [DataW.lit.injEq, Lit.int.injEq, true_and] at hat
  rw [hrun, hat]
theorem SI.look2 {b : Nat} {A : AMap} {w : World} (h : SI b A w) (k : Bs) (hk : k.length ≤ 100000) : (Instr.lookup 119 (.map (some b)) (.string (bs k)) true).run Tryd.prog w = .ok (.tuple #[.int .i64 ((A.f k).getD 0), .bool (A.f k).isSome]) w := by
  obtain ⟨D, h1, h2, h3, _⟩ := h
  obtain ⟨v, ps, hrun, hv⟩ := h1.look_ok law9 Tryd.underlying119 (zero3 w) (plainElem_int Tryd.underlying3 (by decide)) (key9 k hk)
  obtain ⟨c, rfl, hc, _⟩ := plainElem_int_inv Tryd.underlying3 hv
  have hat := congrArg Prod.fst hc
  simp only at hat
  rw [h2] at hat
  simp only [DataW.lit.injEq, Lit.int.injEq, true_and] at hat
  rw [hrun, h3, hat]
theorem isMap_of {P : Program} {k : TypeId} {R : Value → Option (DataW Unit × List MemPlace)} {b n : Nat} {D : DataW Unit} {w : World} (h : w.ownsMap P k R b n D) : Maps.IsMap D := World.ownsMap.isMap h
theorem SI.store {b : Nat} {A : AMap} {w : World} (h : SI b A w) (k : Bs) (hk : k.length ≤ 100000) (v : Int) (hn : A.n ≤ 100000) (h0 : -9223372036854775808 ≤ v) (h1 : v ≤ 9223372036854775807) :
    ∃ w', (Instr.mapUpdate 119 (.map (some b)) (.string (bs k)) (.int .i64 v)).run Tryd.prog w = .ok () w' ∧ SI b (A.put k v) w' ∧ Fr (fun j => j = b) w w' := by
  obtain ⟨D, g1, g2, g3, g4⟩ := h
  have hw : (Lit.int .i64 v).wf = true := by simp [Lit.wf, IntKind.min, IntKind.max, IntKind.signed, IntKind.bits]; omega
  obtain ⟨w', hrun, ho, hg⟩ := g1.update law9 Tryd.underlying119 (by unfold maxLen; omega) (key9 k hk) (plainElem_int Tryd.underlying3 hw)
  have hmap := isMap_of g1
  have hkey : WideAt.IsKeyLit (.string k) := by trivial
  have htd := World.ownsMap.tidy g1 law9
  have hsz : Maps.size (D.put (.string k) (.lit (.int .i64 v))) = (A.put k v).n := by
    rw [Maps.size_put htd, g3, g4]
    rfl
  refine ⟨w', hrun, ⟨D.put (.string k) (.lit (.int .i64 v)), ?_, fun x => ?_, fun x => ?_, hsz⟩, (Fr.refl _ w).grown hg (fun j hj => .inl (by simpa using hj.symm))⟩
  · rw [← hsz]; exact owns_map_tight ho
  · by_cases hx : x = k
    · subst hx
      rw [Maps.atKey_put_same hmap hkey]
      simp [AMap.put]
    · rw [Maps.atKey_put_other (by intro e; exact hx (by cases e; rfl)), g2]
      simp [AMap.put, hx]
  · by_cases hx : x = k
    · subst hx
      rw [Maps.has_put_same hmap hkey]
      simp [AMap.put]
    · rw [Maps.has_put_other (by intro e; exact hx (by cases e; rfl)), g3]
      simp [AMap.put, hx]
theorem SI.drop {b : Nat} {A : AMap} {w : World} (h : SI b A w) (k : Bs) (hk : k.length ≤ 100000) (ty : TypeId) :
    ∃ w', (Builtin.delete_ #[119, 9] ty #[.map (some b), .string (bs k)]).run Tryd.prog w = .ok (.tuple #[]) w' ∧ SI b (A.del k) w' ∧ Fr (fun j => j = b) w w' := by
  obtain ⟨D, g1, g2, g3, g4⟩ := h
  obtain ⟨w', hrun, ho, ht⟩ := g1.drop law9 Tryd.underlying119 (key9 k hk) ty
  have htd := World.ownsMap.tidy g1 law9
  have hsz : Maps.size (D.del (.string k)) = (A.del k).n := by
    have := Maps.size_del (k := .string k) htd
    rw [g3, g4] at this
    unfold AMap.del
    by_cases hs : (A.f k).isSome
    · simp only [hs, if_true] at this ⊢; omega
    · have hs' : (A.f k).isSome = false := by simpa using hs
      simp only [hs', Bool.false_eq_true, if_false] at this ⊢; omega
  refine ⟨w', hrun, ⟨D.del (.string k), ?_, fun x => ?_, fun x => ?_, hsz⟩, (Fr.refl _ w).grown ht.grown (fun j hj => .inl (by simpa using hj.symm))⟩
  · rw [← hsz]; exact owns_map_tight ho
  · by_cases hx : x = k
    · subst hx
      rw [Maps.atKey_del_same]
      simp [AMap.del]
    · rw [Maps.atKey_del_other (by intro e; exact hx (by cases e; rfl)), g2]
      simp [AMap.del, hx]
  · by_cases hx : x = k
    · subst hx
      rw [Maps.has_del_same]
      simp [AMap.del]
    · rw [Maps.has_del_other (by intro e; exact hx (by cases e; rfl)), g3]
      simp [AMap.del, hx]
theorem SI.len {b : Nat} {A : AMap} {w : World} (h : SI b A w) (ty : TypeId) : (Builtin.len_ #[119] ty #[.map (some b)]).run Tryd.prog w = .ok (.int .i64 A.n) w := by
  obtain ⟨D, g1, _, _, g4⟩ := h
  rw [g1.len Tryd.underlying119 ty, g4]
end Go.Proofs.YtpemfikdmkmgbaaDoor
end
section
/- The words of statements: the map of kinds. -/
namespace Go.Proofs.YtpemfikdmkmgbaaDoor
open Go.RowKit

def kindsA : AMap := ((((((((AMap.empty.put [108, 101, 116] 1).put [115, 101, 116] 2).put [105, 102] 3).put [119, 104, 105, 108, 101] 4).put [115, 97, 121] 5).put [114, 101, 116, 117, 114, 110] 6).put [112, 117, 116, 108] 7).put [112, 117, 116, 114] 8).put [100, 111] 9
theorem kindsA_at (v : Bs) : (kindsA.f v).getD 0 = (kindOf v : Int) := by
  by_cases h0 : v = [108, 101, 116]
  · subst h0; rfl
  by_cases h1 : v = [115, 101, 116]
  · subst h1; rfl
  by_cases h2 : v = [105, 102]
  · subst h2; rfl
  by_cases h3 : v = [119, 104, 105, 108, 101]
  · subst h3; rfl
  by_cases h4 : v = [115, 97, 121]
  · subst h4; rfl
  by_cases h5 : v = [114, 101, 116, 117, 114, 110]
  · subst h5; rfl
  by_cases h6 : v = [112, 117, 116, 108]
  · subst h6; rfl
  by_cases h7 : v = [112, 117, 116, 114]
  · subst h7; rfl
  by_cases h8 : v = [100, 111]
  · subst h8; rfl
  have e : kindOf v = 0 := by
    unfold kindOf
    rw [if_neg h0, if_neg h1, if_neg h2, if_neg h3, if_neg h4, if_neg h5, if_neg h6, if_neg h7, if_neg h8]
  rw [e]
  simp [kindsA, AMap.put, AMap.empty, h0, h1, h2, h3, h4, h5, h6, h7, h8]
theorem kinds_run (w : World) (v : Bs) (hv : v.length ≤ 1500) : ∃ m1 m2 m3 m4 m5 m6 m7 m8 m9 : World,
    (Instr.mapUpdate 119 (.map (some w.heap.size)) (.string ⟨#[108, 101, 116]⟩) (.int .i64 1)).run Tryd.prog (w.alloc (.map #[] 0)) = .ok () m1 ∧
    (Instr.mapUpdate 119 (.map (some w.heap.size)) (.string ⟨#[115, 101, 116]⟩) (.int .i64 2)).run Tryd.prog m1 = .ok () m2 ∧
    (Instr.mapUpdate 119 (.map (some w.heap.size)) (.string ⟨#[105, 102]⟩) (.int .i64 3)).run Tryd.prog m2 = .ok () m3 ∧
    (Instr.mapUpdate 119 (.map (some w.heap.size)) (.string ⟨#[119, 104, 105, 108, 101]⟩) (.int .i64 4)).run Tryd.prog m3 = .ok () m4 ∧
    (Instr.mapUpdate 119 (.map (some w.heap.size)) (.string ⟨#[115, 97, 121]⟩) (.int .i64 5)).run Tryd.prog m4 = .ok () m5 ∧
    (Instr.mapUpdate 119 (.map (some w.heap.size)) (.string ⟨#[114, 101, 116, 117, 114, 110]⟩) (.int .i64 6)).run Tryd.prog m5 = .ok () m6 ∧
    (Instr.mapUpdate 119 (.map (some w.heap.size)) (.string ⟨#[112, 117, 116, 108]⟩) (.int .i64 7)).run Tryd.prog m6 = .ok () m7 ∧
    (Instr.mapUpdate 119 (.map (some w.heap.size)) (.string ⟨#[112, 117, 116, 114]⟩) (.int .i64 8)).run Tryd.prog m7 = .ok () m8 ∧
    (Instr.mapUpdate 119 (.map (some w.heap.size)) (.string ⟨#[100, 111]⟩) (.int .i64 9)).run Tryd.prog m8 = .ok () m9 ∧
    (Instr.lookup 119 (.map (some w.heap.size)) (.string (bs v)) false).run Tryd.prog m9 = .ok (.int .i64 (kindOf v)) m9 ∧ Fr nothing w m9 ∧ w.heap.size < m9.heap.size := by
  have h0 := SI.made w
  have F0 : Fr (fun j => j = w.heap.size) (w.alloc (.map #[] 0)) (w.alloc (.map #[] 0)) := Fr.refl _ _
  obtain ⟨m1, r1, h1, g1⟩ := h0.store [108, 101, 116] (by decide) 1 (by decide) (by decide) (by decide)
  have F1 := F0.trans g1
  obtain ⟨m2, r2, h2, g2⟩ := h1.store [115, 101, 116] (by decide) 2 (by decide) (by decide) (by decide)
  have F2 := F1.trans g2
  obtain ⟨m3, r3, h3, g3⟩ := h2.store [105, 102] (by decide) 3 (by decide) (by decide) (by decide)
  have F3 := F2.trans g3
  obtain ⟨m4, r4, h4, g4⟩ := h3.store [119, 104, 105, 108, 101] (by decide) 4 (by decide) (by decide) (by decide)
  have F4 := F3.trans g4
  obtain ⟨m5, r5, h5, g5⟩ := h4.store [115, 97, 121] (by decide) 5 (by decide) (by decide) (by decide)
  have F5 := F4.trans g5
  obtain ⟨m6, r6, h6, g6⟩ := h5.store [114, 101, 116, 117, 114, 110] (by decide) 6 (by decide) (by decide) (by decide)
  have F6 := F5.trans g6
  obtain ⟨m7, r7, h7, g7⟩ := h6.store [112, 117, 116, 108] (by decide) 7 (by decide) (by decide) (by decide)
  have F7 := F6.trans g7
  obtain ⟨m8, r8, h8, g8⟩ := h7.store [112, 117, 116, 114] (by decide) 8 (by decide) (by decide) (by decide)
  have F8 := F7.trans g8
  obtain ⟨m9, r9, h9, g9⟩ := h8.store [100, 111] (by decide) 9 (by decide) (by decide) (by decide)
  have F9 := F8.trans g9
  have hl := h9.look v (by omega)
  rw [show AMap.put _ _ _ = kindsA from rfl, kindsA_at] at hl
  refine ⟨m1, m2, m3, m4, m5, m6, m7, m8, m9, r1, r2, r3, r4, r5, r6, r7, r8, r9, hl, ?_, h9.lt⟩
  exact ((Fr.refl nothing w).alloc _).then F9 (fun j hj e => by omega)
end Go.Proofs.YtpemfikdmkmgbaaDoor
end
