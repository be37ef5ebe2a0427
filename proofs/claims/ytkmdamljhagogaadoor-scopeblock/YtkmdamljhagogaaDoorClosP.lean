/- Names, gathered one by one. -/
import Derived.Test.YtkmdamljhagogaaDoorClosE
namespace Go.Proofs.YtkmdamljhagogaaDoor
open Go.RowKit

theorem sizeNm : (Tryd.prog.info? 9).map (fun i => (i.zero, i.size, i.bytes)) = some (some (.string ⟨#[]⟩), 1, 16) := by kernel_rfl
--WALK
set_option maxHeartbeats 1000000 in
set_option maxRecDepth 20000 in
theorem clP (w0 : World) (rb : Nat) (w1 : World) (bp bx : Nat) (acc : List Bs) (l : Bs) (w : World)
    (hcp : w1.cell? ⟨bp, 0, none⟩ = some (.pointer (some ⟨rb, 0, none⟩))) (hbx : bx < w1.heap.size) (hrb : rb < w1.heap.size)
    (hne : bp ≠ rb ∧ bp ≠ bx ∧ bx ≠ rb) (hw0 : w0.heap.size ≤ bx ∧ w0.heap.size ≤ w1.heap.size) (hfz : w1.frozen? ⟨bx, 1, none⟩ = false)
    (hJ : JL w0 rb 9 1 encN NmOk w1 bx 1 acc l 0 w) :
    Calls Tryd.prog 22 #[.pointer (some ⟨bx, 0, none⟩), .pointer (some ⟨bp, 0, none⟩)] w fun e w' => e = .returned (.tuple #[]) ∧ JL w0 rb 9 1 encN NmOk w1 bx 1 (acc ++ [(name l 0).v]) (name l 0).l (name l 0).z w' := by
  obtain ⟨⟨va, vn, vc⟩, hx3, hrow⟩ := hJ.row
  obtain rfl : vn = acc.length := by
    obtain ⟨a, c, h⟩ := hrow.shape
    cases h; rfl
  have hlbp : bp < w1.heap.size := lt_of_cell hcp
  have a1 : w.cell? ⟨bp, 0, none⟩ = some (.pointer (some ⟨rb, 0, none⟩)) := (hJ.fr.cell (p := ⟨bp, 0, none⟩) hlbp (by show ¬ (bp = rb ∨ bp = bx); omega)).trans hcp
  have hsz1 := hJ.fr.size
  have l1 : bp < w.heap.size := by omega
  have l3 : bx < w.heap.size := by omega
  have fx : w.frozen? ⟨bx, 1, none⟩ = false := (hJ.fz 1).trans hfz
  have hacc : acc.length ≤ 1500 := by have := hJ.le rfl; omega
  have HC := hide (nameR_any rb l 0 w.drew hJ.pw.pr.drew hJ.pw.len)
  have HJ := hide hJ
  have HR := hide hrow
  have HL : Hid ((name l 0).z = 0 → (name l 0).l.length < l.length) := name_less l
  have HSM : Hid ((name l 0).l.length ≤ l.length) := name_small l 0
  clear hJ hcp hrow
  obtain ⟨j0, hj0, hy0, hy1, hy2⟩ := info_parts sizeNm
  have frame : ∀ w', Fr (at_ rb) w w' → w'.cell? ⟨bx, 1, none⟩ = some (.slice va acc.length vc) ∧ w'.cell? ⟨bp, 0, none⟩ = some (.pointer (some ⟨rb, 0, none⟩)) := fun w' hf =>
    ⟨(hf.cell (p := ⟨bx, 1, none⟩) l3 (by show ¬ bx = rb; omega)).trans hx3, (hf.cell (p := ⟨bp, 0, none⟩) l1 (by show ¬ bp = rb; omega)).trans a1⟩
  have HFR := hide frame
  clear frame
  go_enter Tryd.func22, Tryd.ntmps22
  refine wp_region_T (S := fun w' => w'.cell? ⟨bx, 1, none⟩ = some (.slice va acc.length vc) ∧ w'.cell? ⟨bp, 0, none⟩ = some (.pointer (some ⟨rb, 0, none⟩))) (by kernel_rfl) [7] ?_ (fun hHeld => ?_)
  · exact ⟨hx3, a1⟩
  refine wpAnyT_take (i := 0) (oi := { dst := some 2, op := Op.fieldAddr 43 (Operand.tmp 0) 1, type := 0, pos := "ref.go:472", after := #[], guard := none }) (v := ?v1) rfl (by kernel_rfl) (by kernel_rfl) (by kernel_rfl) (by kernel_rfl) (by kernel_rfl) (fun _ _ _ h => h) (Or.inl ⟨by rfl, ?hy1⟩) (by assumption) ?rest1
  case hy1 => (intro w hSw; (try dsimp only at hSw); obtain ⟨hS1, hS2⟩ := hSw; go_simp; try with_reducible rfl)
  try simp only [Act.put, List.setIfInBounds_toArray, List.set_cons_zero, List.set_cons_succ]
  refine wpAnyT_take (i := 1) (oi := { dst := some 3, op := Op.load 32 (Operand.tmp 2), type := 32, pos := "ref.go:472", after := #[{ on := 0, ground := Ground.data }], guard := none }) (v := ?v2) rfl (by kernel_rfl) (by kernel_rfl) (by kernel_rfl) (by kernel_rfl) (by kernel_rfl) (fun _ _ _ h => h) (Or.inl ⟨by rfl, ?hy2⟩) (by assumption) ?rest2
  case hy2 => (intro w hSw; (try dsimp only at hSw); obtain ⟨hS1, hS2⟩ := hSw; go_simp; try with_reducible rfl)
  try simp only [Act.put, List.setIfInBounds_toArray, List.set_cons_zero, List.set_cons_succ]
  refine wpAnyT_take (i := 2) (oi := { dst := some 4, op := Op.load 47 (Operand.tmp 1), type := 47, pos := "ref.go:472", after := #[], guard := none }) (v := ?v3) rfl (by kernel_rfl) (by kernel_rfl) (by kernel_rfl) (by kernel_rfl) (by kernel_rfl) (fun _ _ _ h => h) (Or.inl ⟨by rfl, ?hy3⟩) (by assumption) ?rest3
  case hy3 => (intro w hSw; (try dsimp only at hSw); obtain ⟨hS1, hS2⟩ := hSw; go_simp; try with_reducible rfl)
  try simp only [Act.put, List.setIfInBounds_toArray, List.set_cons_zero, List.set_cons_succ]
  refine wpAnyT_ready (rs := [3]) (by kernel_rfl) (by simp) ?_
  refine AllReadyT.cons (o := { dst := some 5, op := Op.call { callee := Callee.value (Operand.func 20), args := #[Operand.tmp 4], argTypes := #[47] }, type := 9, pos := "ref.go:472", after := #[{ on := 2, ground := Ground.data }], guard := none }) rfl (fun K hK => ?_) AllReadyT.nil
  refine step_call rfl 20 Tryd.f20 #[.tmp 4] #[47] rfl Tryd.func20 (by kernel_rfl) (by kernel_rfl) #[.pointer (some ⟨rb, 0, none⟩)] (by simp [Act.eval]) _ HC.out ?_
  rintro e w2 ⟨rfl, hP2, hF2⟩
  have F2 : Fr (at_ rb) w w2 := ((Fr.refl _ w).drew).trans hF2
  refine ⟨_, rfl, hK.out _ _ (HFR.out _ F2) ?_⟩
  clear hK K hHeld
  have hHeld := HFR.out _ F2
  try simp only [Act.put, List.setIfInBounds_toArray, List.set_cons_zero, List.set_cons_succ]
  refine wpAnyT_ready (rs := [4]) (by kernel_rfl) (by simp) ?_
  refine AllReadyT.cons (o := { dst := some 6, op := Op.buildSlice 32 1 #[(0, Operand.tmp 5)], type := 32, pos := "ref.go:472", after := #[{ on := 3, ground := Ground.data }], guard := none }) rfl (fun K hK => ?_) AllReadyT.nil
  go_simp
  refine hK.out _ _ (HFR.out _ (F2.alloc _)) ?_
  clear hK K hHeld
  have FA : Fr (at_ rb) w (w2.alloc (.cells #[.string (bs (name l 0).v)] 9)) := F2.alloc _
  have hHeld := HFR.out _ FA
  try simp only [Act.put, List.setIfInBounds_toArray, List.set_cons_zero, List.set_cons_succ]
  have PA : Pr rb (name l 0).l (name l 0).z (w2.alloc (.cells #[.string (bs (name l 0).v)] 9)) := hP2.fr ((Fr.refl nothing w2).alloc _) id
  have NW : ∀ j u, ([.string (bs (name l 0).v)] : List Value)[j]? = some u → (w2.alloc (.cells #[.string (bs (name l 0).v)] 9)).cell? ((⟨w2.heap.size, 0, none⟩ : Addr).add j) = some u := World.news_of_block (cs := #[.string (bs (name l 0).v)]) (t := 9) (fr := (0, 0)) (heap_new _ _)
  have PW : Pw w0 rb (name l 0).l (name l 0).z (w2.alloc (.cells #[.string (bs (name l 0).v)] 9)) := HJ.out.pw.of PA HSM.out FA
  obtain ⟨rs, hown, hbase, heach⟩ := HR.out
  have hownA : (w2.alloc (.cells #[.string (bs (name l 0).v)] 9)).ownsRow w1.heap.size 9 1 (.slice va acc.length vc) acc.length (rs.flatMap encN) := owns_fr hown FA (fun k hk e => by have := (hown.lt k hk).1; have : k = rb := e; omega)
  have hbA : w1.heap.size ≤ (w2.alloc (.cells #[.string (bs (name l 0).v)] 9)).heap.size := Nat.le_trans hsz1 FA.size
  have OF := owns_far hownA (b := bx) hbx
  have gx : bx < (w2.alloc (.cells #[.string (bs (name l 0).v)] 9)).heap.size := by omega
  have fxA : (w2.alloc (.cells #[.string (bs (name l 0).v)] 9)).frozen? ⟨bx, 1, none⟩ = false := (FA.frozen (p := ⟨bx, 1, none⟩) l3 (by show ¬ bx = rb; omega)).trans fx
  have HOA := hide hownA
  have HPW := hide PW
  have HFA := hide FA
  clear heach hown hownA PW FA PA
  refine wpAnyT_ready (rs := [5]) (by kernel_rfl) (by simp) ?_
  refine AllReadyT.cons (o := { dst := some 7, op := Op.call { callee := Callee.builtin Builtin.append, args := #[Operand.tmp 3, Operand.tmp 6], argTypes := #[32, 32] }, type := 32, pos := "ref.go:472", after := #[{ on := 1, ground := Ground.data }, { on := 4, ground := Ground.data }, { on := 3, ground := Ground.chain }], guard := none }) rfl (fun K hK => ?_) AllReadyT.nil
  refine step_append_lies _ (by rfl) (.tmp 3) (.tmp 6) 32 (by rfl) w1.heap.size 9 j0 _ 1 16 Tryd.underlying32 hj0 hy0 hy1 hy2 rfl (by decide) (.slice va acc.length vc) acc.length _ (by simp [Act.eval]) HOA.out ⟨w2.heap.size, 0, none⟩ 1 1 [.string (bs (name l 0).v)] (by simp [Act.eval]) rfl NW (by simp [Value.oneCell']) (by decide) (by unfold maxLen; omega) (by omega) hbA _ rfl ?_
  intro g cp w6 hr6 hg6 hat6 hlt6
  have k3 : w6.cell? ⟨bx, 1, none⟩ = some (.slice va acc.length vc) := (hg6.cell_far ⟨bx, 1, none⟩ gx OF).trans hHeld.1
  have kz : w6.frozen? ⟨bx, 1, none⟩ = false := (hg6.frozen_far ⟨bx, 1, none⟩ gx OF).trans fxA
  have k6 : bx < w6.heap.size := by have := hg6.size; omega
  have k4 : w6.cell? ⟨bp, 0, none⟩ = some (.pointer (some ⟨rb, 0, none⟩)) := (hg6.cell_far ⟨bp, 0, none⟩ (by show bp < _; omega) (owns_far HOA.out (b := bp) hlbp)).trans hHeld.2
  have HR6 := hide hr6
  have HG6 := hide hg6
  have HAT := hide hat6
  clear hr6 hg6 hat6 NW
  refine hK.out _ _ ⟨k3, k4⟩ ?_
  clear hK K hHeld
  have hHeld : w6.cell? ⟨bx, 1, none⟩ = some (.slice va acc.length vc) ∧ w6.cell? ⟨bp, 0, none⟩ = some (.pointer (some ⟨rb, 0, none⟩)) := ⟨k3, k4⟩
  try simp only [Act.put, List.setIfInBounds_toArray, List.set_cons_zero, List.set_cons_succ]
  refine wpAnyT_take (i := 6) (oi := { dst := some 8, op := Op.fieldAddr 43 (Operand.tmp 0) 1, type := 0, pos := "ref.go:472", after := #[{ on := 0, ground := Ground.phase }, { on := 1, ground := Ground.phase }, { on := 2, ground := Ground.phase }, { on := 3, ground := Ground.phase }, { on := 4, ground := Ground.phase }, { on := 5, ground := Ground.phase }], guard := none }) (v := ?v4) rfl (by kernel_rfl) (by kernel_rfl) (by kernel_rfl) (by kernel_rfl) (by kernel_rfl) (fun _ _ _ h => h) (Or.inl ⟨by rfl, ?hy4⟩) (by assumption) ?rest4
  case hy4 => (intro w hSw; (try dsimp only at hSw); obtain ⟨hS1, hS2⟩ := hSw; go_simp; try with_reducible rfl)
  try simp only [Act.put, List.setIfInBounds_toArray, List.set_cons_zero, List.set_cons_succ]
  refine wpAnyT_ready (rs := [7]) (by kernel_rfl) (by simp) ?_
  refine AllReadyT.last (o := { dst := none, op := Op.store 32 (Operand.tmp 8) (Operand.tmp 7), type := 0, pos := "ref.go:472", after := #[{ on := 6, ground := Ground.data }, { on := 5, ground := Ground.data }, { on := 5, ground := Ground.chain }, { on := 0, ground := Ground.phase }, { on := 1, ground := Ground.phase }, { on := 2, ground := Ground.phase }, { on := 3, ground := Ground.phase }, { on := 4, ground := Ground.phase }, { on := 5, ground := Ground.phase }], guard := none }) rfl (by kernel_rfl) (fun K hK => ?_) AllReadyT.nil
  go_simp
  refine hK.out _ _ ?_
  clear hK K
  try simp only [Act.put, List.setIfInBounds_toArray, List.set_cons_zero, List.set_cons_succ]
  refine wpAny_done (by kernel_rfl) ?_ _
  go_end0
  refine ⟨rfl, ?_⟩
  exact JL.push nm_stays encN_len hbx hrb hne.2.2 hw0 (r := (name l 0).v) (us := [.string (bs (name l 0).v)]) HJ.out HR.out HFA.out HPW.out rfl HL.out HOA.out HR6.out HG6.out HAT.out (Nat.le_refl _) rfl rfl k3 (.inr (.inr ⟨rfl, rfl⟩))
end Go.Proofs.YtkmdamljhagogaaDoor
