/- A world for the witnesses: the settled one, the tables and errors of Go's library holding what their initialisers lay; what a row's list gives. -/
import Derived.Test.YtkmdamljhagogaaDoorCards
import Derived.Test.YtkmdamljhagogaaDoorTie
import Derived.Test.YtkmdamljhagogaaDoorTells
import Derived.ProofKit
import Derived.OpenShut
import Derived.Deep.DeepHandedRow
import Derived.ChangeMaps5
import Derived.SizedLaws
import Derived.Lib.LaidU8
import Derived.Lib.LaidTab
import Derived.LaidLaws
namespace Go.Proofs.YtkmdamljhagogaaDoor
/-- One block's cells put in place. -/
def putCells (l : List Value) : Obj → Obj
  | .cells _ t frozen => .cells l.toArray t frozen
  | o => o
open Go.ChangeShapes Go.WideShapes Go.ChangeAt Go.RowKit Go.ChangeMaps
def pow10s : List Value := [1, 10, 100, 1000, 10000, 100000, 1000000, 10000000, 100000000, 1000000000, 10000000000, 100000000000, 1000000000000, 10000000000000, 100000000000000, 1000000000000000, 10000000000000000, 100000000000000000, 1000000000000000000, 10000000000000000000].map fun n => .int .u64 n
def bruijn32 : List Value := [0, 1, 28, 2, 29, 14, 24, 3, 30, 22, 20, 15, 25, 17, 4, 8, 31, 27, 13, 23, 21, 19, 16, 7, 26, 12, 18, 6, 11, 5, 10, 9].map fun n => .int .u8 n
def bruijn64 : List Value := [0, 1, 56, 2, 57, 49, 28, 3, 61, 58, 42, 50, 38, 29, 17, 4, 62, 47, 59, 36, 45, 43, 51, 22, 53, 39, 33, 30, 24, 18, 12, 5, 63, 55, 48, 27, 60, 41, 37, 16, 46, 35, 44, 21, 52, 32, 23, 11, 54, 26, 40, 15, 34, 20, 31, 10, 25, 14, 19, 9, 13, 8, 7, 6].map fun n => .int .u8 n
def synT : List UInt8 := [105, 110, 118, 97, 108, 105, 100, 32, 115, 121, 110, 116, 97, 120]
def rngT : List UInt8 := [118, 97, 108, 117, 101, 32, 111, 117, 116, 32, 111, 102, 32, 114, 97, 110, 103, 101]
noncomputable def baseWorld (os : Os) : World := World.holding Tryd.prog os ⟨#[], #[], []⟩
noncomputable def laidWorld (os : Os) : World :=
  { baseWorld os with heap := ((((((baseWorld os).heap.modify 0 (putCells [.iface 147 (.pointer (some ⟨(baseWorld os).heap.size, 0, none⟩))])).modify 1 (putCells [.iface 147 (.pointer (some ⟨(baseWorld os).heap.size + 1, 0, none⟩))])).modify 2 (putCells pow10s)).modify 3 (putCells bruijn32)).modify 4 (putCells bruijn64)).push (.cells #[.string ⟨synT.toArray⟩] 149 (0, 0)) |>.push (.cells #[.string ⟨rngT.toArray⟩] 149 (0, 0)) }
theorem own : ownKnob Tryd.prog.godebug = none := by kernel_rfl
theorem laidOut : laidOutB Tryd.prog = true := by kernel_rfl
theorem g0 : Tryd.prog.globalNamed "strconv.ErrSyntax" = some 0 := by kernel_rfl
theorem g1 : Tryd.prog.globalNamed "strconv.ErrRange" = some 1 := by kernel_rfl
theorem gt0 : (Tryd.prog.globals[0]?).map (·.type) = some 111 := by kernel_rfl
theorem gt1 : (Tryd.prog.globals[1]?).map (·.type) = some 111 := by kernel_rfl
theorem err_at {W : World} {n : String} {g : Nat} {nm : String} {d : DataW Unit} (hg : Tryd.prog.globalNamed n = some g) (ht : (Tryd.prog.globals[g]?).map (·.type) = some 111) (h : Lib.VarReads Tryd.prog W n (.iface nm d)) : ∃ ev, W.cell? ⟨g, 0, none⟩ = some ev ∧ (ev = .nilIface ∨ ∃ te pe, ev = .iface te pe) := by
  obtain ⟨g', t', cs, fuel, p, h1, h2, h3, h4⟩ := h
  obtain rfl := Option.some.inj (hg.symm.trans h1)
  obtain rfl := Option.some.inj (ht.symm.trans h2)
  obtain ⟨_, u, v, hcs, _⟩ := iface_of_trod Tryd.underlying111 h4
  refine ⟨.iface u v, ?_, .inr ⟨u, v, rfl⟩⟩
  unfold World.var? at h3
  rw [hg] at h3
  simp only [Option.bind_some] at h3
  unfold World.cell?
  split at h3
  · rename_i cs' t fr he
    cases h3
    rw [he]
    obtain ⟨l⟩ := cs
    simp only at hcs
    subst hcs
    simp
  · cases h3
/-- What the row's list gives: the two errors. -/
theorem errs {W : World} (h : laidMetH Tryd.prog Rows.scopeTellsRow.laid W) : Er W := by
  have h1 : laidMet Tryd.prog Rows.scopeTellsRow.laid W := h
  exact ⟨err_at g0 gt0 (Lib.laidMet.reads h1 (n := "strconv.ErrSyntax") (d := Rows.laid_strconv_ErrSyntax) (by simp [Rows.scopeTellsRow])), err_at g1 gt1 (Lib.laidMet.reads h1 (n := "strconv.ErrRange") (d := Rows.laid_strconv_ErrRange) (by simp [Rows.scopeTellsRow]))⟩
theorem gTab : Tryd.prog.globalNamed "internal/strconv.uint64pow10" = some 2 := by kernel_rfl
theorem gTabType : (Tryd.prog.globals[2]?).map (·.type) = some 151 := by kernel_rfl
theorem cellsA20 : Tryd.prog.cellsOf 151 = 20 := by kernel_rfl
theorem cellsU64 : Tryd.prog.cellsOf 131 = 1 := by kernel_rfl
/-- What the row's list gives: the table that Itoa reads. -/
theorem table {W : World} (h : laidMetH Tryd.prog Rows.scopeTellsRow.laid W) : Tab W := by
  have h1 : laidMet Tryd.prog Rows.scopeTellsRow.laid W := h
  have h2 := h1.filter (fun x => x.1 == "internal/strconv.uint64pow10")
  exact Lib.tabIs_of_head (rest := []) gTab gTabType Tryd.underlying151 Tryd.underlying131 cellsU64 cellsA20 h2
end Go.Proofs.YtkmdamljhagogaaDoor
