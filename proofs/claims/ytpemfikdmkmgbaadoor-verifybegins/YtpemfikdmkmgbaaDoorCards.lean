/-
  DERIVED. GIVEN WITH THE SEED: THE CARDS: each row of YtpemfikdmkmgbaaDoorRows.lean that lists a variable, with what it lists TIED to the program's text (the seventh form; the later family's looks); each row that meets fmt, with fmt's text TOLD by the authors' own Lean function (tested against real Go, not proved from fmt's source: count such statements apart). THE CARD IS WHAT COUNTS. Prove the row's statement (the work); the ties are given (YtpemfikdmkmgbaaDoorTie.lean); close each card by the builder's one call (the guide's Derived/Test/ToyasCard.lean, 'card_holds'). Laid BY PROGRAM, IN A SANDBOX (cutbox-door.mjs). By AI agents, Wed Nov 11 2026. No macro, syntax, notation, axiom, sorry.
-/
import Derived.Test.YtpemfikdmkmgbaaDoorRows
import GoSem.ClaimSeven
namespace Go.Proofs.YtpemfikdmkmgbaaDoor
namespace Rows

/-- THE TIED CARD OF 'zwlaw6.VerifyRuns'. -/
def verifyRunsCard : Claim7 := { stood := { row := verifyRunsRow, standIns := [], harness := (true, "ad0b4b39d92f032de0d87ffd4eed2894472a6c31d0ac9a9ffde7ca8fd7f0acbc"), looks := true }, kinds := [], alts := [], laidByText := true, laidKinds := [.data, .data, .data, .sentinel, .sentinel], laidTests := true, laidLooks := .later }
def VerifyRunsCardSaid : Prop := Claim7.holds Tryd.pinned (.plain (OpenSpec.ofChange verifyRunsSpec)) verifyRunsCard

/-- THE TIED CARD OF 'zwlaw6.VerifyBegins'. -/
def verifyBeginsCard : Claim7 := { stood := { row := verifyBeginsRow, standIns := [], harness := (true, "ad0b4b39d92f032de0d87ffd4eed2894472a6c31d0ac9a9ffde7ca8fd7f0acbc"), looks := true }, kinds := [], alts := [], laidByText := true, laidKinds := [.data, .data, .data, .sentinel, .sentinel], laidTests := true, laidLooks := .later }
def VerifyBeginsCardSaid : Prop := Claim7.holds Tryd.pinned (.plain (OpenSpec.ofChange verifyBeginsSpec)) verifyBeginsCard

/-- THE SECOND FORM's CARD OF 'zwlaw6.VerifyRuns'. -/
def verifyRunsUptoCard : Claim7 := { stood := { row := verifyRunsUptoRow, standIns := [], harness := (true, "ad0b4b39d92f032de0d87ffd4eed2894472a6c31d0ac9a9ffde7ca8fd7f0acbc"), looks := true }, kinds := [], alts := [], laidByText := true, laidKinds := [.data, .data, .data, .sentinel, .sentinel], laidTests := true, laidLooks := .later }
def VerifyRunsUptoCardSaid : Prop := Claim7.holds Tryd.pinned (.plain (OpenSpec.upto verifyRunsSpec)) verifyRunsUptoCard

/-- THE SECOND FORM's CARD OF 'zwlaw6.VerifyBegins'. -/
def verifyBeginsUptoCard : Claim7 := { stood := { row := verifyBeginsUptoRow, standIns := [], harness := (true, "ad0b4b39d92f032de0d87ffd4eed2894472a6c31d0ac9a9ffde7ca8fd7f0acbc"), looks := true }, kinds := [], alts := [], laidByText := true, laidKinds := [.data, .data, .data, .sentinel, .sentinel], laidTests := true, laidLooks := .later }
def VerifyBeginsUptoCardSaid : Prop := Claim7.holds Tryd.pinned (.plain (OpenSpec.upto verifyBeginsSpec)) verifyBeginsUptoCard
end Rows
end Go.Proofs.YtpemfikdmkmgbaaDoor
