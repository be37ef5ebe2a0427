/-
  DERIVED. GIVEN WITH THE SEED: THE CARDS: each row of YtbcadjgpcfmkfaaGreatDoorRows.lean that lists a variable, with what it lists TIED to the program's text (the seventh form; the later family's looks); each row that meets fmt, with fmt's text TOLD by the authors' own Lean function (tested against real Go, not proved from fmt's source: count such statements apart). THE CARD IS WHAT COUNTS. Prove the row's statement (the work); the ties are given (YtbcadjgpcfmkfaaGreatDoorTie.lean); close each card by the builder's one call (the guide's Derived/Test/ToyasCard.lean, 'card_holds'). Laid BY PROGRAM, IN A SANDBOX (cutbox-door.mjs). By AI agents, Wed Nov 11 2026. No macro, syntax, notation, axiom, sorry.
-/
import Derived.Test.YtbcadjgpcfmkfaaGreatDoorRows
import GoSem.ClaimSeven
namespace Go.Proofs.YtbcadjgpcfmkfaaGreatDoor
namespace Rows

/-- THE TIED CARD OF 'zwlaw7.VmParts'. -/
def vmPartsCard : Claim7 := { stood := { row := vmPartsRow, standIns := [], harness := (true, "d92662efdd16bd5be02471f4e609b4b6d7e5d6fc0c671eeb978d72eeefd16cb2"), looks := true }, kinds := [], alts := [], laidByText := true, laidKinds := [.data, .data, .data, .sentinel, .sentinel], laidTests := true, laidLooks := .later }
def VmPartsCardSaid : Prop := Claim7.holds Tryz.pinned (.plain (OpenSpec.ofChange vmPartsSpec)) vmPartsCard

/-- THE TIED CARD OF 'zwlaw7.VmPacked'. -/
def vmPackedCard : Claim7 := { stood := { row := vmPackedRow, standIns := [], harness := (true, "d92662efdd16bd5be02471f4e609b4b6d7e5d6fc0c671eeb978d72eeefd16cb2"), looks := true }, kinds := [], alts := [], laidByText := true, laidKinds := [.data, .data, .data, .sentinel, .sentinel], laidTests := true, laidLooks := .later }
def VmPackedCardSaid : Prop := Claim7.holds Tryz.pinned (.plain (OpenSpec.ofChange vmPackedSpec)) vmPackedCard

/-- THE TIED CARD OF 'zwlaw7.VmSpends'. -/
def vmSpendsCard : Claim7 := { stood := { row := vmSpendsRow, standIns := [], harness := (true, "d92662efdd16bd5be02471f4e609b4b6d7e5d6fc0c671eeb978d72eeefd16cb2"), looks := true }, kinds := [], alts := [], laidByText := true, laidKinds := [.data, .data, .data, .sentinel, .sentinel], laidTests := true, laidLooks := .later }
def VmSpendsCardSaid : Prop := Claim7.holds Tryz.pinned (.plain (OpenSpec.ofChange vmSpendsSpec)) vmSpendsCard

/-- THE SECOND FORM's CARD OF 'zwlaw7.VmParts'. -/
def vmPartsUptoCard : Claim7 := { stood := { row := vmPartsUptoRow, standIns := [], harness := (true, "d92662efdd16bd5be02471f4e609b4b6d7e5d6fc0c671eeb978d72eeefd16cb2"), looks := true }, kinds := [], alts := [], laidByText := true, laidKinds := [.data, .data, .data, .sentinel, .sentinel], laidTests := true, laidLooks := .later }
def VmPartsUptoCardSaid : Prop := Claim7.holds Tryz.pinned (.plain (OpenSpec.upto vmPartsSpec)) vmPartsUptoCard

/-- THE SECOND FORM's CARD OF 'zwlaw7.VmPacked'. -/
def vmPackedUptoCard : Claim7 := { stood := { row := vmPackedUptoRow, standIns := [], harness := (true, "d92662efdd16bd5be02471f4e609b4b6d7e5d6fc0c671eeb978d72eeefd16cb2"), looks := true }, kinds := [], alts := [], laidByText := true, laidKinds := [.data, .data, .data, .sentinel, .sentinel], laidTests := true, laidLooks := .later }
def VmPackedUptoCardSaid : Prop := Claim7.holds Tryz.pinned (.plain (OpenSpec.upto vmPackedSpec)) vmPackedUptoCard

/-- THE SECOND FORM's CARD OF 'zwlaw7.VmSpends'. -/
def vmSpendsUptoCard : Claim7 := { stood := { row := vmSpendsUptoRow, standIns := [], harness := (true, "d92662efdd16bd5be02471f4e609b4b6d7e5d6fc0c671eeb978d72eeefd16cb2"), looks := true }, kinds := [], alts := [], laidByText := true, laidKinds := [.data, .data, .data, .sentinel, .sentinel], laidTests := true, laidLooks := .later }
def VmSpendsUptoCardSaid : Prop := Claim7.holds Tryz.pinned (.plain (OpenSpec.upto vmSpendsSpec)) vmSpendsUptoCard
end Rows
end Go.Proofs.YtbcadjgpcfmkfaaGreatDoor
