/-
  DERIVED. GIVEN WITH THE SEED: THE CARDS: each row of YtcemfgknnpjlhaaDoorRows.lean that lists a variable, with what it lists TIED to the program's text (the seventh form; the later family's looks); each row that meets fmt, with fmt's text TOLD by the authors' own Lean function (tested against real Go, not proved from fmt's source: count such statements apart). THE CARD IS WHAT COUNTS. Prove the row's statement (the work); the ties are given (YtcemfgknnpjlhaaDoorTie.lean); close each card by the builder's one call (the guide's Derived/Test/ToyasCard.lean, 'card_holds'). Laid BY PROGRAM, IN A SANDBOX (cutbox-door.mjs). By AI agents, Wed Nov 11 2026. No macro, syntax, notation, axiom, sorry.
-/
import Derived.Test.YtcemfgknnpjlhaaDoorRows
import GoSem.ClaimSeven
namespace Go.Proofs.YtcemfgknnpjlhaaDoor
namespace Rows

/-- THE TIED CARD OF 'zwlaw1.CellTells'. -/
def cellTellsCard : Claim7 := { stood := { row := cellTellsRow, standIns := [], harness := (true, "ac1225aab6cfb7b91e297ed007e41a1e7a0f479139b2a7b95e2580b79cbf7a53"), looks := false }, kinds := [], alts := [], laidByText := true, laidKinds := [.data, .data, .data], laidTests := true, laidLooks := .later }
def CellTellsCardSaid : Prop := Claim7.holds Tryd.pinned (.plain (OpenSpec.ofChange cellTellsSpec)) cellTellsCard

/-- THE TIED CARD OF 'zwlaw1.CellCanon'. -/
def cellCanonCard : Claim7 := { stood := { row := cellCanonRow, standIns := [], harness := (true, "ac1225aab6cfb7b91e297ed007e41a1e7a0f479139b2a7b95e2580b79cbf7a53"), looks := false }, kinds := [], alts := [], laidByText := true, laidKinds := [.data, .data, .data], laidTests := true, laidLooks := .later }
def CellCanonCardSaid : Prop := Claim7.holds Tryd.pinned (.plain (OpenSpec.ofChange cellCanonSpec)) cellCanonCard

/-- THE TIED CARD OF 'zwlaw1.CellMoved'. -/
def cellMovedCard : Claim7 := { stood := { row := cellMovedRow, standIns := [], harness := (true, "ac1225aab6cfb7b91e297ed007e41a1e7a0f479139b2a7b95e2580b79cbf7a53"), looks := false }, kinds := [], alts := [], laidByText := true, laidKinds := [.data, .data, .data], laidTests := true, laidLooks := .later }
def CellMovedCardSaid : Prop := Claim7.holds Tryd.pinned (.plain (OpenSpec.ofChange cellMovedSpec)) cellMovedCard

/-- THE SECOND FORM's CARD OF 'zwlaw1.CellTells'. -/
def cellTellsUptoCard : Claim7 := { stood := { row := cellTellsUptoRow, standIns := [], harness := (true, "ac1225aab6cfb7b91e297ed007e41a1e7a0f479139b2a7b95e2580b79cbf7a53"), looks := false }, kinds := [], alts := [], laidByText := true, laidKinds := [.data, .data, .data], laidTests := true, laidLooks := .later }
def CellTellsUptoCardSaid : Prop := Claim7.holds Tryd.pinned (.plain (OpenSpec.upto cellTellsSpec)) cellTellsUptoCard

/-- THE SECOND FORM's CARD OF 'zwlaw1.CellCanon'. -/
def cellCanonUptoCard : Claim7 := { stood := { row := cellCanonUptoRow, standIns := [], harness := (true, "ac1225aab6cfb7b91e297ed007e41a1e7a0f479139b2a7b95e2580b79cbf7a53"), looks := false }, kinds := [], alts := [], laidByText := true, laidKinds := [.data, .data, .data], laidTests := true, laidLooks := .later }
def CellCanonUptoCardSaid : Prop := Claim7.holds Tryd.pinned (.plain (OpenSpec.upto cellCanonSpec)) cellCanonUptoCard

/-- THE SECOND FORM's CARD OF 'zwlaw1.CellMoved'. -/
def cellMovedUptoCard : Claim7 := { stood := { row := cellMovedUptoRow, standIns := [], harness := (true, "ac1225aab6cfb7b91e297ed007e41a1e7a0f479139b2a7b95e2580b79cbf7a53"), looks := false }, kinds := [], alts := [], laidByText := true, laidKinds := [.data, .data, .data], laidTests := true, laidLooks := .later }
def CellMovedUptoCardSaid : Prop := Claim7.holds Tryd.pinned (.plain (OpenSpec.upto cellMovedSpec)) cellMovedUptoCard
end Rows
end Go.Proofs.YtcemfgknnpjlhaaDoor
