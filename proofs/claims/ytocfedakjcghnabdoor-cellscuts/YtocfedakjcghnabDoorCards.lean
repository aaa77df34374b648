/-
  DERIVED. GIVEN WITH THE SEED: THE CARDS: each row of YtocfedakjcghnabDoorRows.lean that lists a variable, with what it lists TIED to the program's text (the seventh form; the later family's looks); each row that meets fmt, with fmt's text TOLD by the authors' own Lean function (tested against real Go, not proved from fmt's source: count such statements apart). THE CARD IS WHAT COUNTS. Prove the row's statement (the work); the ties are given (YtocfedakjcghnabDoorTie.lean); close each card by the builder's one call (the guide's Derived/Test/ToyasCard.lean, 'card_holds'). Laid BY PROGRAM, IN A SANDBOX (cutbox-door.mjs). By AI agents, Wed Nov 11 2026. No macro, syntax, notation, axiom, sorry.
-/
import Derived.Test.YtocfedakjcghnabDoorRows
import GoSem.ClaimSeven
namespace Go.Proofs.YtocfedakjcghnabDoor
namespace Rows

/-- THE TIED CARD OF 'copselaw6.CellsCuts'. -/
def cellsCutsCard : Claim7 := { stood := { row := cellsCutsRow, standIns := [], harness := (true, "70477074cd5033b0127d36b2ccd9ed4c41d149f0d2057b56acc55d9ea55bbbff"), looks := true }, kinds := [], alts := [], laidByText := true, laidKinds := [.sentinel, .sentinel, .sentinel, .sentinel, .sentinel, .sentinel, .sentinel, .sentinel, .sentinel, .sentinel, .sentinel, .sentinel, .sentinel], laidTests := true, laidLooks := .later }
def CellsCutsCardSaid : Prop := Claim7.holds Tryd.pinned (.plain (OpenSpec.ofChange cellsCutsSpec)) cellsCutsCard

/-- THE SECOND FORM's CARD OF 'copselaw6.CellsCuts'. -/
def cellsCutsUptoCard : Claim7 := { stood := { row := cellsCutsUptoRow, standIns := [], harness := (true, "70477074cd5033b0127d36b2ccd9ed4c41d149f0d2057b56acc55d9ea55bbbff"), looks := true }, kinds := [], alts := [], laidByText := true, laidKinds := [.sentinel, .sentinel, .sentinel, .sentinel, .sentinel, .sentinel, .sentinel, .sentinel, .sentinel, .sentinel, .sentinel, .sentinel, .sentinel], laidTests := true, laidLooks := .later }
def CellsCutsUptoCardSaid : Prop := Claim7.holds Tryd.pinned (.plain (OpenSpec.upto cellsCutsSpec)) cellsCutsUptoCard
end Rows
end Go.Proofs.YtocfedakjcghnabDoor
