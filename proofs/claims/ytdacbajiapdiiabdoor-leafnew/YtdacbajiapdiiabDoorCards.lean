/-
  DERIVED. GIVEN WITH THE SEED: THE CARDS: each row of YtdacbajiapdiiabDoorRows.lean that lists a variable, with what it lists TIED to the program's text (the seventh form; the later family's looks); each row that meets fmt, with fmt's text TOLD by the authors' own Lean function (tested against real Go, not proved from fmt's source: count such statements apart). THE CARD IS WHAT COUNTS. Prove the row's statement (the work); the ties are given (YtdacbajiapdiiabDoorTie.lean); close each card by the builder's one call (the guide's Derived/Test/ToyasCard.lean, 'card_holds'). Laid BY PROGRAM, IN A SANDBOX (cutbox-door.mjs). By AI agents, Wed Nov 11 2026. No macro, syntax, notation, axiom, sorry.
-/
import Derived.Test.YtdacbajiapdiiabDoorRows
import GoSem.ClaimSeven
namespace Go.Proofs.YtdacbajiapdiiabDoor
namespace Rows

/-- THE TIED CARD OF 'copselaw7.LeafDecodes'. -/
def leafDecodesCard : Claim7 := { stood := { row := leafDecodesRow, standIns := [], harness := (true, "a1d5cbf5958953546ae087a3c4ff7953d2c05e305c3ec4b1f4d0ac89edc9050b"), looks := true }, kinds := [], alts := [], laidByText := true, laidKinds := [.data, .sentinel, .sentinel, .sentinel, .sentinel, .sentinel, .sentinel, .sentinel, .sentinel, .sentinel, .sentinel, .sentinel, .sentinel, .sentinel, .pinned], laidTests := true, laidLooks := .later }
def LeafDecodesCardSaid : Prop := Claim7.holds Tryd.pinned (.plain (OpenSpec.ofChange leafDecodesSpec)) leafDecodesCard

/-- THE TIED CARD OF 'copselaw7.LeafEncodes'. -/
def leafEncodesCard : Claim7 := { stood := { row := leafEncodesRow, standIns := [], harness := (true, "a1d5cbf5958953546ae087a3c4ff7953d2c05e305c3ec4b1f4d0ac89edc9050b"), looks := true }, kinds := [], alts := [], laidByText := true, laidKinds := [.sentinel, .sentinel, .sentinel, .sentinel, .sentinel, .sentinel, .sentinel, .sentinel, .sentinel, .sentinel, .sentinel, .sentinel, .sentinel], laidTests := true, laidLooks := .later }
def LeafEncodesCardSaid : Prop := Claim7.holds Tryd.pinned (.plain (OpenSpec.ofChange leafEncodesSpec)) leafEncodesCard

/-- THE TIED CARD OF 'copselaw7.LeafNew'. -/
def leafNewCard : Claim7 := { stood := { row := leafNewRow, standIns := [], harness := (true, "a1d5cbf5958953546ae087a3c4ff7953d2c05e305c3ec4b1f4d0ac89edc9050b"), looks := true }, kinds := [], alts := [], laidByText := true, laidKinds := [.data, .sentinel, .sentinel, .sentinel, .sentinel, .sentinel, .sentinel, .sentinel, .sentinel, .sentinel, .sentinel, .sentinel, .sentinel, .sentinel, .pinned], laidTests := true, laidLooks := .later }
def LeafNewCardSaid : Prop := Claim7.holds Tryd.pinned (.plain (OpenSpec.ofChange leafNewSpec)) leafNewCard

/-- THE SECOND FORM's CARD OF 'copselaw7.LeafDecodes'. -/
def leafDecodesUptoCard : Claim7 := { stood := { row := leafDecodesUptoRow, standIns := [], harness := (true, "a1d5cbf5958953546ae087a3c4ff7953d2c05e305c3ec4b1f4d0ac89edc9050b"), looks := true }, kinds := [], alts := [], laidByText := true, laidKinds := [.data, .sentinel, .sentinel, .sentinel, .sentinel, .sentinel, .sentinel, .sentinel, .sentinel, .sentinel, .sentinel, .sentinel, .sentinel, .sentinel, .pinned], laidTests := true, laidLooks := .later }
def LeafDecodesUptoCardSaid : Prop := Claim7.holds Tryd.pinned (.plain (OpenSpec.upto leafDecodesSpec)) leafDecodesUptoCard

/-- THE SECOND FORM's CARD OF 'copselaw7.LeafEncodes'. -/
def leafEncodesUptoCard : Claim7 := { stood := { row := leafEncodesUptoRow, standIns := [], harness := (true, "a1d5cbf5958953546ae087a3c4ff7953d2c05e305c3ec4b1f4d0ac89edc9050b"), looks := true }, kinds := [], alts := [], laidByText := true, laidKinds := [.sentinel, .sentinel, .sentinel, .sentinel, .sentinel, .sentinel, .sentinel, .sentinel, .sentinel, .sentinel, .sentinel, .sentinel, .sentinel], laidTests := true, laidLooks := .later }
def LeafEncodesUptoCardSaid : Prop := Claim7.holds Tryd.pinned (.plain (OpenSpec.upto leafEncodesSpec)) leafEncodesUptoCard

/-- THE SECOND FORM's CARD OF 'copselaw7.LeafNew'. -/
def leafNewUptoCard : Claim7 := { stood := { row := leafNewUptoRow, standIns := [], harness := (true, "a1d5cbf5958953546ae087a3c4ff7953d2c05e305c3ec4b1f4d0ac89edc9050b"), looks := true }, kinds := [], alts := [], laidByText := true, laidKinds := [.data, .sentinel, .sentinel, .sentinel, .sentinel, .sentinel, .sentinel, .sentinel, .sentinel, .sentinel, .sentinel, .sentinel, .sentinel, .sentinel, .pinned], laidTests := true, laidLooks := .later }
def LeafNewUptoCardSaid : Prop := Claim7.holds Tryd.pinned (.plain (OpenSpec.upto leafNewSpec)) leafNewUptoCard
end Rows
end Go.Proofs.YtdacbajiapdiiabDoor
