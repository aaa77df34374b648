/-
  DERIVED. GIVEN WITH THE SEED: THE CARDS: each row of YtagldlchamlpdabDoorRows.lean that lists a variable, with what it lists TIED to the program's text (the seventh form; the later family's looks); each row that meets fmt, with fmt's text TOLD by the authors' own Lean function (tested against real Go, not proved from fmt's source: count such statements apart). THE CARD IS WHAT COUNTS. Prove the row's statement (the work); the ties are given (YtagldlchamlpdabDoorTie.lean); close each card by the builder's one call (the guide's Derived/Test/ToyasCard.lean, 'card_holds'). Laid BY PROGRAM, IN A SANDBOX (cutbox-door.mjs). By AI agents, Wed Nov 11 2026. No macro, syntax, notation, axiom, sorry.
-/
import Derived.Test.YtagldlchamlpdabDoorRows
import GoSem.ClaimSeven
namespace Go.Proofs.YtagldlchamlpdabDoor
namespace Rows

/-- THE TIED CARD OF 'copselaw8.BranchOnly'. -/
def branchOnlyCard : Claim7 := { stood := { row := branchOnlyRow, standIns := [], harness := (true, "ff8c2ce4bd66bf90cb94defadcef561c443755515b1270ff4bdec98b92e32cc5"), looks := true }, kinds := [], alts := [], laidByText := true, laidKinds := [.data, .sentinel, .sentinel, .sentinel, .sentinel, .sentinel, .sentinel, .sentinel, .sentinel, .sentinel, .sentinel, .sentinel, .sentinel, .sentinel, .pinned], laidTests := true, laidLooks := .later }
def BranchOnlyCardSaid : Prop := Claim7.holds Tryd.pinned (.plain (OpenSpec.ofChange branchOnlySpec)) branchOnlyCard

/-- THE TIED CARD OF 'copselaw8.BranchDecodes'. -/
def branchDecodesCard : Claim7 := { stood := { row := branchDecodesRow, standIns := [], harness := (true, "ff8c2ce4bd66bf90cb94defadcef561c443755515b1270ff4bdec98b92e32cc5"), looks := true }, kinds := [], alts := [], laidByText := true, laidKinds := [.data, .sentinel, .sentinel, .sentinel, .sentinel, .sentinel, .sentinel, .sentinel, .sentinel, .sentinel, .sentinel, .sentinel, .sentinel, .sentinel, .pinned], laidTests := true, laidLooks := .later }
def BranchDecodesCardSaid : Prop := Claim7.holds Tryd.pinned (.plain (OpenSpec.ofChange branchDecodesSpec)) branchDecodesCard

/-- THE TIED CARD OF 'copselaw8.BranchHalves'. -/
def branchHalvesCard : Claim7 := { stood := { row := branchHalvesRow, standIns := [], harness := (true, "ff8c2ce4bd66bf90cb94defadcef561c443755515b1270ff4bdec98b92e32cc5"), looks := true }, kinds := [], alts := [], laidByText := true, laidKinds := [.sentinel, .sentinel, .sentinel, .sentinel, .sentinel, .sentinel, .sentinel, .sentinel, .sentinel, .sentinel, .sentinel, .sentinel, .sentinel], laidTests := true, laidLooks := .later }
def BranchHalvesCardSaid : Prop := Claim7.holds Tryd.pinned (.plain (OpenSpec.ofChange branchHalvesSpec)) branchHalvesCard

/-- THE TIED CARD OF 'copselaw8.BranchMemory'. -/
def branchMemoryCard : Claim7 := { stood := { row := branchMemoryRow, standIns := [], harness := (true, "ff8c2ce4bd66bf90cb94defadcef561c443755515b1270ff4bdec98b92e32cc5"), looks := true }, kinds := [], alts := [], laidByText := true, laidKinds := [.sentinel, .sentinel, .sentinel, .sentinel, .sentinel, .sentinel, .sentinel, .sentinel, .sentinel, .sentinel, .sentinel, .sentinel, .sentinel], laidTests := true, laidLooks := .later }
def BranchMemoryCardSaid : Prop := Claim7.holds Tryd.pinned (.plain (OpenSpec.ofChange branchMemorySpec)) branchMemoryCard

/-- THE SECOND FORM's CARD OF 'copselaw8.BranchOnly'. -/
def branchOnlyUptoCard : Claim7 := { stood := { row := branchOnlyUptoRow, standIns := [], harness := (true, "ff8c2ce4bd66bf90cb94defadcef561c443755515b1270ff4bdec98b92e32cc5"), looks := true }, kinds := [], alts := [], laidByText := true, laidKinds := [.data, .sentinel, .sentinel, .sentinel, .sentinel, .sentinel, .sentinel, .sentinel, .sentinel, .sentinel, .sentinel, .sentinel, .sentinel, .sentinel, .pinned], laidTests := true, laidLooks := .later }
def BranchOnlyUptoCardSaid : Prop := Claim7.holds Tryd.pinned (.plain (OpenSpec.upto branchOnlySpec)) branchOnlyUptoCard

/-- THE SECOND FORM's CARD OF 'copselaw8.BranchDecodes'. -/
def branchDecodesUptoCard : Claim7 := { stood := { row := branchDecodesUptoRow, standIns := [], harness := (true, "ff8c2ce4bd66bf90cb94defadcef561c443755515b1270ff4bdec98b92e32cc5"), looks := true }, kinds := [], alts := [], laidByText := true, laidKinds := [.data, .sentinel, .sentinel, .sentinel, .sentinel, .sentinel, .sentinel, .sentinel, .sentinel, .sentinel, .sentinel, .sentinel, .sentinel, .sentinel, .pinned], laidTests := true, laidLooks := .later }
def BranchDecodesUptoCardSaid : Prop := Claim7.holds Tryd.pinned (.plain (OpenSpec.upto branchDecodesSpec)) branchDecodesUptoCard

/-- THE SECOND FORM's CARD OF 'copselaw8.BranchHalves'. -/
def branchHalvesUptoCard : Claim7 := { stood := { row := branchHalvesUptoRow, standIns := [], harness := (true, "ff8c2ce4bd66bf90cb94defadcef561c443755515b1270ff4bdec98b92e32cc5"), looks := true }, kinds := [], alts := [], laidByText := true, laidKinds := [.sentinel, .sentinel, .sentinel, .sentinel, .sentinel, .sentinel, .sentinel, .sentinel, .sentinel, .sentinel, .sentinel, .sentinel, .sentinel], laidTests := true, laidLooks := .later }
def BranchHalvesUptoCardSaid : Prop := Claim7.holds Tryd.pinned (.plain (OpenSpec.upto branchHalvesSpec)) branchHalvesUptoCard

/-- THE SECOND FORM's CARD OF 'copselaw8.BranchMemory'. -/
def branchMemoryUptoCard : Claim7 := { stood := { row := branchMemoryUptoRow, standIns := [], harness := (true, "ff8c2ce4bd66bf90cb94defadcef561c443755515b1270ff4bdec98b92e32cc5"), looks := true }, kinds := [], alts := [], laidByText := true, laidKinds := [.sentinel, .sentinel, .sentinel, .sentinel, .sentinel, .sentinel, .sentinel, .sentinel, .sentinel, .sentinel, .sentinel, .sentinel, .sentinel], laidTests := true, laidLooks := .later }
def BranchMemoryUptoCardSaid : Prop := Claim7.holds Tryd.pinned (.plain (OpenSpec.upto branchMemorySpec)) branchMemoryUptoCard
end Rows
end Go.Proofs.YtagldlchamlpdabDoor
