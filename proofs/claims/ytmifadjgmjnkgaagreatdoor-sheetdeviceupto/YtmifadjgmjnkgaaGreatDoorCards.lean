/-
  DERIVED. GIVEN WITH THE SEED: THE CARDS: each row of YtmifadjgmjnkgaaGreatDoorRows.lean that lists a variable, with what it lists TIED to the program's text (the seventh form; the later family's looks); each row that meets fmt, with fmt's text TOLD by the authors' own Lean function (tested against real Go, not proved from fmt's source: count such statements apart). THE CARD IS WHAT COUNTS. Prove the row's statement (the work); the ties are given (YtmifadjgmjnkgaaGreatDoorTie.lean); close each card by the builder's one call (the guide's Derived/Test/ToyasCard.lean, 'card_holds'). Laid BY PROGRAM, IN A SANDBOX (cutbox-door.mjs). By AI agents, Wed Nov 11 2026. No macro, syntax, notation, axiom, sorry.
-/
import Derived.Test.YtmifadjgmjnkgaaGreatDoorRows
import GoSem.ClaimSeven
namespace Go.Proofs.YtmifadjgmjnkgaaGreatDoor
namespace Rows

/-- THE TIED CARD OF 'copselaw4.SheetDevice'. -/
def sheetDeviceCard : Claim7 := { stood := { row := sheetDeviceRow, standIns := [], harness := (true, "109f6a63b7ef2a7af6b4b3b7af23e98d9f6851144ef82716698bc98a4c09eaa0"), looks := true }, kinds := [], alts := [], laidByText := true, laidKinds := [.sentinel, .sentinel, .sentinel, .sentinel, .sentinel, .sentinel, .sentinel, .sentinel, .sentinel, .sentinel, .sentinel, .sentinel, .sentinel, .data, .data], laidTests := true, laidLooks := .later }
def SheetDeviceCardSaid : Prop := Claim7.holds Tryz.pinned (.plain (OpenSpec.ofChange sheetDeviceSpec)) sheetDeviceCard

/-- THE SECOND FORM's CARD OF 'copselaw4.SheetDevice'. -/
def sheetDeviceUptoCard : Claim7 := { stood := { row := sheetDeviceUptoRow, standIns := [], harness := (true, "109f6a63b7ef2a7af6b4b3b7af23e98d9f6851144ef82716698bc98a4c09eaa0"), looks := true }, kinds := [], alts := [], laidByText := true, laidKinds := [.sentinel, .sentinel, .sentinel, .sentinel, .sentinel, .sentinel, .sentinel, .sentinel, .sentinel, .sentinel, .sentinel, .sentinel, .sentinel, .data, .data], laidTests := true, laidLooks := .later }
def SheetDeviceUptoCardSaid : Prop := Claim7.holds Tryz.pinned (.plain (OpenSpec.upto sheetDeviceSpec)) sheetDeviceUptoCard
end Rows
end Go.Proofs.YtmifadjgmjnkgaaGreatDoor
