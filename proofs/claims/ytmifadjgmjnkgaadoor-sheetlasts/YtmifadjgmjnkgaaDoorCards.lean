/-
  DERIVED. GIVEN WITH THE SEED: THE CARDS: each row of YtmifadjgmjnkgaaDoorRows.lean that lists a variable, with what it lists TIED to the program's text (the seventh form; the later family's looks); each row that meets fmt, with fmt's text TOLD by the authors' own Lean function (tested against real Go, not proved from fmt's source: count such statements apart). THE CARD IS WHAT COUNTS. Prove the row's statement (the work); the ties are given (YtmifadjgmjnkgaaDoorTie.lean); close each card by the builder's one call (the guide's Derived/Test/ToyasCard.lean, 'card_holds'). Laid BY PROGRAM, IN A SANDBOX (cutbox-door.mjs). By AI agents, Wed Nov 11 2026. No macro, syntax, notation, axiom, sorry.
-/
import Derived.Test.YtmifadjgmjnkgaaDoorRows
import GoSem.ClaimSeven
namespace Go.Proofs.YtmifadjgmjnkgaaDoor
namespace Rows

/-- THE TIED CARD OF 'copselaw4.SheetLasts'. -/
def sheetLastsCard : Claim7 := { stood := { row := sheetLastsRow, standIns := [], harness := (true, "f0272f275ec3356c6fe90c26f4f4459c7507bbcb90abd3e126c82dc050c1338a"), looks := true }, kinds := [], alts := [], laidByText := true, laidKinds := [.sentinel, .sentinel, .sentinel, .sentinel, .data, .data], laidTests := true, laidLooks := .later }
def SheetLastsCardSaid : Prop := Claim7.holds Tryd.pinned (.plain (OpenSpec.ofChange sheetLastsSpec)) sheetLastsCard

/-- THE TIED CARD OF 'copselaw4.SheetBack'. -/
def sheetBackCard : Claim7 := { stood := { row := sheetBackRow, standIns := [], harness := (true, "f0272f275ec3356c6fe90c26f4f4459c7507bbcb90abd3e126c82dc050c1338a"), looks := true }, kinds := [], alts := [], laidByText := true, laidKinds := [.sentinel, .sentinel, .sentinel, .sentinel, .sentinel, .sentinel, .sentinel, .sentinel, .sentinel, .sentinel, .sentinel, .sentinel, .sentinel, .data, .data], laidTests := true, laidLooks := .later }
def SheetBackCardSaid : Prop := Claim7.holds Tryd.pinned (.plain (OpenSpec.ofChange sheetBackSpec)) sheetBackCard

/-- THE TIED CARD OF 'copselaw4.SheetBursts'. -/
def sheetBurstsCard : Claim7 := { stood := { row := sheetBurstsRow, standIns := [], harness := (true, "f0272f275ec3356c6fe90c26f4f4459c7507bbcb90abd3e126c82dc050c1338a"), looks := true }, kinds := [], alts := [], laidByText := true, laidKinds := [.sentinel, .sentinel, .sentinel, .sentinel, .sentinel, .sentinel, .sentinel, .sentinel, .sentinel, .sentinel, .sentinel, .sentinel, .sentinel, .data, .data], laidTests := true, laidLooks := .later }
def SheetBurstsCardSaid : Prop := Claim7.holds Tryd.pinned (.plain (OpenSpec.ofChange sheetBurstsSpec)) sheetBurstsCard

/-- THE TIED CARD OF 'copselaw4.SheetSeals'. -/
def sheetSealsCard : Claim7 := { stood := { row := sheetSealsRow, standIns := [], harness := (true, "f0272f275ec3356c6fe90c26f4f4459c7507bbcb90abd3e126c82dc050c1338a"), looks := true }, kinds := [], alts := [], laidByText := true, laidKinds := [.sentinel, .sentinel, .sentinel, .sentinel, .sentinel, .sentinel, .sentinel, .sentinel, .sentinel, .sentinel, .sentinel, .sentinel, .sentinel, .data, .data], laidTests := true, laidLooks := .later }
def SheetSealsCardSaid : Prop := Claim7.holds Tryd.pinned (.plain (OpenSpec.ofChange sheetSealsSpec)) sheetSealsCard

/-- THE TIED CARD OF 'copselaw4.SheetReads'. -/
def sheetReadsCard : Claim7 := { stood := { row := sheetReadsRow, standIns := [], harness := (true, "f0272f275ec3356c6fe90c26f4f4459c7507bbcb90abd3e126c82dc050c1338a"), looks := true }, kinds := [], alts := [], laidByText := true, laidKinds := [.sentinel, .sentinel, .sentinel, .sentinel, .sentinel, .sentinel, .sentinel, .sentinel, .sentinel, .sentinel, .sentinel, .sentinel, .sentinel, .data, .data], laidTests := true, laidLooks := .later }
def SheetReadsCardSaid : Prop := Claim7.holds Tryd.pinned (.plain (OpenSpec.ofChange sheetReadsSpec)) sheetReadsCard

/-- THE SECOND FORM's CARD OF 'copselaw4.SheetLasts'. -/
def sheetLastsUptoCard : Claim7 := { stood := { row := sheetLastsUptoRow, standIns := [], harness := (true, "f0272f275ec3356c6fe90c26f4f4459c7507bbcb90abd3e126c82dc050c1338a"), looks := true }, kinds := [], alts := [], laidByText := true, laidKinds := [.sentinel, .sentinel, .sentinel, .sentinel, .data, .data], laidTests := true, laidLooks := .later }
def SheetLastsUptoCardSaid : Prop := Claim7.holds Tryd.pinned (.plain (OpenSpec.upto sheetLastsSpec)) sheetLastsUptoCard

/-- THE SECOND FORM's CARD OF 'copselaw4.SheetBack'. -/
def sheetBackUptoCard : Claim7 := { stood := { row := sheetBackUptoRow, standIns := [], harness := (true, "f0272f275ec3356c6fe90c26f4f4459c7507bbcb90abd3e126c82dc050c1338a"), looks := true }, kinds := [], alts := [], laidByText := true, laidKinds := [.sentinel, .sentinel, .sentinel, .sentinel, .sentinel, .sentinel, .sentinel, .sentinel, .sentinel, .sentinel, .sentinel, .sentinel, .sentinel, .data, .data], laidTests := true, laidLooks := .later }
def SheetBackUptoCardSaid : Prop := Claim7.holds Tryd.pinned (.plain (OpenSpec.upto sheetBackSpec)) sheetBackUptoCard

/-- THE SECOND FORM's CARD OF 'copselaw4.SheetBursts'. -/
def sheetBurstsUptoCard : Claim7 := { stood := { row := sheetBurstsUptoRow, standIns := [], harness := (true, "f0272f275ec3356c6fe90c26f4f4459c7507bbcb90abd3e126c82dc050c1338a"), looks := true }, kinds := [], alts := [], laidByText := true, laidKinds := [.sentinel, .sentinel, .sentinel, .sentinel, .sentinel, .sentinel, .sentinel, .sentinel, .sentinel, .sentinel, .sentinel, .sentinel, .sentinel, .data, .data], laidTests := true, laidLooks := .later }
def SheetBurstsUptoCardSaid : Prop := Claim7.holds Tryd.pinned (.plain (OpenSpec.upto sheetBurstsSpec)) sheetBurstsUptoCard

/-- THE SECOND FORM's CARD OF 'copselaw4.SheetSeals'. -/
def sheetSealsUptoCard : Claim7 := { stood := { row := sheetSealsUptoRow, standIns := [], harness := (true, "f0272f275ec3356c6fe90c26f4f4459c7507bbcb90abd3e126c82dc050c1338a"), looks := true }, kinds := [], alts := [], laidByText := true, laidKinds := [.sentinel, .sentinel, .sentinel, .sentinel, .sentinel, .sentinel, .sentinel, .sentinel, .sentinel, .sentinel, .sentinel, .sentinel, .sentinel, .data, .data], laidTests := true, laidLooks := .later }
def SheetSealsUptoCardSaid : Prop := Claim7.holds Tryd.pinned (.plain (OpenSpec.upto sheetSealsSpec)) sheetSealsUptoCard

/-- THE SECOND FORM's CARD OF 'copselaw4.SheetReads'. -/
def sheetReadsUptoCard : Claim7 := { stood := { row := sheetReadsUptoRow, standIns := [], harness := (true, "f0272f275ec3356c6fe90c26f4f4459c7507bbcb90abd3e126c82dc050c1338a"), looks := true }, kinds := [], alts := [], laidByText := true, laidKinds := [.sentinel, .sentinel, .sentinel, .sentinel, .sentinel, .sentinel, .sentinel, .sentinel, .sentinel, .sentinel, .sentinel, .sentinel, .sentinel, .data, .data], laidTests := true, laidLooks := .later }
def SheetReadsUptoCardSaid : Prop := Claim7.holds Tryd.pinned (.plain (OpenSpec.upto sheetReadsSpec)) sheetReadsUptoCard
end Rows
end Go.Proofs.YtmifadjgmjnkgaaDoor
