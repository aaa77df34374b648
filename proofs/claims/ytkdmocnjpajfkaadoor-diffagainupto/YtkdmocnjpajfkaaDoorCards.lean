/-
  DERIVED. GIVEN WITH THE SEED: THE CARDS: each row of YtkdmocnjpajfkaaDoorRows.lean that lists a variable, with what it lists TIED to the program's text (the seventh form; the later family's looks); each row that meets fmt, with fmt's text TOLD by the authors' own Lean function (tested against real Go, not proved from fmt's source: count such statements apart). THE CARD IS WHAT COUNTS. Prove the row's statement (the work); the ties are given (YtkdmocnjpajfkaaDoorTie.lean); close each card by the builder's one call (the guide's Derived/Test/ToyasCard.lean, 'card_holds'). Laid BY PROGRAM, IN A SANDBOX (cutbox-door.mjs). By AI agents, Wed Nov 11 2026. No macro, syntax, notation, axiom, sorry.
-/
import Derived.Test.YtkdmocnjpajfkaaDoorRows
import GoSem.ClaimSeven
namespace Go.Proofs.YtkdmocnjpajfkaaDoor
namespace Rows

/-- THE TIED CARD OF 'copselaw19.DiffChain'. -/
def diffChainCard : Claim7 := { stood := { row := diffChainRow, standIns := [], harness := (true, "88d827711c404926b44f64d4f6dc1cb9f748a4ada15b8ff07183b916da99ab54"), looks := true }, kinds := [], alts := [], laidByText := true, laidKinds := [.sentinel, .sentinel], laidTests := true, laidLooks := .later }
def DiffChainCardSaid : Prop := Claim7.holds Tryd.pinned (.plain (OpenSpec.ofChange diffChainSpec)) diffChainCard

/-- THE TIED CARD OF 'copselaw19.DiffAgain'. -/
def diffAgainCard : Claim7 := { stood := { row := diffAgainRow, standIns := [], harness := (true, "88d827711c404926b44f64d4f6dc1cb9f748a4ada15b8ff07183b916da99ab54"), looks := true }, kinds := [], alts := [], laidByText := true, laidKinds := [.sentinel, .sentinel], laidTests := true, laidLooks := .later }
def DiffAgainCardSaid : Prop := Claim7.holds Tryd.pinned (.plain (OpenSpec.ofChange diffAgainSpec)) diffAgainCard

/-- THE TIED CARD OF 'copselaw19.DiffBack'. -/
def diffBackCard : Claim7 := { stood := { row := diffBackRow, standIns := [], harness := (true, "88d827711c404926b44f64d4f6dc1cb9f748a4ada15b8ff07183b916da99ab54"), looks := true }, kinds := [], alts := [], laidByText := true, laidKinds := [.sentinel, .sentinel], laidTests := true, laidLooks := .later }
def DiffBackCardSaid : Prop := Claim7.holds Tryd.pinned (.plain (OpenSpec.ofChange diffBackSpec)) diffBackCard

/-- THE TIED CARD OF 'copselaw19.DiffLists'. -/
def diffListsCard : Claim7 := { stood := { row := diffListsRow, standIns := [], harness := (true, "88d827711c404926b44f64d4f6dc1cb9f748a4ada15b8ff07183b916da99ab54"), looks := true }, kinds := [], alts := [], laidByText := true, laidKinds := [.sentinel, .sentinel, .sentinel, .sentinel, .sentinel, .sentinel, .sentinel, .sentinel, .sentinel, .sentinel, .sentinel, .sentinel, .sentinel], laidTests := true, laidLooks := .later }
def DiffListsCardSaid : Prop := Claim7.holds Tryd.pinned (.plain (OpenSpec.ofChange diffListsSpec)) diffListsCard

/-- THE TIED CARD OF 'copselaw19.DiffComposes'. -/
def diffComposesCard : Claim7 := { stood := { row := diffComposesRow, standIns := [], harness := (true, "88d827711c404926b44f64d4f6dc1cb9f748a4ada15b8ff07183b916da99ab54"), looks := true }, kinds := [], alts := [], laidByText := true, laidKinds := [.sentinel, .sentinel, .sentinel, .sentinel, .sentinel, .sentinel, .sentinel, .sentinel, .sentinel, .sentinel, .sentinel, .sentinel, .sentinel], laidTests := true, laidLooks := .later }
def DiffComposesCardSaid : Prop := Claim7.holds Tryd.pinned (.plain (OpenSpec.ofChange diffComposesSpec)) diffComposesCard

/-- THE TIED CARD OF 'copselaw19.DiffPatches'. -/
def diffPatchesCard : Claim7 := { stood := { row := diffPatchesRow, standIns := [], harness := (true, "88d827711c404926b44f64d4f6dc1cb9f748a4ada15b8ff07183b916da99ab54"), looks := true }, kinds := [], alts := [], laidByText := true, laidKinds := [.sentinel, .sentinel, .sentinel, .sentinel, .sentinel, .sentinel, .sentinel, .sentinel, .sentinel, .sentinel, .sentinel, .sentinel, .sentinel], laidTests := true, laidLooks := .later }
def DiffPatchesCardSaid : Prop := Claim7.holds Tryd.pinned (.plain (OpenSpec.ofChange diffPatchesSpec)) diffPatchesCard

/-- THE SECOND FORM's CARD OF 'copselaw19.DiffChain'. -/
def diffChainUptoCard : Claim7 := { stood := { row := diffChainUptoRow, standIns := [], harness := (true, "88d827711c404926b44f64d4f6dc1cb9f748a4ada15b8ff07183b916da99ab54"), looks := true }, kinds := [], alts := [], laidByText := true, laidKinds := [.sentinel, .sentinel], laidTests := true, laidLooks := .later }
def DiffChainUptoCardSaid : Prop := Claim7.holds Tryd.pinned (.plain (OpenSpec.upto diffChainSpec)) diffChainUptoCard

/-- THE SECOND FORM's CARD OF 'copselaw19.DiffAgain'. -/
def diffAgainUptoCard : Claim7 := { stood := { row := diffAgainUptoRow, standIns := [], harness := (true, "88d827711c404926b44f64d4f6dc1cb9f748a4ada15b8ff07183b916da99ab54"), looks := true }, kinds := [], alts := [], laidByText := true, laidKinds := [.sentinel, .sentinel], laidTests := true, laidLooks := .later }
def DiffAgainUptoCardSaid : Prop := Claim7.holds Tryd.pinned (.plain (OpenSpec.upto diffAgainSpec)) diffAgainUptoCard

/-- THE SECOND FORM's CARD OF 'copselaw19.DiffBack'. -/
def diffBackUptoCard : Claim7 := { stood := { row := diffBackUptoRow, standIns := [], harness := (true, "88d827711c404926b44f64d4f6dc1cb9f748a4ada15b8ff07183b916da99ab54"), looks := true }, kinds := [], alts := [], laidByText := true, laidKinds := [.sentinel, .sentinel], laidTests := true, laidLooks := .later }
def DiffBackUptoCardSaid : Prop := Claim7.holds Tryd.pinned (.plain (OpenSpec.upto diffBackSpec)) diffBackUptoCard

/-- THE SECOND FORM's CARD OF 'copselaw19.DiffLists'. -/
def diffListsUptoCard : Claim7 := { stood := { row := diffListsUptoRow, standIns := [], harness := (true, "88d827711c404926b44f64d4f6dc1cb9f748a4ada15b8ff07183b916da99ab54"), looks := true }, kinds := [], alts := [], laidByText := true, laidKinds := [.sentinel, .sentinel, .sentinel, .sentinel, .sentinel, .sentinel, .sentinel, .sentinel, .sentinel, .sentinel, .sentinel, .sentinel, .sentinel], laidTests := true, laidLooks := .later }
def DiffListsUptoCardSaid : Prop := Claim7.holds Tryd.pinned (.plain (OpenSpec.upto diffListsSpec)) diffListsUptoCard

/-- THE SECOND FORM's CARD OF 'copselaw19.DiffComposes'. -/
def diffComposesUptoCard : Claim7 := { stood := { row := diffComposesUptoRow, standIns := [], harness := (true, "88d827711c404926b44f64d4f6dc1cb9f748a4ada15b8ff07183b916da99ab54"), looks := true }, kinds := [], alts := [], laidByText := true, laidKinds := [.sentinel, .sentinel, .sentinel, .sentinel, .sentinel, .sentinel, .sentinel, .sentinel, .sentinel, .sentinel, .sentinel, .sentinel, .sentinel], laidTests := true, laidLooks := .later }
def DiffComposesUptoCardSaid : Prop := Claim7.holds Tryd.pinned (.plain (OpenSpec.upto diffComposesSpec)) diffComposesUptoCard

/-- THE SECOND FORM's CARD OF 'copselaw19.DiffPatches'. -/
def diffPatchesUptoCard : Claim7 := { stood := { row := diffPatchesUptoRow, standIns := [], harness := (true, "88d827711c404926b44f64d4f6dc1cb9f748a4ada15b8ff07183b916da99ab54"), looks := true }, kinds := [], alts := [], laidByText := true, laidKinds := [.sentinel, .sentinel, .sentinel, .sentinel, .sentinel, .sentinel, .sentinel, .sentinel, .sentinel, .sentinel, .sentinel, .sentinel, .sentinel], laidTests := true, laidLooks := .later }
def DiffPatchesUptoCardSaid : Prop := Claim7.holds Tryd.pinned (.plain (OpenSpec.upto diffPatchesSpec)) diffPatchesUptoCard
end Rows
end Go.Proofs.YtkdmocnjpajfkaaDoor
