/-
  DERIVED. GIVEN WITH THE SEED: THE CARDS: each row of YtagldlchamlpdaaDoorRows.lean that lists a variable, with what it lists TIED to the program's text (the seventh form; the later family's looks); each row that meets fmt, with fmt's text TOLD by the authors' own Lean function (tested against real Go, not proved from fmt's source: count such statements apart). THE CARD IS WHAT COUNTS. Prove the row's statement (the work); the ties are given (YtagldlchamlpdaaDoorTie.lean); close each card by the builder's one call (the guide's Derived/Test/ToyasCard.lean, 'card_holds'). Laid BY PROGRAM, IN A SANDBOX (cutbox-door.mjs). By AI agents, Wed Nov 11 2026. No macro, syntax, notation, axiom, sorry.
-/
import Derived.Test.YtagldlchamlpdaaDoorRows
import GoSem.ClaimSeven
namespace Go.Proofs.YtagldlchamlpdaaDoor
namespace Rows

/-- THE TIED CARD OF 'copselaw8.BranchEdit'. -/
def branchEditCard : Claim7 := { stood := { row := branchEditRow, standIns := [], harness := (true, "a6b37a0d8310c69c9e2557701b93e906a10b284347b16bccd353eac3bc57385a"), looks := true }, kinds := [], alts := [], laidByText := true, laidKinds := [.sentinel], laidTests := true, laidLooks := .later }
def BranchEditCardSaid : Prop := Claim7.holds Tryd.pinned (.plain (OpenSpec.ofChange branchEditSpec)) branchEditCard

/-- THE TIED CARD OF 'copselaw8.BranchCuts'. -/
def branchCutsCard : Claim7 := { stood := { row := branchCutsRow, standIns := [], harness := (true, "a6b37a0d8310c69c9e2557701b93e906a10b284347b16bccd353eac3bc57385a"), looks := true }, kinds := [], alts := [], laidByText := true, laidKinds := [.sentinel, .sentinel, .sentinel, .sentinel, .sentinel, .sentinel, .sentinel, .sentinel, .sentinel, .sentinel, .sentinel, .sentinel, .sentinel], laidTests := true, laidLooks := .later }
def BranchCutsCardSaid : Prop := Claim7.holds Tryd.pinned (.plain (OpenSpec.ofChange branchCutsSpec)) branchCutsCard

/-- THE TIED CARD OF 'copselaw8.BranchEdits'. -/
def branchEditsCard : Claim7 := { stood := { row := branchEditsRow, standIns := [], harness := (true, "a6b37a0d8310c69c9e2557701b93e906a10b284347b16bccd353eac3bc57385a"), looks := true }, kinds := [], alts := [], laidByText := true, laidKinds := [.sentinel, .sentinel, .sentinel, .sentinel, .sentinel, .sentinel, .sentinel, .sentinel, .sentinel, .sentinel, .sentinel, .sentinel, .sentinel], laidTests := true, laidLooks := .later }
def BranchEditsCardSaid : Prop := Claim7.holds Tryd.pinned (.plain (OpenSpec.ofChange branchEditsSpec)) branchEditsCard

/-- THE TIED CARD OF 'copselaw8.BranchChecks'. -/
def branchChecksCard : Claim7 := { stood := { row := branchChecksRow, standIns := [], harness := (true, "a6b37a0d8310c69c9e2557701b93e906a10b284347b16bccd353eac3bc57385a"), looks := true }, kinds := [], alts := [], laidByText := true, laidKinds := [.sentinel, .sentinel, .sentinel, .sentinel, .sentinel, .sentinel, .sentinel, .sentinel, .sentinel, .sentinel, .sentinel, .sentinel, .sentinel], laidTests := true, laidLooks := .later }
def BranchChecksCardSaid : Prop := Claim7.holds Tryd.pinned (.plain (OpenSpec.ofChange branchChecksSpec)) branchChecksCard

/-- THE TIED CARD OF 'copselaw8.BranchEncodes'. -/
def branchEncodesCard : Claim7 := { stood := { row := branchEncodesRow, standIns := [], harness := (true, "a6b37a0d8310c69c9e2557701b93e906a10b284347b16bccd353eac3bc57385a"), looks := true }, kinds := [], alts := [], laidByText := true, laidKinds := [.sentinel, .sentinel, .sentinel, .sentinel, .sentinel, .sentinel, .sentinel, .sentinel, .sentinel, .sentinel, .sentinel, .sentinel, .sentinel], laidTests := true, laidLooks := .later }
def BranchEncodesCardSaid : Prop := Claim7.holds Tryd.pinned (.plain (OpenSpec.ofChange branchEncodesSpec)) branchEncodesCard

/-- THE TIED CARD OF 'copselaw8.BranchBack'. -/
def branchBackCard : Claim7 := { stood := { row := branchBackRow, standIns := [], harness := (true, "a6b37a0d8310c69c9e2557701b93e906a10b284347b16bccd353eac3bc57385a"), looks := true }, kinds := [], alts := [], laidByText := true, laidKinds := [.data, .sentinel, .sentinel, .sentinel, .sentinel, .sentinel, .sentinel, .sentinel, .sentinel, .sentinel, .sentinel, .sentinel, .sentinel, .sentinel, .pinned], laidTests := true, laidLooks := .later }
def BranchBackCardSaid : Prop := Claim7.holds Tryd.pinned (.plain (OpenSpec.ofChange branchBackSpec)) branchBackCard

/-- THE SECOND FORM's CARD OF 'copselaw8.BranchEdit'. -/
def branchEditUptoCard : Claim7 := { stood := { row := branchEditUptoRow, standIns := [], harness := (true, "a6b37a0d8310c69c9e2557701b93e906a10b284347b16bccd353eac3bc57385a"), looks := true }, kinds := [], alts := [], laidByText := true, laidKinds := [.sentinel], laidTests := true, laidLooks := .later }
def BranchEditUptoCardSaid : Prop := Claim7.holds Tryd.pinned (.plain (OpenSpec.upto branchEditSpec)) branchEditUptoCard

/-- THE SECOND FORM's CARD OF 'copselaw8.BranchCuts'. -/
def branchCutsUptoCard : Claim7 := { stood := { row := branchCutsUptoRow, standIns := [], harness := (true, "a6b37a0d8310c69c9e2557701b93e906a10b284347b16bccd353eac3bc57385a"), looks := true }, kinds := [], alts := [], laidByText := true, laidKinds := [.sentinel, .sentinel, .sentinel, .sentinel, .sentinel, .sentinel, .sentinel, .sentinel, .sentinel, .sentinel, .sentinel, .sentinel, .sentinel], laidTests := true, laidLooks := .later }
def BranchCutsUptoCardSaid : Prop := Claim7.holds Tryd.pinned (.plain (OpenSpec.upto branchCutsSpec)) branchCutsUptoCard

/-- THE SECOND FORM's CARD OF 'copselaw8.BranchEdits'. -/
def branchEditsUptoCard : Claim7 := { stood := { row := branchEditsUptoRow, standIns := [], harness := (true, "a6b37a0d8310c69c9e2557701b93e906a10b284347b16bccd353eac3bc57385a"), looks := true }, kinds := [], alts := [], laidByText := true, laidKinds := [.sentinel, .sentinel, .sentinel, .sentinel, .sentinel, .sentinel, .sentinel, .sentinel, .sentinel, .sentinel, .sentinel, .sentinel, .sentinel], laidTests := true, laidLooks := .later }
def BranchEditsUptoCardSaid : Prop := Claim7.holds Tryd.pinned (.plain (OpenSpec.upto branchEditsSpec)) branchEditsUptoCard

/-- THE SECOND FORM's CARD OF 'copselaw8.BranchChecks'. -/
def branchChecksUptoCard : Claim7 := { stood := { row := branchChecksUptoRow, standIns := [], harness := (true, "a6b37a0d8310c69c9e2557701b93e906a10b284347b16bccd353eac3bc57385a"), looks := true }, kinds := [], alts := [], laidByText := true, laidKinds := [.sentinel, .sentinel, .sentinel, .sentinel, .sentinel, .sentinel, .sentinel, .sentinel, .sentinel, .sentinel, .sentinel, .sentinel, .sentinel], laidTests := true, laidLooks := .later }
def BranchChecksUptoCardSaid : Prop := Claim7.holds Tryd.pinned (.plain (OpenSpec.upto branchChecksSpec)) branchChecksUptoCard

/-- THE SECOND FORM's CARD OF 'copselaw8.BranchEncodes'. -/
def branchEncodesUptoCard : Claim7 := { stood := { row := branchEncodesUptoRow, standIns := [], harness := (true, "a6b37a0d8310c69c9e2557701b93e906a10b284347b16bccd353eac3bc57385a"), looks := true }, kinds := [], alts := [], laidByText := true, laidKinds := [.sentinel, .sentinel, .sentinel, .sentinel, .sentinel, .sentinel, .sentinel, .sentinel, .sentinel, .sentinel, .sentinel, .sentinel, .sentinel], laidTests := true, laidLooks := .later }
def BranchEncodesUptoCardSaid : Prop := Claim7.holds Tryd.pinned (.plain (OpenSpec.upto branchEncodesSpec)) branchEncodesUptoCard

/-- THE SECOND FORM's CARD OF 'copselaw8.BranchBack'. -/
def branchBackUptoCard : Claim7 := { stood := { row := branchBackUptoRow, standIns := [], harness := (true, "a6b37a0d8310c69c9e2557701b93e906a10b284347b16bccd353eac3bc57385a"), looks := true }, kinds := [], alts := [], laidByText := true, laidKinds := [.data, .sentinel, .sentinel, .sentinel, .sentinel, .sentinel, .sentinel, .sentinel, .sentinel, .sentinel, .sentinel, .sentinel, .sentinel, .sentinel, .pinned], laidTests := true, laidLooks := .later }
def BranchBackUptoCardSaid : Prop := Claim7.holds Tryd.pinned (.plain (OpenSpec.upto branchBackSpec)) branchBackUptoCard
end Rows
end Go.Proofs.YtagldlchamlpdaaDoor
