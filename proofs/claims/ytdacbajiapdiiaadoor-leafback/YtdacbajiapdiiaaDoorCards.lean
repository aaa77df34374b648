/-
  DERIVED. GIVEN WITH THE SEED: THE CARDS: each row of YtdacbajiapdiiaaDoorRows.lean that lists a variable, with what it lists TIED to the program's text (the seventh form; the later family's looks); each row that meets fmt, with fmt's text TOLD by the authors' own Lean function (tested against real Go, not proved from fmt's source: count such statements apart). THE CARD IS WHAT COUNTS. Prove the row's statement (the work); the ties are given (YtdacbajiapdiiaaDoorTie.lean); close each card by the builder's one call (the guide's Derived/Test/ToyasCard.lean, 'card_holds'). Laid BY PROGRAM, IN A SANDBOX (cutbox-door.mjs). By AI agents, Wed Nov 11 2026. No macro, syntax, notation, axiom, sorry.
-/
import Derived.Test.YtdacbajiapdiiaaDoorRows
import GoSem.ClaimSeven
namespace Go.Proofs.YtdacbajiapdiiaaDoor
namespace Rows

/-- THE TIED CARD OF 'copselaw7.LeafSizes'. -/
def leafSizesCard : Claim7 := { stood := { row := leafSizesRow, standIns := [], harness := (true, "333cc46c870845fdfe70e8271ca48fa41fbc8d8ac5cd425215186b5dadcff3e4"), looks := true }, kinds := [], alts := [], laidByText := true, laidKinds := [.sentinel, .sentinel, .sentinel, .sentinel, .sentinel, .sentinel, .sentinel, .sentinel, .sentinel, .sentinel, .sentinel, .sentinel, .sentinel], laidTests := true, laidLooks := .later }
def LeafSizesCardSaid : Prop := Claim7.holds Tryd.pinned (.plain (OpenSpec.ofChange leafSizesSpec)) leafSizesCard

/-- THE TIED CARD OF 'copselaw7.LeafBack'. -/
def leafBackCard : Claim7 := { stood := { row := leafBackRow, standIns := [], harness := (true, "333cc46c870845fdfe70e8271ca48fa41fbc8d8ac5cd425215186b5dadcff3e4"), looks := true }, kinds := [], alts := [], laidByText := true, laidKinds := [.data, .sentinel, .sentinel, .sentinel, .sentinel, .sentinel, .sentinel, .sentinel, .sentinel, .sentinel, .sentinel, .sentinel, .sentinel, .sentinel, .pinned], laidTests := true, laidLooks := .later }
def LeafBackCardSaid : Prop := Claim7.holds Tryd.pinned (.plain (OpenSpec.ofChange leafBackSpec)) leafBackCard

/-- THE TIED CARD OF 'copselaw7.LeafCuts'. -/
def leafCutsCard : Claim7 := { stood := { row := leafCutsRow, standIns := [], harness := (true, "333cc46c870845fdfe70e8271ca48fa41fbc8d8ac5cd425215186b5dadcff3e4"), looks := true }, kinds := [], alts := [], laidByText := true, laidKinds := [.sentinel, .sentinel, .sentinel, .sentinel, .sentinel, .sentinel, .sentinel, .sentinel, .sentinel, .sentinel, .sentinel, .sentinel, .sentinel], laidTests := true, laidLooks := .later }
def LeafCutsCardSaid : Prop := Claim7.holds Tryd.pinned (.plain (OpenSpec.ofChange leafCutsSpec)) leafCutsCard

/-- THE TIED CARD OF 'copselaw7.LeafKeeps'. -/
def leafKeepsCard : Claim7 := { stood := { row := leafKeepsRow, standIns := [], harness := (true, "333cc46c870845fdfe70e8271ca48fa41fbc8d8ac5cd425215186b5dadcff3e4"), looks := true }, kinds := [], alts := [], laidByText := true, laidKinds := [.data, .sentinel, .sentinel, .sentinel, .sentinel, .sentinel, .pinned], laidTests := true, laidLooks := .later }
def LeafKeepsCardSaid : Prop := Claim7.holds Tryd.pinned (.plain (OpenSpec.ofChange leafKeepsSpec)) leafKeepsCard

/-- THE TIED CARD OF 'copselaw7.LeafHalves'. -/
def leafHalvesCard : Claim7 := { stood := { row := leafHalvesRow, standIns := [], harness := (true, "333cc46c870845fdfe70e8271ca48fa41fbc8d8ac5cd425215186b5dadcff3e4"), looks := true }, kinds := [], alts := [], laidByText := true, laidKinds := [.data, .sentinel, .sentinel, .sentinel, .sentinel, .sentinel, .pinned], laidTests := true, laidLooks := .later }
def LeafHalvesCardSaid : Prop := Claim7.holds Tryd.pinned (.plain (OpenSpec.ofChange leafHalvesSpec)) leafHalvesCard

/-- THE SECOND FORM's CARD OF 'copselaw7.LeafSizes'. -/
def leafSizesUptoCard : Claim7 := { stood := { row := leafSizesUptoRow, standIns := [], harness := (true, "333cc46c870845fdfe70e8271ca48fa41fbc8d8ac5cd425215186b5dadcff3e4"), looks := true }, kinds := [], alts := [], laidByText := true, laidKinds := [.sentinel, .sentinel, .sentinel, .sentinel, .sentinel, .sentinel, .sentinel, .sentinel, .sentinel, .sentinel, .sentinel, .sentinel, .sentinel], laidTests := true, laidLooks := .later }
def LeafSizesUptoCardSaid : Prop := Claim7.holds Tryd.pinned (.plain (OpenSpec.upto leafSizesSpec)) leafSizesUptoCard

/-- THE SECOND FORM's CARD OF 'copselaw7.LeafBack'. -/
def leafBackUptoCard : Claim7 := { stood := { row := leafBackUptoRow, standIns := [], harness := (true, "333cc46c870845fdfe70e8271ca48fa41fbc8d8ac5cd425215186b5dadcff3e4"), looks := true }, kinds := [], alts := [], laidByText := true, laidKinds := [.data, .sentinel, .sentinel, .sentinel, .sentinel, .sentinel, .sentinel, .sentinel, .sentinel, .sentinel, .sentinel, .sentinel, .sentinel, .sentinel, .pinned], laidTests := true, laidLooks := .later }
def LeafBackUptoCardSaid : Prop := Claim7.holds Tryd.pinned (.plain (OpenSpec.upto leafBackSpec)) leafBackUptoCard

/-- THE SECOND FORM's CARD OF 'copselaw7.LeafCuts'. -/
def leafCutsUptoCard : Claim7 := { stood := { row := leafCutsUptoRow, standIns := [], harness := (true, "333cc46c870845fdfe70e8271ca48fa41fbc8d8ac5cd425215186b5dadcff3e4"), looks := true }, kinds := [], alts := [], laidByText := true, laidKinds := [.sentinel, .sentinel, .sentinel, .sentinel, .sentinel, .sentinel, .sentinel, .sentinel, .sentinel, .sentinel, .sentinel, .sentinel, .sentinel], laidTests := true, laidLooks := .later }
def LeafCutsUptoCardSaid : Prop := Claim7.holds Tryd.pinned (.plain (OpenSpec.upto leafCutsSpec)) leafCutsUptoCard

/-- THE SECOND FORM's CARD OF 'copselaw7.LeafKeeps'. -/
def leafKeepsUptoCard : Claim7 := { stood := { row := leafKeepsUptoRow, standIns := [], harness := (true, "333cc46c870845fdfe70e8271ca48fa41fbc8d8ac5cd425215186b5dadcff3e4"), looks := true }, kinds := [], alts := [], laidByText := true, laidKinds := [.data, .sentinel, .sentinel, .sentinel, .sentinel, .sentinel, .pinned], laidTests := true, laidLooks := .later }
def LeafKeepsUptoCardSaid : Prop := Claim7.holds Tryd.pinned (.plain (OpenSpec.upto leafKeepsSpec)) leafKeepsUptoCard

/-- THE SECOND FORM's CARD OF 'copselaw7.LeafHalves'. -/
def leafHalvesUptoCard : Claim7 := { stood := { row := leafHalvesUptoRow, standIns := [], harness := (true, "333cc46c870845fdfe70e8271ca48fa41fbc8d8ac5cd425215186b5dadcff3e4"), looks := true }, kinds := [], alts := [], laidByText := true, laidKinds := [.data, .sentinel, .sentinel, .sentinel, .sentinel, .sentinel, .pinned], laidTests := true, laidLooks := .later }
def LeafHalvesUptoCardSaid : Prop := Claim7.holds Tryd.pinned (.plain (OpenSpec.upto leafHalvesSpec)) leafHalvesUptoCard
end Rows
end Go.Proofs.YtdacbajiapdiiaaDoor
