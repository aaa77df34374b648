/-
  DERIVED. GIVEN WITH THE SEED: THE CARDS: each row of YtlopimdnjookeaaDoorRows.lean that lists a variable, with what it lists TIED to the program's text (the seventh form; the later family's looks); each row that meets fmt, with fmt's text TOLD by the authors' own Lean function (tested against real Go, not proved from fmt's source: count such statements apart). THE CARD IS WHAT COUNTS. Prove the row's statement (the work); the ties are given (YtlopimdnjookeaaDoorTie.lean); close each card by the builder's one call (the guide's Derived/Test/ToyasCard.lean, 'card_holds'). Laid BY PROGRAM, IN A SANDBOX (cutbox-door.mjs). By AI agents, Wed Nov 11 2026. No macro, syntax, notation, axiom, sorry.
-/
import Derived.Test.YtlopimdnjookeaaDoorRows
import GoSem.ClaimSeven
namespace Go.Proofs.YtlopimdnjookeaaDoor
namespace Rows

/-- THE TIED CARD OF 'copselaw5.MetaTurns'. -/
def metaTurnsCard : Claim7 := { stood := { row := metaTurnsRow, standIns := [], harness := (true, "5deadd820ffd7f2e923b39dd31bbf8d8b7837edfb9bddf8be86ae5a8db590af9"), looks := true }, kinds := [], alts := [], laidByText := true, laidKinds := [.sentinel, .sentinel, .sentinel, .sentinel, .data], laidTests := true, laidLooks := .later }
def MetaTurnsCardSaid : Prop := Claim7.holds Tryd.pinned (.plain (OpenSpec.ofChange metaTurnsSpec)) metaTurnsCard

/-- THE TIED CARD OF 'copselaw5.MetaBack'. -/
def metaBackCard : Claim7 := { stood := { row := metaBackRow, standIns := [], harness := (true, "5deadd820ffd7f2e923b39dd31bbf8d8b7837edfb9bddf8be86ae5a8db590af9"), looks := true }, kinds := [], alts := [], laidByText := true, laidKinds := [.sentinel, .sentinel, .sentinel, .sentinel, .sentinel, .sentinel, .sentinel, .sentinel, .sentinel, .sentinel, .sentinel, .sentinel, .sentinel, .data], laidTests := true, laidLooks := .later }
def MetaBackCardSaid : Prop := Claim7.holds Tryd.pinned (.plain (OpenSpec.ofChange metaBackSpec)) metaBackCard

/-- THE TIED CARD OF 'copselaw5.MetaBurst'. -/
def metaBurstCard : Claim7 := { stood := { row := metaBurstRow, standIns := [], harness := (true, "5deadd820ffd7f2e923b39dd31bbf8d8b7837edfb9bddf8be86ae5a8db590af9"), looks := true }, kinds := [], alts := [], laidByText := true, laidKinds := [.sentinel, .sentinel, .sentinel, .sentinel, .sentinel, .sentinel, .sentinel, .sentinel, .sentinel, .sentinel, .sentinel, .sentinel, .sentinel, .data], laidTests := true, laidLooks := .later }
def MetaBurstCardSaid : Prop := Claim7.holds Tryd.pinned (.plain (OpenSpec.ofChange metaBurstSpec)) metaBurstCard

/-- THE TIED CARD OF 'copselaw5.MetaOnly'. -/
def metaOnlyCard : Claim7 := { stood := { row := metaOnlyRow, standIns := [], harness := (true, "5deadd820ffd7f2e923b39dd31bbf8d8b7837edfb9bddf8be86ae5a8db590af9"), looks := true }, kinds := [], alts := [], laidByText := true, laidKinds := [.sentinel, .sentinel, .sentinel, .sentinel, .sentinel, .sentinel, .sentinel, .sentinel, .sentinel, .sentinel, .sentinel, .sentinel, .sentinel, .data], laidTests := true, laidLooks := .later }
def MetaOnlyCardSaid : Prop := Claim7.holds Tryd.pinned (.plain (OpenSpec.ofChange metaOnlySpec)) metaOnlyCard

/-- THE TIED CARD OF 'copselaw5.MetaEncodes'. -/
def metaEncodesCard : Claim7 := { stood := { row := metaEncodesRow, standIns := [], harness := (true, "5deadd820ffd7f2e923b39dd31bbf8d8b7837edfb9bddf8be86ae5a8db590af9"), looks := true }, kinds := [], alts := [], laidByText := true, laidKinds := [.sentinel, .sentinel, .sentinel, .sentinel, .sentinel, .sentinel, .sentinel, .sentinel, .sentinel, .sentinel, .sentinel, .sentinel, .sentinel, .data], laidTests := true, laidLooks := .later }
def MetaEncodesCardSaid : Prop := Claim7.holds Tryd.pinned (.plain (OpenSpec.ofChange metaEncodesSpec)) metaEncodesCard

/-- THE TIED CARD OF 'copselaw5.MetaMemory'. -/
def metaMemoryCard : Claim7 := { stood := { row := metaMemoryRow, standIns := [], harness := (true, "5deadd820ffd7f2e923b39dd31bbf8d8b7837edfb9bddf8be86ae5a8db590af9"), looks := true }, kinds := [], alts := [], laidByText := true, laidKinds := [.sentinel, .sentinel, .sentinel, .sentinel, .sentinel, .sentinel, .sentinel, .sentinel, .sentinel, .sentinel, .sentinel, .sentinel, .sentinel, .data], laidTests := true, laidLooks := .later }
def MetaMemoryCardSaid : Prop := Claim7.holds Tryd.pinned (.plain (OpenSpec.ofChange metaMemorySpec)) metaMemoryCard

/-- THE SECOND FORM's CARD OF 'copselaw5.MetaTurns'. -/
def metaTurnsUptoCard : Claim7 := { stood := { row := metaTurnsUptoRow, standIns := [], harness := (true, "5deadd820ffd7f2e923b39dd31bbf8d8b7837edfb9bddf8be86ae5a8db590af9"), looks := true }, kinds := [], alts := [], laidByText := true, laidKinds := [.sentinel, .sentinel, .sentinel, .sentinel, .data], laidTests := true, laidLooks := .later }
def MetaTurnsUptoCardSaid : Prop := Claim7.holds Tryd.pinned (.plain (OpenSpec.upto metaTurnsSpec)) metaTurnsUptoCard

/-- THE SECOND FORM's CARD OF 'copselaw5.MetaBack'. -/
def metaBackUptoCard : Claim7 := { stood := { row := metaBackUptoRow, standIns := [], harness := (true, "5deadd820ffd7f2e923b39dd31bbf8d8b7837edfb9bddf8be86ae5a8db590af9"), looks := true }, kinds := [], alts := [], laidByText := true, laidKinds := [.sentinel, .sentinel, .sentinel, .sentinel, .sentinel, .sentinel, .sentinel, .sentinel, .sentinel, .sentinel, .sentinel, .sentinel, .sentinel, .data], laidTests := true, laidLooks := .later }
def MetaBackUptoCardSaid : Prop := Claim7.holds Tryd.pinned (.plain (OpenSpec.upto metaBackSpec)) metaBackUptoCard

/-- THE SECOND FORM's CARD OF 'copselaw5.MetaBurst'. -/
def metaBurstUptoCard : Claim7 := { stood := { row := metaBurstUptoRow, standIns := [], harness := (true, "5deadd820ffd7f2e923b39dd31bbf8d8b7837edfb9bddf8be86ae5a8db590af9"), looks := true }, kinds := [], alts := [], laidByText := true, laidKinds := [.sentinel, .sentinel, .sentinel, .sentinel, .sentinel, .sentinel, .sentinel, .sentinel, .sentinel, .sentinel, .sentinel, .sentinel, .sentinel, .data], laidTests := true, laidLooks := .later }
def MetaBurstUptoCardSaid : Prop := Claim7.holds Tryd.pinned (.plain (OpenSpec.upto metaBurstSpec)) metaBurstUptoCard

/-- THE SECOND FORM's CARD OF 'copselaw5.MetaOnly'. -/
def metaOnlyUptoCard : Claim7 := { stood := { row := metaOnlyUptoRow, standIns := [], harness := (true, "5deadd820ffd7f2e923b39dd31bbf8d8b7837edfb9bddf8be86ae5a8db590af9"), looks := true }, kinds := [], alts := [], laidByText := true, laidKinds := [.sentinel, .sentinel, .sentinel, .sentinel, .sentinel, .sentinel, .sentinel, .sentinel, .sentinel, .sentinel, .sentinel, .sentinel, .sentinel, .data], laidTests := true, laidLooks := .later }
def MetaOnlyUptoCardSaid : Prop := Claim7.holds Tryd.pinned (.plain (OpenSpec.upto metaOnlySpec)) metaOnlyUptoCard

/-- THE SECOND FORM's CARD OF 'copselaw5.MetaEncodes'. -/
def metaEncodesUptoCard : Claim7 := { stood := { row := metaEncodesUptoRow, standIns := [], harness := (true, "5deadd820ffd7f2e923b39dd31bbf8d8b7837edfb9bddf8be86ae5a8db590af9"), looks := true }, kinds := [], alts := [], laidByText := true, laidKinds := [.sentinel, .sentinel, .sentinel, .sentinel, .sentinel, .sentinel, .sentinel, .sentinel, .sentinel, .sentinel, .sentinel, .sentinel, .sentinel, .data], laidTests := true, laidLooks := .later }
def MetaEncodesUptoCardSaid : Prop := Claim7.holds Tryd.pinned (.plain (OpenSpec.upto metaEncodesSpec)) metaEncodesUptoCard

/-- THE SECOND FORM's CARD OF 'copselaw5.MetaMemory'. -/
def metaMemoryUptoCard : Claim7 := { stood := { row := metaMemoryUptoRow, standIns := [], harness := (true, "5deadd820ffd7f2e923b39dd31bbf8d8b7837edfb9bddf8be86ae5a8db590af9"), looks := true }, kinds := [], alts := [], laidByText := true, laidKinds := [.sentinel, .sentinel, .sentinel, .sentinel, .sentinel, .sentinel, .sentinel, .sentinel, .sentinel, .sentinel, .sentinel, .sentinel, .sentinel, .data], laidTests := true, laidLooks := .later }
def MetaMemoryUptoCardSaid : Prop := Claim7.holds Tryd.pinned (.plain (OpenSpec.upto metaMemorySpec)) metaMemoryUptoCard
end Rows
end Go.Proofs.YtlopimdnjookeaaDoor
