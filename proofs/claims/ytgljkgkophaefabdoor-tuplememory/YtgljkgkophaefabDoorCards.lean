/-
  DERIVED. GIVEN WITH THE SEED: THE CARDS: each row of YtgljkgkophaefabDoorRows.lean that lists a variable, with what it lists TIED to the program's text (the seventh form; the later family's looks); each row that meets fmt, with fmt's text TOLD by the authors' own Lean function (tested against real Go, not proved from fmt's source: count such statements apart). THE CARD IS WHAT COUNTS. Prove the row's statement (the work); the ties are given (YtgljkgkophaefabDoorTie.lean); close each card by the builder's one call (the guide's Derived/Test/ToyasCard.lean, 'card_holds'). Laid BY PROGRAM, IN A SANDBOX (cutbox-door.mjs). By AI agents, Wed Nov 11 2026. No macro, syntax, notation, axiom, sorry.
-/
import Derived.Test.YtgljkgkophaefabDoorRows
import GoSem.ClaimSeven
namespace Go.Proofs.YtgljkgkophaefabDoor
namespace Rows

/-- THE TIED CARD OF 'copselaw2.TupleBack'. -/
def tupleBackCard : Claim7 := { stood := { row := tupleBackRow, standIns := [], harness := (true, "af2cee3752a3fb76f97c9647cd17bf9e77d39c01b79f47afa524fe46fa721a0c"), looks := true }, kinds := [], alts := [], laidByText := true, laidKinds := [.sentinel, .sentinel, .sentinel], laidTests := true, laidLooks := .later }
def TupleBackCardSaid : Prop := Claim7.holds Tryd.pinned (.plain (OpenSpec.ofChange tupleBackSpec)) tupleBackCard

/-- THE TIED CARD OF 'copselaw2.TuplePacks'. -/
def tuplePacksCard : Claim7 := { stood := { row := tuplePacksRow, standIns := [], harness := (true, "af2cee3752a3fb76f97c9647cd17bf9e77d39c01b79f47afa524fe46fa721a0c"), looks := true }, kinds := [], alts := [], laidByText := true, laidKinds := [.sentinel, .sentinel, .sentinel, .sentinel, .sentinel, .sentinel, .sentinel, .sentinel, .sentinel, .sentinel, .sentinel, .sentinel, .sentinel], laidTests := true, laidLooks := .later }
def TuplePacksCardSaid : Prop := Claim7.holds Tryd.pinned (.plain (OpenSpec.ofChange tuplePacksSpec)) tuplePacksCard

/-- THE TIED CARD OF 'copselaw2.TupleOrder'. -/
def tupleOrderCard : Claim7 := { stood := { row := tupleOrderRow, standIns := [], harness := (true, "af2cee3752a3fb76f97c9647cd17bf9e77d39c01b79f47afa524fe46fa721a0c"), looks := true }, kinds := [], alts := [], laidByText := true, laidKinds := [.sentinel, .sentinel], laidTests := true, laidLooks := .later }
def TupleOrderCardSaid : Prop := Claim7.holds Tryd.pinned (.plain (OpenSpec.ofChange tupleOrderSpec)) tupleOrderCard

/-- THE TIED CARD OF 'copselaw2.TupleMemory'. -/
def tupleMemoryCard : Claim7 := { stood := { row := tupleMemoryRow, standIns := [], harness := (true, "af2cee3752a3fb76f97c9647cd17bf9e77d39c01b79f47afa524fe46fa721a0c"), looks := true }, kinds := [], alts := [], laidByText := true, laidKinds := [.sentinel, .sentinel, .sentinel], laidTests := true, laidLooks := .later }
def TupleMemoryCardSaid : Prop := Claim7.holds Tryd.pinned (.plain (OpenSpec.ofChange tupleMemorySpec)) tupleMemoryCard

/-- THE SECOND FORM's CARD OF 'copselaw2.TupleBack'. -/
def tupleBackUptoCard : Claim7 := { stood := { row := tupleBackUptoRow, standIns := [], harness := (true, "af2cee3752a3fb76f97c9647cd17bf9e77d39c01b79f47afa524fe46fa721a0c"), looks := true }, kinds := [], alts := [], laidByText := true, laidKinds := [.sentinel, .sentinel, .sentinel], laidTests := true, laidLooks := .later }
def TupleBackUptoCardSaid : Prop := Claim7.holds Tryd.pinned (.plain (OpenSpec.upto tupleBackSpec)) tupleBackUptoCard

/-- THE SECOND FORM's CARD OF 'copselaw2.TuplePacks'. -/
def tuplePacksUptoCard : Claim7 := { stood := { row := tuplePacksUptoRow, standIns := [], harness := (true, "af2cee3752a3fb76f97c9647cd17bf9e77d39c01b79f47afa524fe46fa721a0c"), looks := true }, kinds := [], alts := [], laidByText := true, laidKinds := [.sentinel, .sentinel, .sentinel, .sentinel, .sentinel, .sentinel, .sentinel, .sentinel, .sentinel, .sentinel, .sentinel, .sentinel, .sentinel], laidTests := true, laidLooks := .later }
def TuplePacksUptoCardSaid : Prop := Claim7.holds Tryd.pinned (.plain (OpenSpec.upto tuplePacksSpec)) tuplePacksUptoCard

/-- THE SECOND FORM's CARD OF 'copselaw2.TupleOrder'. -/
def tupleOrderUptoCard : Claim7 := { stood := { row := tupleOrderUptoRow, standIns := [], harness := (true, "af2cee3752a3fb76f97c9647cd17bf9e77d39c01b79f47afa524fe46fa721a0c"), looks := true }, kinds := [], alts := [], laidByText := true, laidKinds := [.sentinel, .sentinel], laidTests := true, laidLooks := .later }
def TupleOrderUptoCardSaid : Prop := Claim7.holds Tryd.pinned (.plain (OpenSpec.upto tupleOrderSpec)) tupleOrderUptoCard

/-- THE SECOND FORM's CARD OF 'copselaw2.TupleMemory'. -/
def tupleMemoryUptoCard : Claim7 := { stood := { row := tupleMemoryUptoRow, standIns := [], harness := (true, "af2cee3752a3fb76f97c9647cd17bf9e77d39c01b79f47afa524fe46fa721a0c"), looks := true }, kinds := [], alts := [], laidByText := true, laidKinds := [.sentinel, .sentinel, .sentinel], laidTests := true, laidLooks := .later }
def TupleMemoryUptoCardSaid : Prop := Claim7.holds Tryd.pinned (.plain (OpenSpec.upto tupleMemorySpec)) tupleMemoryUptoCard
end Rows
end Go.Proofs.YtgljkgkophaefabDoor
