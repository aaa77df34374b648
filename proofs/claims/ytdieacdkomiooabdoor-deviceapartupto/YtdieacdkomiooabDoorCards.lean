/-
  DERIVED. GIVEN WITH THE SEED: THE CARDS: each row of YtdieacdkomiooabDoorRows.lean that lists a variable, with what it lists TIED to the program's text (the seventh form; the later family's looks); each row that meets fmt, with fmt's text TOLD by the authors' own Lean function (tested against real Go, not proved from fmt's source: count such statements apart). THE CARD IS WHAT COUNTS. Prove the row's statement (the work); the ties are given (YtdieacdkomiooabDoorTie.lean); close each card by the builder's one call (the guide's Derived/Test/ToyasCard.lean, 'card_holds'). Laid BY PROGRAM, IN A SANDBOX (cutbox-door.mjs). By AI agents, Wed Nov 11 2026. No macro, syntax, notation, axiom, sorry.
-/
import Derived.Test.YtdieacdkomiooabDoorRows
import GoSem.ClaimSeven
namespace Go.Proofs.YtdieacdkomiooabDoor
namespace Rows

/-- THE TIED CARD OF 'copselaw3.DeviceBlind'. -/
def deviceBlindCard : Claim7 := { stood := { row := deviceBlindRow, standIns := [], harness := (true, "d20d6d4d0a5dad29c57d42b8a1f34628879465fb7aeba08d5a1c2f21ea5c383e"), looks := true }, kinds := [], alts := [], laidByText := true, laidKinds := [.sentinel, .sentinel, .sentinel, .sentinel, .sentinel, .sentinel, .sentinel, .sentinel, .sentinel, .sentinel, .sentinel, .sentinel, .sentinel], laidTests := true, laidLooks := .later }
def DeviceBlindCardSaid : Prop := Claim7.holds Tryd.pinned (.plain (OpenSpec.ofChange deviceBlindSpec)) deviceBlindCard

/-- THE TIED CARD OF 'copselaw3.DevicePlays'. -/
def devicePlaysCard : Claim7 := { stood := { row := devicePlaysRow, standIns := [], harness := (true, "d20d6d4d0a5dad29c57d42b8a1f34628879465fb7aeba08d5a1c2f21ea5c383e"), looks := true }, kinds := [], alts := [], laidByText := true, laidKinds := [.sentinel, .sentinel, .sentinel, .sentinel, .sentinel, .sentinel, .sentinel, .sentinel, .sentinel, .sentinel, .sentinel, .sentinel, .sentinel], laidTests := true, laidLooks := .later }
def DevicePlaysCardSaid : Prop := Claim7.holds Tryd.pinned (.plain (OpenSpec.ofChange devicePlaysSpec)) devicePlaysCard

/-- THE TIED CARD OF 'copselaw3.DeviceApart'. -/
def deviceApartCard : Claim7 := { stood := { row := deviceApartRow, standIns := [], harness := (true, "d20d6d4d0a5dad29c57d42b8a1f34628879465fb7aeba08d5a1c2f21ea5c383e"), looks := true }, kinds := [], alts := [], laidByText := true, laidKinds := [.sentinel, .sentinel, .sentinel, .sentinel, .sentinel, .sentinel, .sentinel, .sentinel, .sentinel, .sentinel, .sentinel, .sentinel, .sentinel], laidTests := true, laidLooks := .later }
def DeviceApartCardSaid : Prop := Claim7.holds Tryd.pinned (.plain (OpenSpec.ofChange deviceApartSpec)) deviceApartCard

/-- THE TIED CARD OF 'copselaw2.TupleMemory'. -/
def tupleMemoryCard : Claim7 := { stood := { row := tupleMemoryRow, standIns := [], harness := (true, "d20d6d4d0a5dad29c57d42b8a1f34628879465fb7aeba08d5a1c2f21ea5c383e"), looks := true }, kinds := [], alts := [], laidByText := true, laidKinds := [.sentinel, .sentinel, .sentinel], laidTests := true, laidLooks := .later }
def TupleMemoryCardSaid : Prop := Claim7.holds Tryd.pinned (.plain (OpenSpec.ofChange tupleMemorySpec)) tupleMemoryCard

/-- THE SECOND FORM's CARD OF 'copselaw3.DeviceBlind'. -/
def deviceBlindUptoCard : Claim7 := { stood := { row := deviceBlindUptoRow, standIns := [], harness := (true, "d20d6d4d0a5dad29c57d42b8a1f34628879465fb7aeba08d5a1c2f21ea5c383e"), looks := true }, kinds := [], alts := [], laidByText := true, laidKinds := [.sentinel, .sentinel, .sentinel, .sentinel, .sentinel, .sentinel, .sentinel, .sentinel, .sentinel, .sentinel, .sentinel, .sentinel, .sentinel], laidTests := true, laidLooks := .later }
def DeviceBlindUptoCardSaid : Prop := Claim7.holds Tryd.pinned (.plain (OpenSpec.upto deviceBlindSpec)) deviceBlindUptoCard

/-- THE SECOND FORM's CARD OF 'copselaw3.DevicePlays'. -/
def devicePlaysUptoCard : Claim7 := { stood := { row := devicePlaysUptoRow, standIns := [], harness := (true, "d20d6d4d0a5dad29c57d42b8a1f34628879465fb7aeba08d5a1c2f21ea5c383e"), looks := true }, kinds := [], alts := [], laidByText := true, laidKinds := [.sentinel, .sentinel, .sentinel, .sentinel, .sentinel, .sentinel, .sentinel, .sentinel, .sentinel, .sentinel, .sentinel, .sentinel, .sentinel], laidTests := true, laidLooks := .later }
def DevicePlaysUptoCardSaid : Prop := Claim7.holds Tryd.pinned (.plain (OpenSpec.upto devicePlaysSpec)) devicePlaysUptoCard

/-- THE SECOND FORM's CARD OF 'copselaw3.DeviceApart'. -/
def deviceApartUptoCard : Claim7 := { stood := { row := deviceApartUptoRow, standIns := [], harness := (true, "d20d6d4d0a5dad29c57d42b8a1f34628879465fb7aeba08d5a1c2f21ea5c383e"), looks := true }, kinds := [], alts := [], laidByText := true, laidKinds := [.sentinel, .sentinel, .sentinel, .sentinel, .sentinel, .sentinel, .sentinel, .sentinel, .sentinel, .sentinel, .sentinel, .sentinel, .sentinel], laidTests := true, laidLooks := .later }
def DeviceApartUptoCardSaid : Prop := Claim7.holds Tryd.pinned (.plain (OpenSpec.upto deviceApartSpec)) deviceApartUptoCard

/-- THE SECOND FORM's CARD OF 'copselaw2.TupleMemory'. -/
def tupleMemoryUptoCard : Claim7 := { stood := { row := tupleMemoryUptoRow, standIns := [], harness := (true, "d20d6d4d0a5dad29c57d42b8a1f34628879465fb7aeba08d5a1c2f21ea5c383e"), looks := true }, kinds := [], alts := [], laidByText := true, laidKinds := [.sentinel, .sentinel, .sentinel], laidTests := true, laidLooks := .later }
def TupleMemoryUptoCardSaid : Prop := Claim7.holds Tryd.pinned (.plain (OpenSpec.upto tupleMemorySpec)) tupleMemoryUptoCard
end Rows
end Go.Proofs.YtdieacdkomiooabDoor
