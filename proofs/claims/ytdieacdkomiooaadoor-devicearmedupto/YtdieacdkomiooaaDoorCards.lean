/-
  DERIVED. GIVEN WITH THE SEED: THE CARDS: each row of YtdieacdkomiooaaDoorRows.lean that lists a variable, with what it lists TIED to the program's text (the seventh form; the later family's looks); each row that meets fmt, with fmt's text TOLD by the authors' own Lean function (tested against real Go, not proved from fmt's source: count such statements apart). THE CARD IS WHAT COUNTS. Prove the row's statement (the work); the ties are given (YtdieacdkomiooaaDoorTie.lean); close each card by the builder's one call (the guide's Derived/Test/ToyasCard.lean, 'card_holds'). Laid BY PROGRAM, IN A SANDBOX (cutbox-door.mjs). By AI agents, Wed Nov 11 2026. No macro, syntax, notation, axiom, sorry.
-/
import Derived.Test.YtdieacdkomiooaaDoorRows
import GoSem.ClaimSeven
namespace Go.Proofs.YtdieacdkomiooaaDoor
namespace Rows

/-- THE TIED CARD OF 'copselaw3.DeviceOpens'. -/
def deviceOpensCard : Claim7 := { stood := { row := deviceOpensRow, standIns := [], harness := (true, "1a5f89ab25aff02a7bf2c5aa1e35bc28b32bb865243dc387b4d651c790dc0cd4"), looks := true }, kinds := [], alts := [], laidByText := true, laidKinds := [.sentinel, .sentinel, .sentinel, .sentinel, .sentinel, .sentinel, .sentinel, .sentinel, .sentinel, .sentinel, .sentinel, .sentinel, .sentinel], laidTests := true, laidLooks := .later }
def DeviceOpensCardSaid : Prop := Claim7.holds Tryd.pinned (.plain (OpenSpec.ofChange deviceOpensSpec)) deviceOpensCard

/-- THE TIED CARD OF 'copselaw3.DeviceSynced'. -/
def deviceSyncedCard : Claim7 := { stood := { row := deviceSyncedRow, standIns := [], harness := (true, "1a5f89ab25aff02a7bf2c5aa1e35bc28b32bb865243dc387b4d651c790dc0cd4"), looks := true }, kinds := [], alts := [], laidByText := true, laidKinds := [.sentinel, .sentinel, .sentinel, .sentinel, .sentinel, .sentinel, .sentinel, .sentinel, .sentinel, .sentinel, .sentinel, .sentinel, .sentinel], laidTests := true, laidLooks := .later }
def DeviceSyncedCardSaid : Prop := Claim7.holds Tryd.pinned (.plain (OpenSpec.ofChange deviceSyncedSpec)) deviceSyncedCard

/-- THE TIED CARD OF 'copselaw3.DeviceChoice'. -/
def deviceChoiceCard : Claim7 := { stood := { row := deviceChoiceRow, standIns := [], harness := (true, "1a5f89ab25aff02a7bf2c5aa1e35bc28b32bb865243dc387b4d651c790dc0cd4"), looks := true }, kinds := [], alts := [], laidByText := true, laidKinds := [.sentinel, .sentinel, .sentinel, .sentinel, .sentinel, .sentinel, .sentinel, .sentinel, .sentinel, .sentinel, .sentinel, .sentinel, .sentinel], laidTests := true, laidLooks := .later }
def DeviceChoiceCardSaid : Prop := Claim7.holds Tryd.pinned (.plain (OpenSpec.ofChange deviceChoiceSpec)) deviceChoiceCard

/-- THE TIED CARD OF 'copselaw3.DeviceOrder'. -/
def deviceOrderCard : Claim7 := { stood := { row := deviceOrderRow, standIns := [], harness := (true, "1a5f89ab25aff02a7bf2c5aa1e35bc28b32bb865243dc387b4d651c790dc0cd4"), looks := true }, kinds := [], alts := [], laidByText := true, laidKinds := [.sentinel, .sentinel, .sentinel, .sentinel, .sentinel, .sentinel, .sentinel, .sentinel, .sentinel, .sentinel, .sentinel, .sentinel, .sentinel], laidTests := true, laidLooks := .later }
def DeviceOrderCardSaid : Prop := Claim7.holds Tryd.pinned (.plain (OpenSpec.ofChange deviceOrderSpec)) deviceOrderCard

/-- THE TIED CARD OF 'copselaw3.DeviceArmed'. -/
def deviceArmedCard : Claim7 := { stood := { row := deviceArmedRow, standIns := [], harness := (true, "1a5f89ab25aff02a7bf2c5aa1e35bc28b32bb865243dc387b4d651c790dc0cd4"), looks := true }, kinds := [], alts := [], laidByText := true, laidKinds := [.sentinel, .sentinel, .sentinel, .sentinel, .sentinel, .sentinel, .sentinel, .sentinel, .sentinel, .sentinel, .sentinel, .sentinel, .sentinel], laidTests := true, laidLooks := .later }
def DeviceArmedCardSaid : Prop := Claim7.holds Tryd.pinned (.plain (OpenSpec.ofChange deviceArmedSpec)) deviceArmedCard

/-- THE TIED CARD OF 'copselaw3.DeviceLike'. -/
def deviceLikeCard : Claim7 := { stood := { row := deviceLikeRow, standIns := [], harness := (true, "1a5f89ab25aff02a7bf2c5aa1e35bc28b32bb865243dc387b4d651c790dc0cd4"), looks := true }, kinds := [], alts := [], laidByText := true, laidKinds := [.sentinel, .sentinel, .sentinel, .sentinel, .sentinel, .sentinel, .sentinel, .sentinel, .sentinel, .sentinel, .sentinel, .sentinel, .sentinel], laidTests := true, laidLooks := .later }
def DeviceLikeCardSaid : Prop := Claim7.holds Tryd.pinned (.plain (OpenSpec.ofChange deviceLikeSpec)) deviceLikeCard

/-- THE SECOND FORM's CARD OF 'copselaw3.DeviceOpens'. -/
def deviceOpensUptoCard : Claim7 := { stood := { row := deviceOpensUptoRow, standIns := [], harness := (true, "1a5f89ab25aff02a7bf2c5aa1e35bc28b32bb865243dc387b4d651c790dc0cd4"), looks := true }, kinds := [], alts := [], laidByText := true, laidKinds := [.sentinel, .sentinel, .sentinel, .sentinel, .sentinel, .sentinel, .sentinel, .sentinel, .sentinel, .sentinel, .sentinel, .sentinel, .sentinel], laidTests := true, laidLooks := .later }
def DeviceOpensUptoCardSaid : Prop := Claim7.holds Tryd.pinned (.plain (OpenSpec.upto deviceOpensSpec)) deviceOpensUptoCard

/-- THE SECOND FORM's CARD OF 'copselaw3.DeviceSynced'. -/
def deviceSyncedUptoCard : Claim7 := { stood := { row := deviceSyncedUptoRow, standIns := [], harness := (true, "1a5f89ab25aff02a7bf2c5aa1e35bc28b32bb865243dc387b4d651c790dc0cd4"), looks := true }, kinds := [], alts := [], laidByText := true, laidKinds := [.sentinel, .sentinel, .sentinel, .sentinel, .sentinel, .sentinel, .sentinel, .sentinel, .sentinel, .sentinel, .sentinel, .sentinel, .sentinel], laidTests := true, laidLooks := .later }
def DeviceSyncedUptoCardSaid : Prop := Claim7.holds Tryd.pinned (.plain (OpenSpec.upto deviceSyncedSpec)) deviceSyncedUptoCard

/-- THE SECOND FORM's CARD OF 'copselaw3.DeviceChoice'. -/
def deviceChoiceUptoCard : Claim7 := { stood := { row := deviceChoiceUptoRow, standIns := [], harness := (true, "1a5f89ab25aff02a7bf2c5aa1e35bc28b32bb865243dc387b4d651c790dc0cd4"), looks := true }, kinds := [], alts := [], laidByText := true, laidKinds := [.sentinel, .sentinel, .sentinel, .sentinel, .sentinel, .sentinel, .sentinel, .sentinel, .sentinel, .sentinel, .sentinel, .sentinel, .sentinel], laidTests := true, laidLooks := .later }
def DeviceChoiceUptoCardSaid : Prop := Claim7.holds Tryd.pinned (.plain (OpenSpec.upto deviceChoiceSpec)) deviceChoiceUptoCard

/-- THE SECOND FORM's CARD OF 'copselaw3.DeviceOrder'. -/
def deviceOrderUptoCard : Claim7 := { stood := { row := deviceOrderUptoRow, standIns := [], harness := (true, "1a5f89ab25aff02a7bf2c5aa1e35bc28b32bb865243dc387b4d651c790dc0cd4"), looks := true }, kinds := [], alts := [], laidByText := true, laidKinds := [.sentinel, .sentinel, .sentinel, .sentinel, .sentinel, .sentinel, .sentinel, .sentinel, .sentinel, .sentinel, .sentinel, .sentinel, .sentinel], laidTests := true, laidLooks := .later }
def DeviceOrderUptoCardSaid : Prop := Claim7.holds Tryd.pinned (.plain (OpenSpec.upto deviceOrderSpec)) deviceOrderUptoCard

/-- THE SECOND FORM's CARD OF 'copselaw3.DeviceArmed'. -/
def deviceArmedUptoCard : Claim7 := { stood := { row := deviceArmedUptoRow, standIns := [], harness := (true, "1a5f89ab25aff02a7bf2c5aa1e35bc28b32bb865243dc387b4d651c790dc0cd4"), looks := true }, kinds := [], alts := [], laidByText := true, laidKinds := [.sentinel, .sentinel, .sentinel, .sentinel, .sentinel, .sentinel, .sentinel, .sentinel, .sentinel, .sentinel, .sentinel, .sentinel, .sentinel], laidTests := true, laidLooks := .later }
def DeviceArmedUptoCardSaid : Prop := Claim7.holds Tryd.pinned (.plain (OpenSpec.upto deviceArmedSpec)) deviceArmedUptoCard

/-- THE SECOND FORM's CARD OF 'copselaw3.DeviceLike'. -/
def deviceLikeUptoCard : Claim7 := { stood := { row := deviceLikeUptoRow, standIns := [], harness := (true, "1a5f89ab25aff02a7bf2c5aa1e35bc28b32bb865243dc387b4d651c790dc0cd4"), looks := true }, kinds := [], alts := [], laidByText := true, laidKinds := [.sentinel, .sentinel, .sentinel, .sentinel, .sentinel, .sentinel, .sentinel, .sentinel, .sentinel, .sentinel, .sentinel, .sentinel, .sentinel], laidTests := true, laidLooks := .later }
def DeviceLikeUptoCardSaid : Prop := Claim7.holds Tryd.pinned (.plain (OpenSpec.upto deviceLikeSpec)) deviceLikeUptoCard
end Rows
end Go.Proofs.YtdieacdkomiooaaDoor
