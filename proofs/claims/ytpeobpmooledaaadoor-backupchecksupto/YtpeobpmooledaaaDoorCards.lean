/-
  DERIVED. GIVEN WITH THE SEED: THE CARDS: each row of YtpeobpmooledaaaDoorRows.lean that lists a variable, with what it lists TIED to the program's text (the seventh form; the later family's looks); each row that meets fmt, with fmt's text TOLD by the authors' own Lean function (tested against real Go, not proved from fmt's source: count such statements apart). THE CARD IS WHAT COUNTS. Prove the row's statement (the work); the ties are given (YtpeobpmooledaaaDoorTie.lean); close each card by the builder's one call (the guide's Derived/Test/ToyasCard.lean, 'card_holds'). Laid BY PROGRAM, IN A SANDBOX (cutbox-door.mjs). By AI agents, Wed Nov 11 2026. No macro, syntax, notation, axiom, sorry.
-/
import Derived.Test.YtpeobpmooledaaaDoorRows
import GoSem.ClaimSeven
namespace Go.Proofs.YtpeobpmooledaaaDoor
namespace Rows

/-- THE TIED CARD OF 'copselaw23.BackupChecks'. -/
def backupChecksCard : Claim7 := { stood := { row := backupChecksRow, standIns := [], harness := (true, "9db998d5ef7796143046d863cc8724c1c29479845af46b00d4022f881b3338ae"), looks := true }, kinds := [], alts := [], laidByText := true, laidKinds := [.sentinel, .sentinel, .sentinel, .sentinel, .sentinel, .sentinel, .sentinel, .sentinel, .sentinel, .sentinel, .sentinel, .sentinel, .sentinel, .data, .data], laidTests := true, laidLooks := .later }
def BackupChecksCardSaid : Prop := Claim7.holds Tryd.pinned (.plain (OpenSpec.ofChange backupChecksSpec)) backupChecksCard

/-- THE SECOND FORM's CARD OF 'copselaw23.BackupChecks'. -/
def backupChecksUptoCard : Claim7 := { stood := { row := backupChecksUptoRow, standIns := [], harness := (true, "9db998d5ef7796143046d863cc8724c1c29479845af46b00d4022f881b3338ae"), looks := true }, kinds := [], alts := [], laidByText := true, laidKinds := [.sentinel, .sentinel, .sentinel, .sentinel, .sentinel, .sentinel, .sentinel, .sentinel, .sentinel, .sentinel, .sentinel, .sentinel, .sentinel, .data, .data], laidTests := true, laidLooks := .later }
def BackupChecksUptoCardSaid : Prop := Claim7.holds Tryd.pinned (.plain (OpenSpec.upto backupChecksSpec)) backupChecksUptoCard
end Rows
end Go.Proofs.YtpeobpmooledaaaDoor
