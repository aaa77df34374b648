/-
  DERIVED. GIVEN WITH THE SEED: THE CARDS: each row of YtgljkgkophaefaaDoorRows.lean that lists a variable, with what it lists TIED to the program's text (the seventh form; the later family's looks); each row that meets fmt, with fmt's text TOLD by the authors' own Lean function (tested against real Go, not proved from fmt's source: count such statements apart). THE CARD IS WHAT COUNTS. Prove the row's statement (the work); the ties are given (YtgljkgkophaefaaDoorTie.lean); close each card by the builder's one call (the guide's Derived/Test/ToyasCard.lean, 'card_holds'). Laid BY PROGRAM, IN A SANDBOX (cutbox-door.mjs). By AI agents, Wed Nov 11 2026. No macro, syntax, notation, axiom, sorry.
-/
import Derived.Test.YtgljkgkophaefaaDoorRows
import GoSem.ClaimSeven
namespace Go.Proofs.YtgljkgkophaefaaDoor
namespace Rows

/-- THE TIED CARD OF 'copselaw2.TupleUnpacks'. -/
def tupleUnpacksCard : Claim7 := { stood := { row := tupleUnpacksRow, standIns := [], harness := (true, "8d0a5feaeef8fc7e4f2878674765fb568e2793fa87cf123ea76755624be3ca33"), looks := true }, kinds := [], alts := [], laidByText := true, laidKinds := [.sentinel, .sentinel, .sentinel, .sentinel, .sentinel, .sentinel, .sentinel, .sentinel, .sentinel, .sentinel, .sentinel, .sentinel, .sentinel], laidTests := true, laidLooks := .later }
def TupleUnpacksCardSaid : Prop := Claim7.holds Tryd.pinned (.plain (OpenSpec.ofChange tupleUnpacksSpec)) tupleUnpacksCard

/-- THE TIED CARD OF 'copselaw2.TupleCompares'. -/
def tupleComparesCard : Claim7 := { stood := { row := tupleComparesRow, standIns := [], harness := (true, "8d0a5feaeef8fc7e4f2878674765fb568e2793fa87cf123ea76755624be3ca33"), looks := true }, kinds := [], alts := [], laidByText := true, laidKinds := [.sentinel, .sentinel, .sentinel, .sentinel, .sentinel, .sentinel, .sentinel, .sentinel, .sentinel, .sentinel, .sentinel, .sentinel, .sentinel], laidTests := true, laidLooks := .later }
def TupleComparesCardSaid : Prop := Claim7.holds Tryd.pinned (.plain (OpenSpec.ofChange tupleComparesSpec)) tupleComparesCard

/-- THE TIED CARD OF 'copselaw2.TupleOnly'. -/
def tupleOnlyCard : Claim7 := { stood := { row := tupleOnlyRow, standIns := [], harness := (true, "8d0a5feaeef8fc7e4f2878674765fb568e2793fa87cf123ea76755624be3ca33"), looks := true }, kinds := [], alts := [], laidByText := true, laidKinds := [.sentinel, .sentinel, .sentinel, .sentinel, .sentinel, .sentinel, .sentinel, .sentinel, .sentinel, .sentinel, .sentinel, .sentinel, .sentinel], laidTests := true, laidLooks := .later }
def TupleOnlyCardSaid : Prop := Claim7.holds Tryd.pinned (.plain (OpenSpec.ofChange tupleOnlySpec)) tupleOnlyCard

/-- THE TIED CARD OF 'copselaw2.TuplePrefix'. -/
def tuplePrefixCard : Claim7 := { stood := { row := tuplePrefixRow, standIns := [], harness := (true, "8d0a5feaeef8fc7e4f2878674765fb568e2793fa87cf123ea76755624be3ca33"), looks := true }, kinds := [], alts := [], laidByText := true, laidKinds := [.sentinel, .sentinel], laidTests := true, laidLooks := .later }
def TuplePrefixCardSaid : Prop := Claim7.holds Tryd.pinned (.plain (OpenSpec.ofChange tuplePrefixSpec)) tuplePrefixCard

/-- THE SECOND FORM's CARD OF 'copselaw2.TupleUnpacks'. -/
def tupleUnpacksUptoCard : Claim7 := { stood := { row := tupleUnpacksUptoRow, standIns := [], harness := (true, "8d0a5feaeef8fc7e4f2878674765fb568e2793fa87cf123ea76755624be3ca33"), looks := true }, kinds := [], alts := [], laidByText := true, laidKinds := [.sentinel, .sentinel, .sentinel, .sentinel, .sentinel, .sentinel, .sentinel, .sentinel, .sentinel, .sentinel, .sentinel, .sentinel, .sentinel], laidTests := true, laidLooks := .later }
def TupleUnpacksUptoCardSaid : Prop := Claim7.holds Tryd.pinned (.plain (OpenSpec.upto tupleUnpacksSpec)) tupleUnpacksUptoCard

/-- THE SECOND FORM's CARD OF 'copselaw2.TupleCompares'. -/
def tupleComparesUptoCard : Claim7 := { stood := { row := tupleComparesUptoRow, standIns := [], harness := (true, "8d0a5feaeef8fc7e4f2878674765fb568e2793fa87cf123ea76755624be3ca33"), looks := true }, kinds := [], alts := [], laidByText := true, laidKinds := [.sentinel, .sentinel, .sentinel, .sentinel, .sentinel, .sentinel, .sentinel, .sentinel, .sentinel, .sentinel, .sentinel, .sentinel, .sentinel], laidTests := true, laidLooks := .later }
def TupleComparesUptoCardSaid : Prop := Claim7.holds Tryd.pinned (.plain (OpenSpec.upto tupleComparesSpec)) tupleComparesUptoCard

/-- THE SECOND FORM's CARD OF 'copselaw2.TupleOnly'. -/
def tupleOnlyUptoCard : Claim7 := { stood := { row := tupleOnlyUptoRow, standIns := [], harness := (true, "8d0a5feaeef8fc7e4f2878674765fb568e2793fa87cf123ea76755624be3ca33"), looks := true }, kinds := [], alts := [], laidByText := true, laidKinds := [.sentinel, .sentinel, .sentinel, .sentinel, .sentinel, .sentinel, .sentinel, .sentinel, .sentinel, .sentinel, .sentinel, .sentinel, .sentinel], laidTests := true, laidLooks := .later }
def TupleOnlyUptoCardSaid : Prop := Claim7.holds Tryd.pinned (.plain (OpenSpec.upto tupleOnlySpec)) tupleOnlyUptoCard

/-- THE SECOND FORM's CARD OF 'copselaw2.TuplePrefix'. -/
def tuplePrefixUptoCard : Claim7 := { stood := { row := tuplePrefixUptoRow, standIns := [], harness := (true, "8d0a5feaeef8fc7e4f2878674765fb568e2793fa87cf123ea76755624be3ca33"), looks := true }, kinds := [], alts := [], laidByText := true, laidKinds := [.sentinel, .sentinel], laidTests := true, laidLooks := .later }
def TuplePrefixUptoCardSaid : Prop := Claim7.holds Tryd.pinned (.plain (OpenSpec.upto tuplePrefixSpec)) tuplePrefixUptoCard
end Rows
end Go.Proofs.YtgljkgkophaefaaDoor
