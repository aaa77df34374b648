/-
  DERIVED. GIVEN WITH THE SEED: THE CARDS: each row of YtdghlblgmihbpaaDoorRows.lean that lists a variable, with what it lists TIED to the program's text (the seventh form; the later family's looks); each row that meets fmt, with fmt's text TOLD by the authors' own Lean function (tested against real Go, not proved from fmt's source: count such statements apart). THE CARD IS WHAT COUNTS. Prove the row's statement (the work); the ties are given (YtdghlblgmihbpaaDoorTie.lean); close each card by the builder's one call (the guide's Derived/Test/ToyasCard.lean, 'card_holds'). Laid BY PROGRAM, IN A SANDBOX (cutbox-door.mjs). By AI agents, Wed Nov 11 2026. No macro, syntax, notation, axiom, sorry.
-/
import Derived.Test.YtdghlblgmihbpaaDoorRows
import GoSem.ClaimSeven
namespace Go.Proofs.YtdghlblgmihbpaaDoor
namespace Rows

/-- THE TIED CARD OF 'copselaw9.FreeSame'. -/
def freeSameCard : Claim7 := { stood := { row := freeSameRow, standIns := [], harness := (true, "7259f5e9dc895941fa9d02e2f81bca830a48616dcb2fb376a3f786b357e61f18"), looks := true }, kinds := [], alts := [], laidByText := true, laidKinds := [.data, .sentinel, .sentinel, .sentinel, .sentinel, .sentinel, .sentinel, .sentinel, .sentinel, .sentinel, .sentinel, .sentinel, .sentinel, .sentinel], laidTests := true, laidLooks := .later }
def FreeSameCardSaid : Prop := Claim7.holds Tryd.pinned (.plain (OpenSpec.ofChange freeSameSpec)) freeSameCard

/-- THE TIED CARD OF 'copselaw9.FreeCopies'. -/
def freeCopiesCard : Claim7 := { stood := { row := freeCopiesRow, standIns := [], harness := (true, "7259f5e9dc895941fa9d02e2f81bca830a48616dcb2fb376a3f786b357e61f18"), looks := true }, kinds := [], alts := [], laidByText := true, laidKinds := [.data, .sentinel, .sentinel, .sentinel, .sentinel, .sentinel, .sentinel, .sentinel, .sentinel, .sentinel, .sentinel, .sentinel, .sentinel, .sentinel], laidTests := true, laidLooks := .later }
def FreeCopiesCardSaid : Prop := Claim7.holds Tryd.pinned (.plain (OpenSpec.ofChange freeCopiesSpec)) freeCopiesCard

/-- THE TIED CARD OF 'copselaw9.FreeGives'. -/
def freeGivesCard : Claim7 := { stood := { row := freeGivesRow, standIns := [], harness := (true, "7259f5e9dc895941fa9d02e2f81bca830a48616dcb2fb376a3f786b357e61f18"), looks := true }, kinds := [], alts := [], laidByText := true, laidKinds := [.data, .sentinel, .sentinel, .sentinel, .sentinel, .sentinel, .sentinel, .sentinel, .sentinel, .sentinel, .sentinel, .sentinel, .sentinel, .sentinel], laidTests := true, laidLooks := .later }
def FreeGivesCardSaid : Prop := Claim7.holds Tryd.pinned (.plain (OpenSpec.ofChange freeGivesSpec)) freeGivesCard

/-- THE TIED CARD OF 'copselaw9.FreeBook'. -/
def freeBookCard : Claim7 := { stood := { row := freeBookRow, standIns := [], harness := (true, "7259f5e9dc895941fa9d02e2f81bca830a48616dcb2fb376a3f786b357e61f18"), looks := true }, kinds := [], alts := [], laidByText := true, laidKinds := [.data, .sentinel, .sentinel, .sentinel, .sentinel, .sentinel, .sentinel, .sentinel, .sentinel, .sentinel, .sentinel, .sentinel, .sentinel, .sentinel], laidTests := true, laidLooks := .later }
def FreeBookCardSaid : Prop := Claim7.holds Tryd.pinned (.plain (OpenSpec.ofChange freeBookSpec)) freeBookCard

/-- THE TIED CARD OF 'copselaw9.FreePlays'. -/
def freePlaysCard : Claim7 := { stood := { row := freePlaysRow, standIns := [], harness := (true, "7259f5e9dc895941fa9d02e2f81bca830a48616dcb2fb376a3f786b357e61f18"), looks := true }, kinds := [], alts := [], laidByText := true, laidKinds := [.data, .sentinel, .sentinel, .sentinel, .sentinel, .sentinel, .sentinel, .sentinel, .sentinel, .sentinel, .sentinel, .sentinel, .sentinel, .sentinel], laidTests := true, laidLooks := .later }
def FreePlaysCardSaid : Prop := Claim7.holds Tryd.pinned (.plain (OpenSpec.ofChange freePlaysSpec)) freePlaysCard

/-- THE SECOND FORM's CARD OF 'copselaw9.FreeSame'. -/
def freeSameUptoCard : Claim7 := { stood := { row := freeSameUptoRow, standIns := [], harness := (true, "7259f5e9dc895941fa9d02e2f81bca830a48616dcb2fb376a3f786b357e61f18"), looks := true }, kinds := [], alts := [], laidByText := true, laidKinds := [.data, .sentinel, .sentinel, .sentinel, .sentinel, .sentinel, .sentinel, .sentinel, .sentinel, .sentinel, .sentinel, .sentinel, .sentinel, .sentinel], laidTests := true, laidLooks := .later }
def FreeSameUptoCardSaid : Prop := Claim7.holds Tryd.pinned (.plain (OpenSpec.upto freeSameSpec)) freeSameUptoCard

/-- THE SECOND FORM's CARD OF 'copselaw9.FreeCopies'. -/
def freeCopiesUptoCard : Claim7 := { stood := { row := freeCopiesUptoRow, standIns := [], harness := (true, "7259f5e9dc895941fa9d02e2f81bca830a48616dcb2fb376a3f786b357e61f18"), looks := true }, kinds := [], alts := [], laidByText := true, laidKinds := [.data, .sentinel, .sentinel, .sentinel, .sentinel, .sentinel, .sentinel, .sentinel, .sentinel, .sentinel, .sentinel, .sentinel, .sentinel, .sentinel], laidTests := true, laidLooks := .later }
def FreeCopiesUptoCardSaid : Prop := Claim7.holds Tryd.pinned (.plain (OpenSpec.upto freeCopiesSpec)) freeCopiesUptoCard

/-- THE SECOND FORM's CARD OF 'copselaw9.FreeGives'. -/
def freeGivesUptoCard : Claim7 := { stood := { row := freeGivesUptoRow, standIns := [], harness := (true, "7259f5e9dc895941fa9d02e2f81bca830a48616dcb2fb376a3f786b357e61f18"), looks := true }, kinds := [], alts := [], laidByText := true, laidKinds := [.data, .sentinel, .sentinel, .sentinel, .sentinel, .sentinel, .sentinel, .sentinel, .sentinel, .sentinel, .sentinel, .sentinel, .sentinel, .sentinel], laidTests := true, laidLooks := .later }
def FreeGivesUptoCardSaid : Prop := Claim7.holds Tryd.pinned (.plain (OpenSpec.upto freeGivesSpec)) freeGivesUptoCard

/-- THE SECOND FORM's CARD OF 'copselaw9.FreeBook'. -/
def freeBookUptoCard : Claim7 := { stood := { row := freeBookUptoRow, standIns := [], harness := (true, "7259f5e9dc895941fa9d02e2f81bca830a48616dcb2fb376a3f786b357e61f18"), looks := true }, kinds := [], alts := [], laidByText := true, laidKinds := [.data, .sentinel, .sentinel, .sentinel, .sentinel, .sentinel, .sentinel, .sentinel, .sentinel, .sentinel, .sentinel, .sentinel, .sentinel, .sentinel], laidTests := true, laidLooks := .later }
def FreeBookUptoCardSaid : Prop := Claim7.holds Tryd.pinned (.plain (OpenSpec.upto freeBookSpec)) freeBookUptoCard

/-- THE SECOND FORM's CARD OF 'copselaw9.FreePlays'. -/
def freePlaysUptoCard : Claim7 := { stood := { row := freePlaysUptoRow, standIns := [], harness := (true, "7259f5e9dc895941fa9d02e2f81bca830a48616dcb2fb376a3f786b357e61f18"), looks := true }, kinds := [], alts := [], laidByText := true, laidKinds := [.data, .sentinel, .sentinel, .sentinel, .sentinel, .sentinel, .sentinel, .sentinel, .sentinel, .sentinel, .sentinel, .sentinel, .sentinel, .sentinel], laidTests := true, laidLooks := .later }
def FreePlaysUptoCardSaid : Prop := Claim7.holds Tryd.pinned (.plain (OpenSpec.upto freePlaysSpec)) freePlaysUptoCard
end Rows
end Go.Proofs.YtdghlblgmihbpaaDoor
