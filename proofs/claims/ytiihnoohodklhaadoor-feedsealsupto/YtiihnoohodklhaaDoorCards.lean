/-
  DERIVED. GIVEN WITH THE SEED: THE CARDS: each row of YtiihnoohodklhaaDoorRows.lean that lists a variable, with what it lists TIED to the program's text (the seventh form; the later family's looks); each row that meets fmt, with fmt's text TOLD by the authors' own Lean function (tested against real Go, not proved from fmt's source: count such statements apart). THE CARD IS WHAT COUNTS. Prove the row's statement (the work); the ties are given (YtiihnoohodklhaaDoorTie.lean); close each card by the builder's one call (the guide's Derived/Test/ToyasCard.lean, 'card_holds'). Laid BY PROGRAM, IN A SANDBOX (cutbox-door.mjs). By AI agents, Wed Nov 11 2026. No macro, syntax, notation, axiom, sorry.
-/
import Derived.Test.YtiihnoohodklhaaDoorRows
import GoSem.ClaimSeven
namespace Go.Proofs.YtiihnoohodklhaaDoor
namespace Rows

/-- THE TIED CARD OF 'copselaw20.FeedSeals'. -/
def feedSealsCard : Claim7 := { stood := { row := feedSealsRow, standIns := [], harness := (true, "7ada848cd1e1587ba9bba39b231243562676f797d3ede523dfef67dee1226ad6"), looks := true }, kinds := [], alts := [], laidByText := true, laidKinds := [.sentinel, .sentinel, .sentinel, .sentinel, .sentinel, .sentinel, .sentinel, .sentinel, .sentinel, .sentinel, .sentinel, .sentinel, .sentinel, .data], laidTests := true, laidLooks := .later }
def FeedSealsCardSaid : Prop := Claim7.holds Tryd.pinned (.plain (OpenSpec.ofChange feedSealsSpec)) feedSealsCard

/-- THE SECOND FORM's CARD OF 'copselaw20.FeedSeals'. -/
def feedSealsUptoCard : Claim7 := { stood := { row := feedSealsUptoRow, standIns := [], harness := (true, "7ada848cd1e1587ba9bba39b231243562676f797d3ede523dfef67dee1226ad6"), looks := true }, kinds := [], alts := [], laidByText := true, laidKinds := [.sentinel, .sentinel, .sentinel, .sentinel, .sentinel, .sentinel, .sentinel, .sentinel, .sentinel, .sentinel, .sentinel, .sentinel, .sentinel, .data], laidTests := true, laidLooks := .later }
def FeedSealsUptoCardSaid : Prop := Claim7.holds Tryd.pinned (.plain (OpenSpec.upto feedSealsSpec)) feedSealsUptoCard
end Rows
end Go.Proofs.YtiihnoohodklhaaDoor
