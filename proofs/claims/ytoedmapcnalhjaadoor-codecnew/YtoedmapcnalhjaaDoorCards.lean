/-
  DERIVED. GIVEN WITH THE SEED: THE CARDS: each row of YtoedmapcnalhjaaDoorRows.lean that lists a variable, with what it lists TIED to the program's text (the seventh form; the later family's looks); each row that meets fmt, with fmt's text TOLD by the authors' own Lean function (tested against real Go, not proved from fmt's source: count such statements apart). THE CARD IS WHAT COUNTS. Prove the row's statement (the work); the ties are given (YtoedmapcnalhjaaDoorTie.lean); close each card by the builder's one call (the guide's Derived/Test/ToyasCard.lean, 'card_holds'). Laid BY PROGRAM, IN A SANDBOX (cutbox-door.mjs). By AI agents, Wed Nov 11 2026. No macro, syntax, notation, axiom, sorry.
-/
import Derived.Test.YtoedmapcnalhjaaDoorRows
import GoSem.ClaimSeven
namespace Go.Proofs.YtoedmapcnalhjaaDoor
namespace Rows

/-- THE TIED CARD OF 'copselaw1.CodecParts'. -/
def codecPartsCard : Claim7 := { stood := { row := codecPartsRow, standIns := [], harness := (true, "4489a6c885b7e456c4de799b8d9951fc08d6e9561327053633fb99a7bec20bb9"), looks := true }, kinds := [], alts := [], laidByText := true, laidKinds := [.data], laidTests := true, laidLooks := .later }
def CodecPartsCardSaid : Prop := Claim7.holds Tryd.pinned (.plain (OpenSpec.ofChange codecPartsSpec)) codecPartsCard

/-- THE TIED CARD OF 'copselaw1.CodecLike'. -/
def codecLikeCard : Claim7 := { stood := { row := codecLikeRow, standIns := [], harness := (true, "4489a6c885b7e456c4de799b8d9951fc08d6e9561327053633fb99a7bec20bb9"), looks := true }, kinds := [], alts := [], laidByText := true, laidKinds := [.data], laidTests := true, laidLooks := .later }
def CodecLikeCardSaid : Prop := Claim7.holds Tryd.pinned (.plain (OpenSpec.ofChange codecLikeSpec)) codecLikeCard

/-- THE TIED CARD OF 'copselaw1.CodecBack'. -/
def codecBackCard : Claim7 := { stood := { row := codecBackRow, standIns := [], harness := (true, "4489a6c885b7e456c4de799b8d9951fc08d6e9561327053633fb99a7bec20bb9"), looks := true }, kinds := [], alts := [], laidByText := true, laidKinds := [.sentinel], laidTests := true, laidLooks := .later }
def CodecBackCardSaid : Prop := Claim7.holds Tryd.pinned (.plain (OpenSpec.ofChange codecBackSpec)) codecBackCard

/-- THE TIED CARD OF 'copselaw1.CodecPuts'. -/
def codecPutsCard : Claim7 := { stood := { row := codecPutsRow, standIns := [], harness := (true, "4489a6c885b7e456c4de799b8d9951fc08d6e9561327053633fb99a7bec20bb9"), looks := true }, kinds := [], alts := [], laidByText := true, laidKinds := [.sentinel, .sentinel, .sentinel, .sentinel, .sentinel, .sentinel, .sentinel, .sentinel, .sentinel, .sentinel, .sentinel, .sentinel, .sentinel], laidTests := true, laidLooks := .later }
def CodecPutsCardSaid : Prop := Claim7.holds Tryd.pinned (.plain (OpenSpec.ofChange codecPutsSpec)) codecPutsCard

/-- THE TIED CARD OF 'copselaw1.CodecNew'. -/
def codecNewCard : Claim7 := { stood := { row := codecNewRow, standIns := [], harness := (true, "4489a6c885b7e456c4de799b8d9951fc08d6e9561327053633fb99a7bec20bb9"), looks := true }, kinds := [], alts := [], laidByText := true, laidKinds := [.sentinel, .sentinel, .sentinel, .sentinel, .sentinel, .sentinel, .sentinel, .sentinel, .sentinel, .sentinel, .sentinel, .sentinel, .sentinel], laidTests := true, laidLooks := .later }
def CodecNewCardSaid : Prop := Claim7.holds Tryd.pinned (.plain (OpenSpec.ofChange codecNewSpec)) codecNewCard

/-- THE TIED CARD OF 'copselaw1.CodecBursts'. -/
def codecBurstsCard : Claim7 := { stood := { row := codecBurstsRow, standIns := [], harness := (true, "4489a6c885b7e456c4de799b8d9951fc08d6e9561327053633fb99a7bec20bb9"), looks := true }, kinds := [], alts := [], laidByText := true, laidKinds := [.data], laidTests := true, laidLooks := .later }
def CodecBurstsCardSaid : Prop := Claim7.holds Tryd.pinned (.plain (OpenSpec.ofChange codecBurstsSpec)) codecBurstsCard

/-- THE SECOND FORM's CARD OF 'copselaw1.CodecParts'. -/
def codecPartsUptoCard : Claim7 := { stood := { row := codecPartsUptoRow, standIns := [], harness := (true, "4489a6c885b7e456c4de799b8d9951fc08d6e9561327053633fb99a7bec20bb9"), looks := true }, kinds := [], alts := [], laidByText := true, laidKinds := [.data], laidTests := true, laidLooks := .later }
def CodecPartsUptoCardSaid : Prop := Claim7.holds Tryd.pinned (.plain (OpenSpec.upto codecPartsSpec)) codecPartsUptoCard

/-- THE SECOND FORM's CARD OF 'copselaw1.CodecLike'. -/
def codecLikeUptoCard : Claim7 := { stood := { row := codecLikeUptoRow, standIns := [], harness := (true, "4489a6c885b7e456c4de799b8d9951fc08d6e9561327053633fb99a7bec20bb9"), looks := true }, kinds := [], alts := [], laidByText := true, laidKinds := [.data], laidTests := true, laidLooks := .later }
def CodecLikeUptoCardSaid : Prop := Claim7.holds Tryd.pinned (.plain (OpenSpec.upto codecLikeSpec)) codecLikeUptoCard

/-- THE SECOND FORM's CARD OF 'copselaw1.CodecBack'. -/
def codecBackUptoCard : Claim7 := { stood := { row := codecBackUptoRow, standIns := [], harness := (true, "4489a6c885b7e456c4de799b8d9951fc08d6e9561327053633fb99a7bec20bb9"), looks := true }, kinds := [], alts := [], laidByText := true, laidKinds := [.sentinel], laidTests := true, laidLooks := .later }
def CodecBackUptoCardSaid : Prop := Claim7.holds Tryd.pinned (.plain (OpenSpec.upto codecBackSpec)) codecBackUptoCard

/-- THE SECOND FORM's CARD OF 'copselaw1.CodecPuts'. -/
def codecPutsUptoCard : Claim7 := { stood := { row := codecPutsUptoRow, standIns := [], harness := (true, "4489a6c885b7e456c4de799b8d9951fc08d6e9561327053633fb99a7bec20bb9"), looks := true }, kinds := [], alts := [], laidByText := true, laidKinds := [.sentinel, .sentinel, .sentinel, .sentinel, .sentinel, .sentinel, .sentinel, .sentinel, .sentinel, .sentinel, .sentinel, .sentinel, .sentinel], laidTests := true, laidLooks := .later }
def CodecPutsUptoCardSaid : Prop := Claim7.holds Tryd.pinned (.plain (OpenSpec.upto codecPutsSpec)) codecPutsUptoCard

/-- THE SECOND FORM's CARD OF 'copselaw1.CodecNew'. -/
def codecNewUptoCard : Claim7 := { stood := { row := codecNewUptoRow, standIns := [], harness := (true, "4489a6c885b7e456c4de799b8d9951fc08d6e9561327053633fb99a7bec20bb9"), looks := true }, kinds := [], alts := [], laidByText := true, laidKinds := [.sentinel, .sentinel, .sentinel, .sentinel, .sentinel, .sentinel, .sentinel, .sentinel, .sentinel, .sentinel, .sentinel, .sentinel, .sentinel], laidTests := true, laidLooks := .later }
def CodecNewUptoCardSaid : Prop := Claim7.holds Tryd.pinned (.plain (OpenSpec.upto codecNewSpec)) codecNewUptoCard

/-- THE SECOND FORM's CARD OF 'copselaw1.CodecBursts'. -/
def codecBurstsUptoCard : Claim7 := { stood := { row := codecBurstsUptoRow, standIns := [], harness := (true, "4489a6c885b7e456c4de799b8d9951fc08d6e9561327053633fb99a7bec20bb9"), looks := true }, kinds := [], alts := [], laidByText := true, laidKinds := [.data], laidTests := true, laidLooks := .later }
def CodecBurstsUptoCardSaid : Prop := Claim7.holds Tryd.pinned (.plain (OpenSpec.upto codecBurstsSpec)) codecBurstsUptoCard
end Rows
end Go.Proofs.YtoedmapcnalhjaaDoor
