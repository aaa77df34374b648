/-
  DERIVED. GIVEN WITH THE SEED: THE CARDS: each row of YtjlhafiaocodkaaDoorRows.lean that lists a variable, with what it lists TIED to the program's text (the seventh form; the later family's looks); each row that meets fmt, with fmt's text TOLD by the authors' own Lean function (tested against real Go, not proved from fmt's source: count such statements apart). THE CARD IS WHAT COUNTS. Prove the row's statement (the work); the ties are given (YtjlhafiaocodkaaDoorTie.lean); close each card by the builder's one call (the guide's Derived/Test/ToyasCard.lean, 'card_holds'). Laid BY PROGRAM, IN A SANDBOX (cutbox-door.mjs). By AI agents, Wed Nov 11 2026. No macro, syntax, notation, axiom, sorry.
-/
import Derived.Test.YtjlhafiaocodkaaDoorRows
import GoSem.ClaimSeven
namespace Go.Proofs.YtjlhafiaocodkaaDoor
namespace Rows

/-- THE TIED CARD OF 'copselaw15.ScriptQuote'. -/
def scriptQuoteCard : Claim7 := { stood := { row := scriptQuoteRow, standIns := [], harness := (true, "89839e0788cce91446ec9b356a64d8f2b4dde36850672099a736f3861b98ce35"), looks := true }, kinds := [], alts := [], laidByText := true, laidKinds := [.data, .data, .data, .data, .sentinel, .sentinel, .sentinel, .pinned], laidTests := true, laidLooks := .later }
def ScriptQuoteCardSaid : Prop := Claim7.holds Tryd.pinned (.plain (OpenSpec.ofChange scriptQuoteSpec)) scriptQuoteCard

/-- THE TIED CARD OF 'copselaw15.ScriptWords'. -/
def scriptWordsCard : Claim7 := { stood := { row := scriptWordsRow, standIns := [], harness := (true, "89839e0788cce91446ec9b356a64d8f2b4dde36850672099a736f3861b98ce35"), looks := true }, kinds := [], alts := [], laidByText := true, laidKinds := [.data, .data, .data, .data, .sentinel, .sentinel, .sentinel, .sentinel, .sentinel, .sentinel, .sentinel, .sentinel, .sentinel, .sentinel, .sentinel, .sentinel, .sentinel, .sentinel, .sentinel, .pinned], laidTests := true, laidLooks := .later }
def ScriptWordsCardSaid : Prop := Claim7.holds Tryd.pinned (.plain (OpenSpec.ofChange scriptWordsSpec)) scriptWordsCard

/-- THE SECOND FORM's CARD OF 'copselaw15.ScriptQuote'. -/
def scriptQuoteUptoCard : Claim7 := { stood := { row := scriptQuoteUptoRow, standIns := [], harness := (true, "89839e0788cce91446ec9b356a64d8f2b4dde36850672099a736f3861b98ce35"), looks := true }, kinds := [], alts := [], laidByText := true, laidKinds := [.data, .data, .data, .data, .sentinel, .sentinel, .sentinel, .pinned], laidTests := true, laidLooks := .later }
def ScriptQuoteUptoCardSaid : Prop := Claim7.holds Tryd.pinned (.plain (OpenSpec.upto scriptQuoteSpec)) scriptQuoteUptoCard

/-- THE SECOND FORM's CARD OF 'copselaw15.ScriptWords'. -/
def scriptWordsUptoCard : Claim7 := { stood := { row := scriptWordsUptoRow, standIns := [], harness := (true, "89839e0788cce91446ec9b356a64d8f2b4dde36850672099a736f3861b98ce35"), looks := true }, kinds := [], alts := [], laidByText := true, laidKinds := [.data, .data, .data, .data, .sentinel, .sentinel, .sentinel, .sentinel, .sentinel, .sentinel, .sentinel, .sentinel, .sentinel, .sentinel, .sentinel, .sentinel, .sentinel, .sentinel, .sentinel, .pinned], laidTests := true, laidLooks := .later }
def ScriptWordsUptoCardSaid : Prop := Claim7.holds Tryd.pinned (.plain (OpenSpec.upto scriptWordsSpec)) scriptWordsUptoCard
end Rows
end Go.Proofs.YtjlhafiaocodkaaDoor
