import Derived.Test.YthnidlhcpelomaaDoorDOpC
namespace Go.Proofs.YthnidlhcpelomaaDoor
open Go.ChangeShapes Go.WideShapes Go.ChangeAt Go.WideMaps Go.WideElems Go.RowKit Go.Joins

def err13L : List (String × List UInt8) := [("copse/api.ErrArg", errText Rows.laid_copse_api_ErrArg), ("copse/api.ErrText", errText Rows.laid_copse_api_ErrText), ("copse/api.ErrMany", errText Rows.laid_copse_api_ErrMany), ("copse/api.ErrShort", errText Rows.laid_copse_api_ErrShort), ("copse/api.ErrTwice", errText Rows.laid_copse_api_ErrTwice), ("copse/api.ErrLost", errText Rows.laid_copse_api_ErrLost), ("copse/api.ErrFull", errText Rows.laid_copse_api_ErrFull), ("copse/api.ErrDead", errText Rows.laid_copse_api_ErrDead), ("copse/api.ErrCorrupt", errText Rows.laid_copse_api_ErrCorrupt), ("copse/api.ErrStatus", errText Rows.laid_copse_api_ErrStatus), ("copse/api.ErrTxid", errText Rows.laid_copse_api_ErrTxid), ("copse/api.ErrOrder", errText Rows.laid_copse_api_ErrOrder), ("copse/api.ErrKind", errText Rows.laid_copse_api_ErrKind)]
theorem err13L_eq : err13L.map mkErr ++ [] = [("copse/api.ErrArg", Rows.laid_copse_api_ErrArg), ("copse/api.ErrText", Rows.laid_copse_api_ErrText), ("copse/api.ErrMany", Rows.laid_copse_api_ErrMany), ("copse/api.ErrShort", Rows.laid_copse_api_ErrShort), ("copse/api.ErrTwice", Rows.laid_copse_api_ErrTwice), ("copse/api.ErrLost", Rows.laid_copse_api_ErrLost), ("copse/api.ErrFull", Rows.laid_copse_api_ErrFull), ("copse/api.ErrDead", Rows.laid_copse_api_ErrDead), ("copse/api.ErrCorrupt", Rows.laid_copse_api_ErrCorrupt), ("copse/api.ErrStatus", Rows.laid_copse_api_ErrStatus), ("copse/api.ErrTxid", Rows.laid_copse_api_ErrTxid), ("copse/api.ErrOrder", Rows.laid_copse_api_ErrOrder), ("copse/api.ErrKind", Rows.laid_copse_api_ErrKind)] := rfl
theorem err13L_all : ((List.range 13).all fun i => match err13L[i]? with
    | some x => (Tryd.prog.globalNamed x.1 == some (gAll i)) && ((Tryd.prog.globals[gAll i]?).map (·.type) == some 31)
    | none => false) = true := by kernel_rfl
theorem err13L_glob : ∀ i x, err13L[i]? = some x → Tryd.prog.globalNamed x.1 = some (gAll i) ∧ (Tryd.prog.globals[gAll i]?).map (·.type) = some 31 := by
  intro i x hx
  have hi : i < 13 := by
    rcases Nat.lt_or_ge i 13 with h | h
    · exact h
    · rw [List.getElem?_eq_none (by exact h)] at hx; cases hx
  have h := List.all_eq_true.1 err13L_all i (List.mem_range.2 hi)
  rw [hx] at h
  simpa using h
def isErr13 (x : String × DataW Unit) : Bool := x.1 == "copse/api.ErrArg" || x.1 == "copse/api.ErrText" || x.1 == "copse/api.ErrMany" || x.1 == "copse/api.ErrShort" || x.1 == "copse/api.ErrTwice" || x.1 == "copse/api.ErrLost" || x.1 == "copse/api.ErrFull" || x.1 == "copse/api.ErrDead" || x.1 == "copse/api.ErrCorrupt" || x.1 == "copse/api.ErrStatus" || x.1 == "copse/api.ErrTxid" || x.1 == "copse/api.ErrOrder" || x.1 == "copse/api.ErrKind"
set_option maxRecDepth 100000 in
theorem err13_of_laid {W : World} (h : laidMet Tryd.prog [("copse/api.ErrArg", Rows.laid_copse_api_ErrArg), ("copse/api.ErrText", Rows.laid_copse_api_ErrText), ("copse/api.ErrMany", Rows.laid_copse_api_ErrMany), ("copse/api.ErrShort", Rows.laid_copse_api_ErrShort), ("copse/api.ErrTwice", Rows.laid_copse_api_ErrTwice), ("copse/api.ErrLost", Rows.laid_copse_api_ErrLost), ("copse/api.ErrFull", Rows.laid_copse_api_ErrFull), ("copse/api.ErrDead", Rows.laid_copse_api_ErrDead), ("copse/api.ErrCorrupt", Rows.laid_copse_api_ErrCorrupt), ("copse/api.ErrStatus", Rows.laid_copse_api_ErrStatus), ("copse/api.ErrTxid", Rows.laid_copse_api_ErrTxid), ("copse/api.ErrOrder", Rows.laid_copse_api_ErrOrder), ("copse/api.ErrKind", Rows.laid_copse_api_ErrKind)] W) : ∃ A, ErrsG 13 gAll A W := by
  obtain ⟨A, hA, _⟩ := errs_of (rest := []) gAll (show err13L.length = 13 from rfl) err13L_glob (by rw [err13L_eq]; exact h)
  exact ⟨A, hA⟩
end Go.Proofs.YthnidlhcpelomaaDoor
