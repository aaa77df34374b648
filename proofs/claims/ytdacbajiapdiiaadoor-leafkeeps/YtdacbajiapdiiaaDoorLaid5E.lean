import Derived.Test.YtdacbajiapdiiaaDoorOpen7
import Derived.Test.YtdacbajiapdiiaaDoorLErr
namespace Go.Proofs.YtdacbajiapdiiaaDoor
open Go.ChangeShapes Go.WideShapes Go.ChangeAt Go.WideMaps Go.WideElems Go.RowKit Go.Joins

def g5 (i : Nat) : Nat := ([0, 2, 3, 4, 1] : List Nat).getD i 0
def err5L : List (String × List UInt8) := [("copse/api.ErrArg", errText Rows.laid_copse_api_ErrArg), ("copse/api.ErrText", errText Rows.laid_copse_api_ErrText), ("copse/api.ErrMany", errText Rows.laid_copse_api_ErrMany), ("copse/api.ErrShort", errText Rows.laid_copse_api_ErrShort), ("copse/api.ErrOrder", errText Rows.laid_copse_api_ErrOrder)]
theorem err5L_eq : err5L.map mkErr ++ [] = [("copse/api.ErrArg", Rows.laid_copse_api_ErrArg), ("copse/api.ErrText", Rows.laid_copse_api_ErrText), ("copse/api.ErrMany", Rows.laid_copse_api_ErrMany), ("copse/api.ErrShort", Rows.laid_copse_api_ErrShort), ("copse/api.ErrOrder", Rows.laid_copse_api_ErrOrder)] := rfl
theorem err5L_all : ((List.range 5).all fun i => match err5L[i]? with
    | some x => (Tryd.prog.globalNamed x.1 == some (g5 i)) && ((Tryd.prog.globals[g5 i]?).map (·.type) == some 28)
    | none => false) = true := by kernel_rfl
theorem err5L_glob : ∀ i x, err5L[i]? = some x → Tryd.prog.globalNamed x.1 = some (g5 i) ∧ (Tryd.prog.globals[g5 i]?).map (·.type) = some 28 := by
  intro i x hx
  have hi : i < 5 := by
    rcases Nat.lt_or_ge i 5 with h | h
    · exact h
    · rw [List.getElem?_eq_none (by exact h)] at hx; cases hx
  have h := List.all_eq_true.1 err5L_all i (List.mem_range.2 hi)
  rw [hx] at h
  simpa using h
def isErr5 (x : String × DataW Unit) : Bool := x.1 == "copse/api.ErrArg" || x.1 == "copse/api.ErrText" || x.1 == "copse/api.ErrMany" || x.1 == "copse/api.ErrShort" || x.1 == "copse/api.ErrOrder"
set_option maxRecDepth 100000 in
theorem err5_of_laid {W : World} (h : laidMet Tryd.prog [("copse/api.ErrArg", Rows.laid_copse_api_ErrArg), ("copse/api.ErrText", Rows.laid_copse_api_ErrText), ("copse/api.ErrMany", Rows.laid_copse_api_ErrMany), ("copse/api.ErrShort", Rows.laid_copse_api_ErrShort), ("copse/api.ErrOrder", Rows.laid_copse_api_ErrOrder)] W) : ∃ A, ErrsG 5 g5 A W := by
  obtain ⟨A, hA, _⟩ := errs_of (rest := []) g5 (show err5L.length = 5 from rfl) err5L_glob (by rw [err5L_eq]; exact h)
  exact ⟨A, hA⟩
theorem errC_of5 {A : Nat → Addr} {W : World} (h : ErrsG 5 g5 A W) : ∃ B, ErrC B W := by
  refine ⟨fun i => if i < 4 then A i else A 4, ⟨fun i hi => ?_, fun i j hi hj he => ?_⟩, ?_⟩
  · have := h.1 i (by omega)
    simp only [if_pos hi]
    have e : g5 i = gAll i := by
      match i, hi with
      | 0, _ | 1, _ | 2, _ | 3, _ => rfl
    rwa [e] at this
  · simp only [if_pos hi, if_pos hj] at he
    exact h.2 i j (by omega) (by omega) he
  · exact (h.1 4 (by decide)).1

end Go.Proofs.YtdacbajiapdiiaaDoor
