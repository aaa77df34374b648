import Derived.Test.YtagldlchamlpdaaDoorOpen8
import Derived.Test.YtagldlchamlpdaaDoorBChild
namespace Go.Proofs.YtagldlchamlpdaaDoor
open Go.ChangeShapes Go.WideShapes Go.ChangeAt Go.WideMaps Go.WideElems Go.RowKit Go.Joins

def g1a (i : Nat) : Nat := ([0] : List Nat).getD i 0
def err1L : List (String × List UInt8) := [("copse/api.ErrArg", errText Rows.laid_copse_api_ErrArg)]
theorem err1L_eq : err1L.map mkErr ++ [] = [("copse/api.ErrArg", Rows.laid_copse_api_ErrArg)] := rfl
theorem err1L_all : ((List.range 1).all fun i => match err1L[i]? with
    | some x => (Tryd.prog.globalNamed x.1 == some (g1a i)) && ((Tryd.prog.globals[g1a i]?).map (·.type) == some 31)
    | none => false) = true := by kernel_rfl
theorem err1L_glob : ∀ i x, err1L[i]? = some x → Tryd.prog.globalNamed x.1 = some (g1a i) ∧ (Tryd.prog.globals[g1a i]?).map (·.type) = some 31 := by
  intro i x hx
  have hi : i < 1 := by
    rcases Nat.lt_or_ge i 1 with h | h
    · exact h
    · rw [List.getElem?_eq_none (by exact h)] at hx; cases hx
  have h := List.all_eq_true.1 err1L_all i (List.mem_range.2 hi)
  rw [hx] at h
  simpa using h
def isErr1 (x : String × DataW Unit) : Bool := x.1 == "copse/api.ErrArg"
set_option maxRecDepth 100000 in
theorem err1_of_laid {W : World} (h : laidMet Tryd.prog [("copse/api.ErrArg", Rows.laid_copse_api_ErrArg)] W) : ∃ A, ErrA A W := by
  obtain ⟨A, hA, _⟩ := errs_of (rest := []) g1a (show err1L.length = 1 from rfl) err1L_glob (by rw [err1L_eq]; exact h)
  exact ⟨A, (hA.1 0 (by decide)).1⟩

end Go.Proofs.YtagldlchamlpdaaDoor
