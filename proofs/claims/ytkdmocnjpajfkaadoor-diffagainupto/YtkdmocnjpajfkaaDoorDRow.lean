import Derived.Test.YtkdmocnjpajfkaaDoorDBeg
import Derived.Test.YtkdmocnjpajfkaaDoorDOpen
namespace Go.Proofs.YtkdmocnjpajfkaaDoor
open Go.ChangeShapes Go.WideShapes Go.ChangeAt Go.WideMaps Go.WideElems Go.RowKit Go.Joins

theorem err2L_glob : ∀ i x, err2L[i]? = some x → Tryd.prog.globalNamed x.1 = some (gLO i) ∧ (Tryd.prog.globals[gLO i]?).map (·.type) = some 29 := by
  have h0 : Tryd.prog.globalNamed "copse/api.ErrLost" = some 1 := by kernel_rfl
  have h1 : Tryd.prog.globalNamed "copse/api.ErrOrder" = some 0 := by kernel_rfl
  have t0 : (Tryd.prog.globals[1]?).map (·.type) = some 29 := by kernel_rfl
  have t1 : (Tryd.prog.globals[0]?).map (·.type) = some 29 := by kernel_rfl
  intro i x hx
  match i, hx with
  | 0, hx => cases hx; exact ⟨h0, t0⟩
  | 1, hx => cases hx; exact ⟨h1, t1⟩
  | i + 2, hx => simp [err2L] at hx
set_option maxRecDepth 100000 in
theorem err2_of_laid {W : World} (h : laidMet Tryd.prog [("copse/api.ErrLost", Rows.laid_copse_api_ErrLost), ("copse/api.ErrOrder", Rows.laid_copse_api_ErrOrder)] W) : ∃ A, ErrsG 2 gLO A W := by
  obtain ⟨A, hA, _⟩ := errs_of (rest := []) gLO (show err2L.length = 2 from rfl) err2L_glob (by rw [err2L_eq]; exact h)
  exact ⟨A, hA⟩
end Go.Proofs.YtkdmocnjpajfkaaDoor
