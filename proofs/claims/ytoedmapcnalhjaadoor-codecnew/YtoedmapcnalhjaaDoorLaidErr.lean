import Derived.Test.YtoedmapcnalhjaaDoorErrs
import Derived.Test.YtoedmapcnalhjaaDoorLaid
namespace Go.Proofs.YtoedmapcnalhjaaDoor
open Go.ChangeShapes Go.WideShapes Go.ChangeAt Go.WideMaps Go.WideElems Go.RowKit

def errL : List (String × List UInt8) := Rows.codecPutsRow.laid.map fun x => (x.1, errText x.2)
theorem errL_eq : errL.map mkErr = Rows.codecPutsRow.laid := rfl
theorem errL_len : errL.length = 13 := rfl
theorem errL_all : ((List.range 13).all fun i => match errL[i]? with
    | some x => (Tryd.prog.globalNamed x.1 == some (1 + i)) && ((Tryd.prog.globals[1 + i]?).map (·.type) == some 39)
    | none => false) = true := by kernel_rfl
theorem errL_glob : ∀ i x, errL[i]? = some x → Tryd.prog.globalNamed x.1 = some (1 + i) ∧ (Tryd.prog.globals[1 + i]?).map (·.type) = some 39 := by
  intro i x hx
  have hi : i < 13 := by
    rcases Nat.lt_or_ge i 13 with h | h
    · exact h
    · rw [List.getElem?_eq_none (by rw [errL_len]; exact h)] at hx; cases hx
  have h := List.all_eq_true.1 errL_all i (List.mem_range.2 hi)
  rw [hx] at h
  simpa using h
theorem errs_of_laid {W : World} (h : laidMetH Tryd.prog Rows.codecPutsRow.laid W) : ∃ A, ErrsAt A W := by
  rw [MakeChecks.laidMetH_plain _ _ _ (by kernel_rfl)] at h
  exact errs_of (rest := []) errL_len errL_glob (by rw [List.append_nil, errL_eq]; exact h)
theorem door_met_err (os : Os) (args : Array Value) : laidMetH Tryd.prog Rows.codecPutsRow.laid ((World.doorLaid Tryd.prog 261 os).forCall (fun _ _ => 0) ⟨#[], args, []⟩).memory :=
  laidMetH_of_parts3 (fuel := 8) (laidMet_of_run' 8 (by kernel_rfl) (by kernel_rfl)) (by kernel_rfl) (by kernel_rfl)

end Go.Proofs.YtoedmapcnalhjaaDoor
