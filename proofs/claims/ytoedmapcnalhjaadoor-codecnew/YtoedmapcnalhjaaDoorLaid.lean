import Derived.Test.YtoedmapcnalhjaaDoorRows
import Derived.Test.YtoedmapcnalhjaaDoorRd
import Derived.ProofKit
import Derived.LaidMore
import Derived.OpenShut
import Derived.Stop.Joined
import Derived.Lib.LaidTab
import Derived.Lib.SmallJoins
import Derived.SizedLaws
namespace Go.Proofs.YtoedmapcnalhjaaDoor
open Go.ChangeShapes Go.WideShapes Go.ChangeAt Go.WideMaps Go.WideElems Go.RowKit

theorem own : ownKnob Tryd.prog.godebug = none := by kernel_rfl
theorem laidOut : laidOutB Tryd.prog = true := by kernel_rfl
theorem gTab : Tryd.prog.globalNamed "copse/codec.halfByteSteps" = some 0 := by kernel_rfl
theorem tTab : (Tryd.prog.globals[0]?).map (·.type) = some 57 := by kernel_rfl
theorem cells22 : Tryd.prog.cellsOf 22 = 1 := by kernel_rfl
theorem cellsTab : Tryd.prog.cellsOf 57 = 16 := by kernel_rfl

theorem door_met_tab (os : Os) (args : Array Value) : laidMetH Tryd.prog [("copse/codec.halfByteSteps", Rows.laid_copse_codec_halfByteSteps)] ((World.doorLaid Tryd.prog 261 os).forCall (fun _ _ => 0) ⟨#[], args, []⟩).memory :=
  laidMetH_of_parts3 (fuel := 8) (laidMet_of_run' 8 (by kernel_rfl) (by kernel_rfl)) (by kernel_rfl) (by kernel_rfl)

theorem tab_of_laid {W : World} (h : laidMetH Tryd.prog [("copse/codec.halfByteSteps", Rows.laid_copse_codec_halfByteSteps)] W) : Tab W := by
  rw [MakeChecks.laidMetH_plain _ _ _ (by kernel_rfl)] at h
  have e : (Rows.laid_copse_codec_halfByteSteps : DataW Unit) = Lib.tabData .u32 (tabL.map Int.ofNat) := by simp [Rows.laid_copse_codec_halfByteSteps, Lib.tabData, tabL]
  rw [e] at h
  have hv := Lib.tabIs_of_head gTab tTab Tryd.underlying57 Tryd.underlying22 cells22 cellsTab h
  have hc := World.var?_cell gTab hv
  have h16 : ∀ j, j < 16 → W.cell? ⟨0, j, none⟩ = some (.int .u32 (tab j : Nat)) := by
    intro j hj
    have h1 := hc j
    rw [h1]
    have : ∀ i : Fin 16, ((tabL.map Int.ofNat).map fun z => Value.int .u32 z).toArray[i.1]? = some (.int .u32 ((tab i.1 : Nat) : Int)) := by
      intro i
      simp only [List.map_map, List.getElem?_toArray, List.getElem?_map]
      have hi : i.1 < tabL.length := i.2
      rw [List.getElem?_eq_getElem hi]
      simp only [Option.map_some, Function.comp]
      unfold tab
      rw [List.getD, List.getElem?_eq_getElem hi]
      rfl
    exact this ⟨j, hj⟩
  refine ⟨h16, ?_⟩
  exact World.block_lt_of_cell? W _ (h16 0 (by decide))

end Go.Proofs.YtoedmapcnalhjaaDoor
