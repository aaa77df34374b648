import Derived.Test.YtmifadjgmjnkgaaGreatDoorRows
import Derived.Test.YtmifadjgmjnkgaaGreatDoorErrs
import Derived.Test.YtmifadjgmjnkgaaGreatDoorWHead
import Derived.ProofKit
import Derived.LaidMore
import Derived.LaidSub
import Derived.OpenShut
import Derived.Stop.Joined
import Derived.Lib.LaidTab
import Derived.Lib.SmallJoins
import Derived.SizedLaws
namespace Go.Proofs.YtmifadjgmjnkgaaGreatDoor
open Go.ChangeShapes Go.WideShapes Go.ChangeAt Go.WideMaps Go.WideElems Go.RowKit

theorem own : ownKnob Tryz.prog.godebug = none := by kernel_rfl
theorem laidOut : laidOutB Tryz.prog = true := by kernel_rfl
theorem gTab : Tryz.prog.globalNamed "copse/codec.halfByteSteps" = some 14 := by kernel_rfl
theorem tTab : (Tryz.prog.globals[14]?).map (·.type) = some 154 := by kernel_rfl
theorem gLay : Tryz.prog.globalNamed "copse/sheet.layout" = some 13 := by kernel_rfl
theorem tLay : (Tryz.prog.globals[13]?).map (·.type) = some 144 := by kernel_rfl
theorem cells32 : Tryz.prog.cellsOf 97 = 1 := by kernel_rfl
theorem cellsTab : Tryz.prog.cellsOf 154 = 16 := by kernel_rfl
theorem cellsInt : Tryz.prog.cellsOf 3 = 1 := by kernel_rfl
theorem cellsLay : Tryz.prog.cellsOf 144 = 10 := by kernel_rfl
theorem cellsNum : Tryz.prog.cellsOf 143 = 2 := by kernel_rfl

theorem tab_of_laid {W : World} (h : laidMet Tryz.prog [("copse/codec.halfByteSteps", Rows.laid_copse_codec_halfByteSteps)] W) : Tab W := by
  have e : (Rows.laid_copse_codec_halfByteSteps : DataW Unit) = Lib.tabData .u32 (tabL.map Int.ofNat) := by simp [Rows.laid_copse_codec_halfByteSteps, Lib.tabData, tabL]
  rw [e] at h
  have hv := Lib.tabIs_of_head gTab tTab Tryz.underlying154 Tryz.underlying97 cells32 cellsTab h
  have hc := World.var?_cell gTab hv
  have h16 : ∀ j, j < 16 → W.cell? ⟨14, j, none⟩ = some (.int .u32 (tab j : Nat)) := by
    intro j hj
    have h1 := hc j
    rw [h1]
    have : ∀ i : Fin 16, ((tabL.map Int.ofNat).map fun z => Value.int .u32 z).toArray[i.1]? = some (.int .u32 ((tab i.1 : Nat) : Int)) := by
      intro i
      simp only [List.map_map, List.getElem?_toArray, List.getElem?_map]
      have hi : i.1 < tabL.length := i.2
      rw [List.getElem?_eq_getElem hi]
      simp only [Option.map_some, Function.comp]
      unfold tab
      rw [List.getD, List.getElem?_eq_getElem hi]
      rfl
    exact this ⟨j, hj⟩
  refine ⟨h16, ?_⟩
  exact World.block_lt_of_cell? W _ (h16 0 (by decide))

set_option maxRecDepth 100000 in
theorem number_cells {W : World} {m : Nat} {a b : Value} {y : DataW Unit × List MemPlace} {p q : Int} (h : DataW.trod (fun _ => ()) Tryz.prog W 0 (fun _ => true) false m 143 [a, b] = some y) (hy : y.1 = .agg [.lit (.int .i64 p), .lit (.int .i64 q)]) :
    a = .int .i64 p ∧ b = .int .i64 q := by
  obtain ⟨y0, y1, n, rfl, _, h0, h1⟩ := trod_struct2 Tryz.underlying143 h
  have h0' : DataW.trod (fun _ => ()) Tryz.prog W 0 (fun _ => true) false n 3 [a] = some y0 := by simpa [cellsInt] using h0
  have h1' : DataW.trod (fun _ => ()) Tryz.prog W 0 (fun _ => true) false n 3 [b] = some y1 := by simpa [cellsInt] using h1
  obtain ⟨k0, e0, rfl, _⟩ := DataW.trod_int Tryz.underlying3 h0'
  obtain ⟨k1, e1, rfl, _⟩ := DataW.trod_int Tryz.underlying3 h1'
  simp only [List.cons.injEq, and_true] at e0 e1
  subst e0 e1
  simp only [DataW.agg.injEq, List.cons.injEq, DataW.lit.injEq, Lit.int.injEq, true_and, and_true] at hy
  obtain ⟨rfl, rfl⟩ := hy
  exact ⟨rfl, rfl⟩

set_option maxRecDepth 100000 in
theorem lay_of_laid {W : World} (h : laidMet Tryz.prog [("copse/sheet.layout", Rows.laid_copse_sheet_layout)] W) : Lay W := by
  obtain ⟨ps, ⟨g, t, cs, fuel, p, q, hg, ht, hvar, hd, _, _⟩, _, _⟩ := h
  obtain rfl := Option.some.inj (gLay.symm.trans hg)
  obtain rfl := Option.some.inj (tLay.symm.trans ht)
  have hc := World.var?_cell gLay hvar
  obtain ⟨xs, m, _, hx, hcl, hxl, hf⟩ := DataW.trod_array Tryz.underlying144 hd
  rw [cellsLay] at hcl
  obtain ⟨cl⟩ := cs
  match xs, hxl, cl, hcl with
  | [y0, y1, y2, y3, y4], _, [v0, v1, v2, v3, v4, v5, v6, v7, v8, v9], _ =>
    have g0 := hf 0 (by decide)
    have g1 := hf 1 (by decide)
    have g2 := hf 2 (by decide)
    have g3 := hf 3 (by decide)
    have g4 := hf 4 (by decide)
    simp [cellsNum] at g0 g1 g2 g3 g4
    have hx1 := congrArg Prod.fst hx
    simp only [Rows.laid_copse_sheet_layout, List.map_cons, List.map_nil, DataW.agg.injEq, List.cons.injEq, and_true] at hx1
    obtain ⟨x0, x1, x2, x3, x4⟩ := hx1
    obtain ⟨rfl, rfl⟩ := number_cells g0 x0.symm
    obtain ⟨rfl, rfl⟩ := number_cells g1 x1.symm
    obtain ⟨rfl, rfl⟩ := number_cells g2 x2.symm
    obtain ⟨rfl, rfl⟩ := number_cells g3 x3.symm
    obtain ⟨rfl, rfl⟩ := number_cells g4 x4.symm
    have k0 := hc 0
    have k1 := hc 1
    have k2 := hc 2
    have k3 := hc 3
    have k4 := hc 4
    have k5 := hc 5
    have k6 := hc 6
    have k7 := hc 7
    have k8 := hc 8
    have k9 := hc 9
    simp at k0 k1 k2 k3 k4 k5 k6 k7 k8 k9
    exact ⟨World.block_lt_of_cell? W _ k0, k0, k1, k2, k3, k4, k5, k6, k7, k8, k9⟩

def errL : List (String × List UInt8) := (Rows.sheetDeviceUptoRow.laid.take 13).map fun x => (x.1, errText x.2)
theorem errL_eq : errL.map mkErr ++ [("copse/codec.halfByteSteps", Rows.laid_copse_codec_halfByteSteps), ("copse/sheet.layout", Rows.laid_copse_sheet_layout)] = Rows.sheetDeviceUptoRow.laid := rfl
theorem errL_len : errL.length = 13 := rfl
theorem errL_all : ((List.range 13).all fun i => match errL[i]? with
    | some x => (Tryz.prog.globalNamed x.1 == some (gAll i)) && ((Tryz.prog.globals[gAll i]?).map (·.type) == some 36)
    | none => false) = true := by kernel_rfl
theorem errL_glob : ∀ i x, errL[i]? = some x → Tryz.prog.globalNamed x.1 = some (gAll i) ∧ (Tryz.prog.globals[gAll i]?).map (·.type) = some 36 := by
  intro i x hx
  have hi : i < 13 := by
    rcases Nat.lt_or_ge i 13 with h | h
    · exact h
    · rw [List.getElem?_eq_none (by rw [errL_len]; exact h)] at hx; cases hx
  have h := List.all_eq_true.1 errL_all i (List.mem_range.2 hi)
  rw [hx] at h
  simpa using h
set_option maxRecDepth 100000 in
theorem all_of_laid {W : World} (h : laidMetH Tryz.prog Rows.sheetDeviceUptoRow.laid W) : ∃ A, ErrsAt A W ∧ Tab W ∧ Lay W := by
  rw [MakeChecks.laidMetH_plain _ _ _ (by kernel_rfl)] at h
  obtain ⟨A, hA, _⟩ := errs_of (rest := [("copse/codec.halfByteSteps", Rows.laid_copse_codec_halfByteSteps), ("copse/sheet.layout", Rows.laid_copse_sheet_layout)]) gAll errL_len errL_glob (by rw [errL_eq]; exact h)
  have h1 : laidMet Tryz.prog [("copse/codec.halfByteSteps", Rows.laid_copse_codec_halfByteSteps)] W := h.filter (fun x => x.1 == "copse/codec.halfByteSteps")
  have h2 : laidMet Tryz.prog [("copse/sheet.layout", Rows.laid_copse_sheet_layout)] W := h.filter (fun x => x.1 == "copse/sheet.layout")
  exact ⟨A, hA, tab_of_laid h1, lay_of_laid h2⟩
theorem door_met (os : Os) (args : Array Value) : laidMetH Tryz.prog Rows.sheetDeviceUptoRow.laid ((World.doorLaid Tryz.prog 271 os).forCall (fun _ _ => 0) ⟨#[], args, []⟩).memory :=
  laidMetH_of_parts3 (fuel := 8) (laidMet_of_run' 8 (by kernel_rfl) (by kernel_rfl)) (by kernel_rfl) (by kernel_rfl)

end Go.Proofs.YtmifadjgmjnkgaaGreatDoor
