import Derived.Test.YtlopimdnjookeabGreatDoorRows
import Derived.Test.YtlopimdnjookeabGreatDoorErrs
import Derived.Test.YtlopimdnjookeabGreatDoorMtMath
import Derived.ProofKit
import Derived.LaidMore
import Derived.LaidSub
import Derived.OpenShut
import Derived.Stop.Joined
import Derived.Lib.LaidTab
import Derived.Lib.SmallJoins
import Derived.SizedLaws
import Derived.Deep.Slices
namespace Go.Proofs.YtlopimdnjookeabGreatDoor
open Go.ChangeShapes Go.WideShapes Go.ChangeAt Go.WideMaps Go.WideElems Go.RowKit Go.Joins

theorem own : ownKnob Tryz.prog.godebug = none := by kernel_rfl
theorem laidOut : laidOutB Tryz.prog = true := by kernel_rfl
theorem gTab : Tryz.prog.globalNamed "copse/codec.halfByteSteps" = some 13 := by kernel_rfl
theorem tTab : (Tryz.prog.globals[13]?).map (·.type) = some 146 := by kernel_rfl
theorem cells32 : Tryz.prog.cellsOf 108 = 1 := by kernel_rfl
theorem cellsTab : Tryz.prog.cellsOf 146 = 16 := by kernel_rfl
theorem cellsInt : Tryz.prog.cellsOf 3 = 1 := by kernel_rfl
theorem cells64 : Tryz.prog.cellsOf 30 = 1 := by kernel_rfl
theorem cells9 : Tryz.prog.cellsOf 9 = 1 := by kernel_rfl
theorem cellsSl : Tryz.prog.cellsOf 33 = 1 := by kernel_rfl
theorem cellsMt : Tryz.prog.cellsOf 32 = 3 := by kernel_rfl
theorem bytes5 : Tryz.prog.bytesOf 5 = 1 := by kernel_rfl
theorem cellsB5 : Tryz.prog.cellsOf 5 = 1 := by kernel_rfl
theorem reach_val : reachBytes = 140737488351232 := rfl

theorem tab_of_laid {W : World} (h : laidMet Tryz.prog [("copse/codec.halfByteSteps", Rows.laid_copse_codec_halfByteSteps)] W) : Tab W := by
  have e : (Rows.laid_copse_codec_halfByteSteps : DataW Unit) = Lib.tabData .u32 (tabL.map Int.ofNat) := by simp [Rows.laid_copse_codec_halfByteSteps, Lib.tabData, tabL]
  rw [e] at h
  have hv := Lib.tabIs_of_head gTab tTab Tryz.underlying146 Tryz.underlying108 cells32 cellsTab h
  have hc := World.var?_cell gTab hv
  have h16 : ∀ j, j < 16 → W.cell? ⟨13, j, none⟩ = some (.int .u32 (tab j : Nat)) := by
    intro j hj
    have h1 := hc j
    rw [h1]
    have : ∀ i : Fin 16, ((tabL.map Int.ofNat).map fun z => Value.int .u32 z).toArray[i.1]? = some (.int .u32 ((tab i.1 : Nat) : Int)) := by
      intro i
      simp only [List.map_map, List.getElem?_toArray, List.getElem?_map]
      have hi : i.1 < tabL.length := i.2
      rw [List.getElem?_eq_getElem hi]
      simp only [Option.map_some, Function.comp]
      unfold tab
      rw [List.getD, List.getElem?_eq_getElem hi]
      rfl
    exact this ⟨j, hj⟩
  refine ⟨h16, ?_⟩
  exact World.block_lt_of_cell? W _ (h16 0 (by decide))

def errL : List (String × List UInt8) := (Rows.metaPlaysUptoRow.laid.take 13).map fun x => (x.1, errText x.2)
theorem errL_eq : errL.map mkErr ++ [("copse/codec.halfByteSteps", Rows.laid_copse_codec_halfByteSteps)] = Rows.metaPlaysUptoRow.laid := rfl
theorem errL_len : errL.length = 13 := rfl
theorem errL_all : ((List.range 13).all fun i => match errL[i]? with
    | some x => (Tryz.prog.globalNamed x.1 == some (gAll i)) && ((Tryz.prog.globals[gAll i]?).map (·.type) == some 54)
    | none => false) = true := by kernel_rfl
theorem errL_glob : ∀ i x, errL[i]? = some x → Tryz.prog.globalNamed x.1 = some (gAll i) ∧ (Tryz.prog.globals[gAll i]?).map (·.type) = some 54 := by
  intro i x hx
  have hi : i < 13 := by
    rcases Nat.lt_or_ge i 13 with h | h
    · exact h
    · rw [List.getElem?_eq_none (by rw [errL_len]; exact h)] at hx; cases hx
  have h := List.all_eq_true.1 errL_all i (List.mem_range.2 hi)
  rw [hx] at h
  simpa using h
set_option maxRecDepth 100000 in
theorem all_of_laid {W : World} (h : laidMetH Tryz.prog Rows.metaPlaysUptoRow.laid W) : ∃ A, ErrsAt A W ∧ Tab W := by
  rw [MakeChecks.laidMetH_plain _ _ _ (by kernel_rfl)] at h
  obtain ⟨A, hA, _⟩ := errs_of (rest := [("copse/codec.halfByteSteps", Rows.laid_copse_codec_halfByteSteps)]) gAll errL_len errL_glob (by rw [errL_eq]; exact h)
  have h1 : laidMet Tryz.prog [("copse/codec.halfByteSteps", Rows.laid_copse_codec_halfByteSteps)] W := h.filter (fun x => x.1 == "copse/codec.halfByteSteps")
  exact ⟨A, hA, tab_of_laid h1⟩
theorem door_met (os : Os) (args : Array Value) : laidMetH Tryz.prog Rows.metaPlaysUptoRow.laid ((World.doorLaid Tryz.prog 261 os).forCall (fun _ _ => 0) ⟨#[], args, []⟩).memory :=
  laidMetH_of_parts3 (fuel := 8) (laidMet_of_run' 8 (by kernel_rfl) (by kernel_rfl)) (by kernel_rfl) (by kernel_rfl)

def Mt.dat {H : Type} (m : Mt) : DataW H := .agg [.lit (.int .i64 m.pages), .lit (.int .i64 m.root), .lit (.int .u64 (m.txid : Int))]

set_option maxRecDepth 100000 in
theorem open_meta_c {H : Type} {enc : TypeId × Value → H} {W : World} {base : Nat} {sp : Nat → Bool} {held : Bool} {fuel : Nat} {cs : List Value} {x : DataW H × List MemPlace}
    (h : DataW.trod enc Tryz.prog W base sp held fuel 32 cs = some x) : ∃ m : Mt, cs = m.cells ∧ x = (m.dat, []) ∧ m.num := by
  obtain ⟨xs, k', _, hxy, hcl, hxl, hf⟩ := DataW.trod_struct Tryz.underlying32 h
  rw [cellsMt] at hcl
  match xs, hxl, cs, hcl with
  | [y0, y1, y2], _, [v0, v1, v2], _ =>
    have g0 := hf 0 _ rfl
    have g1 := hf 1 _ rfl
    have g2 := hf 2 _ rfl
    simp [cellsInt, cells64] at g0 g1 g2
    obtain ⟨k0, d0, rfl, w0⟩ := DataW.trod_int Tryz.underlying3 g0
    obtain ⟨k1, d1, rfl, w1⟩ := DataW.trod_int Tryz.underlying3 g1
    obtain ⟨k2, d2, rfl, w2⟩ := DataW.trod_int Tryz.underlying30 g2
    simp only [List.cons.injEq, and_true] at d0 d1 d2
    subst d0 d1 d2
    obtain ⟨q1, q2⟩ := bounds_u64 w2
    obtain ⟨t, rfl⟩ := Int.eq_ofNat_of_zero_le q1
    have b0 := bounds_i64 w0
    have b1 := bounds_i64 w1
    exact ⟨⟨k0, k1, t⟩, rfl, by rw [hxy]; rfl, b0.1, b0.2, b1.1, b1.2, by show t < _; omega⟩

set_option maxRecDepth 100000 in
theorem open_meta {H : Type} {enc : TypeId × Value → H} {W : World} {r : Reach} {b0 base : Nat} {sp : Nat → Bool} {held : Bool} {v : Value} {d : DataW H} {p : List MemPlace} (hv : Value.okWide Tryz.prog W r b0 32 v)
    (h : DataW.Trod enc Tryz.prog W base sp held 32 v d p) : ∃ m : Mt, v = .agg m.cells.toArray ∧ d = m.dat ∧ p = [] ∧ m.num := by
  obtain ⟨cs, rfl, hsz⟩ := okWide_struct Tryz.underlying32 hv
  obtain ⟨fuel, hf0⟩ := h
  obtain ⟨s, hs, hx, hn⟩ := open_meta_c hf0
  obtain ⟨cl⟩ := cs
  simp only [Value.cells] at hs
  simp only [Prod.mk.injEq] at hx
  exact ⟨s, by rw [← hs], hx.1, hx.2, hn⟩

end Go.Proofs.YtlopimdnjookeabGreatDoor
