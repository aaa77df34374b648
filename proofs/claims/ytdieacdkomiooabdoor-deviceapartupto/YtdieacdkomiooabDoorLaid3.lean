import Derived.Test.YtdieacdkomiooabDoorOpen3
import Derived.LaidMore
import Derived.Stop.Joined
namespace Go.Proofs.YtdieacdkomiooabDoor
open Go.ChangeShapes Go.WideShapes Go.ChangeAt Go.WideMaps Go.WideElems Go.RowKit

theorem own : ownKnob Tryd.prog.godebug = none := by kernel_rfl
theorem laidOut : laidOutB Tryd.prog = true := by kernel_rfl
theorem cellsScript : Tryd.prog.cellsOf 25 = 3 := by kernel_rfl
theorem cellsFall : Tryd.prog.cellsOf 28 = 5 := by kernel_rfl
theorem cellsSecs : Tryd.prog.cellsOf 22 = 1 := by kernel_rfl
theorem cellsSteps : Tryd.prog.cellsOf 23 = 1 := by kernel_rfl

theorem errsB_of {A : Nat → Addr} {W : World} (h : ErrsAt 13 gAll A W) : ErrsB W.heap.size A W := by
  refine ⟨h, fun i hi => ?_, Nat.le_refl _⟩
  obtain ⟨h1, c, t, h2⟩ := h.1 i hi
  refine ⟨World.block_lt_of_cell? W _ h1, ?_⟩
  rcases Nat.lt_or_ge (A i).block W.heap.size with h' | h'
  · exact h'
  · rw [Array.getElem?_eq_none h'] at h2; cases h2

/-- What an argument of a law over a script holds. -/
structure ScrIn (W : World) (X : Int) (fv sv : Value) (first : List Sec) (steps : List Stp) : Prop where
  x : -9223372036854775808 ≤ X ∧ X ≤ 9223372036854775807
  secs : SecsIn W fv first
  len : first.length ≤ 1048576
  steps : StepsIn W sv steps

set_option maxRecDepth 100000 in
theorem open_scr {H : Type} {enc : TypeId × Value → H} {W : World} {fuel : Nat} {cs : List Value} {x : DataW H × List MemPlace}
    (h : DataW.trod enc Tryd.prog W 0 (fun _ => true) true fuel 25 cs = some x) (hb : Rows.uptoBulk x.1 ≤ 1048576) : ∃ X fv sv first steps, cs = [.int .i64 X, fv, sv] ∧ ScrIn W X fv sv first steps := by
  obtain ⟨xs, k', _, hxy, hcl, hxl, hf⟩ := DataW.trod_struct Tryd.underlying25 h
  rw [cellsScript] at hcl
  match xs, hxl, cs, hcl with
  | [y0, y1, y2], _, [v0, v1, v2], _ =>
    have g0 := hf 0 _ rfl
    have g1 := hf 1 _ rfl
    have g2 := hf 2 _ rfl
    simp [cellsInt, cellsSecs, cellsSteps] at g0 g1 g2
    obtain ⟨k0, d0, rfl, w0⟩ := DataW.trod_int Tryd.underlying3 g0
    simp only [List.cons.injEq, and_true] at d0
    rw [hxy] at hb
    simp only [List.map_cons, List.map_nil, Rows.uptoBulk, Rows.uptoBulkAll] at hb
    obtain ⟨l1, hl1, hn1⟩ := open_secs k' v1 y1 g1 (by omega)
    obtain ⟨l2, hl2⟩ := open_steps k' v2 y2 g2 (by omega)
    exact ⟨k0, v1, v2, l1, l2, by rw [d0], bounds_i64 w0, hl1, hn1, hl2⟩

set_option maxRecDepth 100000 in
theorem open_fall {H : Type} {enc : TypeId × Value → H} {W : World} {r : Reach} {b0 : Nat} {v : Value} {d : DataW H} {p : List MemPlace} (hv : Value.okWide Tryd.prog W r b0 28 v)
    (h : DataW.Trod enc Tryd.prog W 0 (fun _ => true) true 28 v d p) (hb : Rows.uptoBulk d ≤ 1048576) :
    ∃ X fv sv ftv thv first steps fts thn, v = .agg #[.int .i64 X, fv, sv, ftv, thv] ∧ ScrIn W X fv sv first steps ∧ FatesIn W ftv fts ∧ fts.length ≤ 1048576 ∧ (∀ f ∈ fts, f.junk.size ≤ 1048576) ∧ StepsIn W thv thn := by
  obtain ⟨cs, rfl, hsz⟩ := okWide_struct Tryd.underlying28 hv
  rw [cellsFall] at hsz
  obtain ⟨fuel, hf0⟩ := h
  obtain ⟨xs, k', _, hxy, hcl, hxl, hf⟩ := DataW.trod_struct Tryd.underlying28 hf0
  obtain ⟨cl⟩ := cs
  simp only [Value.cells] at hf
  simp only [Prod.mk.injEq] at hxy
  match xs, hxl, cl, hsz with
  | [y0, y1, y2], _, [v0, v1, v2, v3, v4], _ =>
    have g0 := hf 0 _ rfl
    have g1 := hf 1 _ rfl
    have g2 := hf 2 _ rfl
    simp [cellsScript, cellsFates, cellsSteps] at g0 g1 g2
    rw [hxy.1] at hb
    simp only [List.map_cons, List.map_nil, Rows.uptoBulk, Rows.uptoBulkAll] at hb
    obtain ⟨X, fv, sv, first, steps, he, hs⟩ := open_scr g0 (by omega)
    simp only [List.cons.injEq, and_true] at he
    obtain ⟨rfl, rfl, rfl⟩ := he
    obtain ⟨fts, hl1, hn1, hj1⟩ := open_fates k' v3 y1 g1 (by omega)
    obtain ⟨thn, hl2⟩ := open_steps k' v4 y2 g2 (by omega)
    exact ⟨X, _, _, v3, v4, first, steps, fts, thn, rfl, hs, hl1, hn1, hj1, hl2⟩

end Go.Proofs.YtdieacdkomiooabDoor
