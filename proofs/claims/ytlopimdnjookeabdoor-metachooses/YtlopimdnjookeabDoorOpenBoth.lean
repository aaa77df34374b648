import Derived.Test.YtlopimdnjookeabDoorOpen5
namespace Go.Proofs.YtlopimdnjookeabDoor
open Go.ChangeShapes Go.WideShapes Go.ChangeAt Go.WideMaps Go.WideElems Go.RowKit Go.Joins

theorem cellsBoth : Tryd.prog.cellsOf 39 = 3 := by kernel_rfl
set_option maxRecDepth 100000 in
theorem open_both {H : Type} {enc : TypeId × Value → H} {W : World} {r : Reach} {b0 : Nat} {v : Value} {d : DataW H} {p : List MemPlace} (hv : Value.okWide Tryd.prog W r b0 39 v)
    (h : DataW.Trod enc Tryd.prog W 0 (fun _ => true) true 39 v d p) (hw : ∀ z ∈ d.weights Tryd.prog 39, z ≤ reachBytes) :
    ∃ a1 n1 c1 l1 a2 n2 c2 l2 pages, v = .agg #[.slice a1 n1 c1, .slice a2 n2 c2, .int .i64 pages] ∧ RdA W (.slice a1 n1 c1) l1 ∧ l1.length ≤ 140737488351232 ∧ RdA W (.slice a2 n2 c2) l2 ∧ l2.length ≤ 140737488351232 ∧ (-9223372036854775808 ≤ pages ∧ pages ≤ 9223372036854775807) := by
  obtain ⟨cs, rfl, hsz⟩ := okWide_struct Tryd.underlying39 hv
  rw [cellsBoth] at hsz
  obtain ⟨fuel, hf0⟩ := h
  obtain ⟨xs, k', _, hxy, hcl, hxl, hf⟩ := DataW.trod_struct Tryd.underlying39 hf0
  obtain ⟨cl⟩ := cs
  simp only [Value.cells] at hf
  simp only [Prod.mk.injEq] at hxy
  match xs, hxl, cl, hsz with
  | [y0, y1, y2], _, [v0, v1, v2], _ =>
    have g0 := hf 0 _ rfl
    have g1 := hf 1 _ rfl
    have g2 := hf 2 _ rfl
    simp [cellsInt, cells_sl] at g0 g1 g2
    obtain ⟨k2, d2, rfl, w2⟩ := DataW.trod_int Tryd.underlying3 g2
    simp only [List.cons.injEq, and_true] at d2
    rw [hxy.1] at hw
    obtain ⟨a1, n1, c1, l1, rfl, hrd1, hl1⟩ := open_bytes k' v0 y0 g0 (fun z hz => hw z (by
      simp only [DataW.weights, Tryd.underlying39, List.map_cons, List.map_nil, DataW.weightsEach]
      simp [hz]))
    obtain ⟨a2, n2, c2, l2, rfl, hrd2, hl2⟩ := open_bytes k' v1 y1 g1 (fun z hz => hw z (by
      simp only [DataW.weights, Tryd.underlying39, List.map_cons, List.map_nil, DataW.weightsEach]
      simp [hz]))
    exact ⟨a1, n1, c1, l1, a2, n2, c2, l2, k2, by rw [d2], hrd1, hl1, hrd2, hl2, bounds_i64 w2⟩

end Go.Proofs.YtlopimdnjookeabDoor
