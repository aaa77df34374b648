import Derived.Test.YtagldlchamlpdaaDoorOpen8
namespace Go.Proofs.YtagldlchamlpdaaDoor
open Go.ChangeShapes Go.WideShapes Go.ChangeAt Go.WideMaps Go.WideElems Go.RowKit Go.Joins

set_option maxRecDepth 100000 in
theorem open_branch8 {H : Type} {enc : TypeId × Value → H} {W : World} {r : Reach} {b0 : Nat} {v : Value} {d : DataW H} {p : List MemPlace} (hv : Value.okWide Tryd.prog W r b0 27 v)
    (h : DataW.Trod enc Tryd.prog W 0 (fun _ => true) true 27 v d p) (hw : ∀ z ∈ d.weights Tryd.prog 27, z ≤ reachBytes) :
    ∃ (f : Int) (l : List Lk) (a : Option Addr) (c : Nat), v = .agg #[.int .i64 f, .slice a l.length c] ∧ LkR W (.slice a l.length c) l ∧ l.length ≤ 5864062014634 ∧ OkK l := by
  obtain ⟨cs, rfl, hsz⟩ := okWide_struct Tryd.underlying27 hv
  rw [cellsBranch] at hsz
  obtain ⟨fuel, hf0⟩ := h
  obtain ⟨xs, k', _, hxy, hcl, hxl, hf⟩ := DataW.trod_struct Tryd.underlying27 hf0
  obtain ⟨cl⟩ := cs
  simp only [Value.cells] at hf
  simp only [Prod.mk.injEq] at hxy
  match xs, hxl, cl, hsz with
  | [y0, y1], _, [v0, v1], _ =>
    have g0 := hf 0 _ rfl
    have g1 := hf 1 _ rfl
    simp [cells3, cellsLks] at g0 g1
    obtain ⟨m0, d0, rfl, _⟩ := DataW.trod_int Tryd.underlying3 g0
    simp only [List.cons.injEq, and_true] at d0
    rw [hxy.1] at hw
    obtain ⟨l, hr, hx⟩ := open_lks k' _ y1 g1
    obtain ⟨hl, hok⟩ := lks_weights hx (fun z hz => hw z (by simp [DataW.weights, Tryd.underlying27, DataW.weightsEach, hz]))
    obtain ⟨a, c, rfl⟩ := hr.form
    exact ⟨m0, l, a, c, by rw [d0], hr, hl, hok⟩

end Go.Proofs.YtagldlchamlpdaaDoor
