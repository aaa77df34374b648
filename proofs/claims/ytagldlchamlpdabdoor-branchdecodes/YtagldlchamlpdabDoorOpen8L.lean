import Derived.Test.YtagldlchamlpdabDoorOpen8
namespace Go.Proofs.YtagldlchamlpdabDoor
open Go.ChangeShapes Go.WideShapes Go.ChangeAt Go.WideMaps Go.WideElems Go.RowKit Go.Joins

theorem cellsLaid : Tryd.prog.cellsOf 23 = 2 := by kernel_rfl
set_option maxRecDepth 100000 in
theorem open_laid8 {H : Type} {enc : TypeId × Value → H} {W : World} {r : Reach} {b0 : Nat} {v : Value} {d : DataW H} {p : List MemPlace} (hv : Value.okWide Tryd.prog W r b0 23 v)
    (h : DataW.Trod enc Tryd.prog W 0 (fun _ => true) true 23 v d p) (_hw : ∀ z ∈ d.weights Tryd.prog 23, z ≤ reachBytes) :
    ∃ (c : Int) (s : ByteArray), v = .agg #[.int .i64 c, .string s] := by
  obtain ⟨cs, rfl, hsz⟩ := okWide_struct Tryd.underlying23 hv
  rw [cellsLaid] at hsz
  obtain ⟨fuel, hf0⟩ := h
  obtain ⟨xs, k', _, hxy, hcl, hxl, hf⟩ := DataW.trod_struct Tryd.underlying23 hf0
  obtain ⟨cl⟩ := cs
  simp only [Value.cells] at hf
  match xs, hxl, cl, hsz with
  | [y0, y1], _, [v0, v1], _ =>
    have g0 := hf 0 _ rfl
    have g1 := hf 1 _ rfl
    simp [cells3, cells9] at g0 g1
    obtain ⟨k0, d0, rfl, w0⟩ := DataW.trod_int Tryd.underlying3 g0
    obtain ⟨s, d1, rfl, w1⟩ := DataW.trod_string Tryd.underlying9 g1
    simp only [List.cons.injEq, and_true] at d0 d1
    exact ⟨k0, s, by rw [d0, d1]⟩

end Go.Proofs.YtagldlchamlpdabDoor
