import Derived.Test.YtdacbajiapdiiaaDoorOpen7
namespace Go.Proofs.YtdacbajiapdiiaaDoor
open Go.ChangeShapes Go.WideShapes Go.ChangeAt Go.WideMaps Go.WideElems Go.RowKit Go.Joins

theorem cellsBackT : Tryd.prog.cellsOf 37 = 6 := by kernel_rfl
theorem cellsBodyT : Tryd.prog.cellsOf 35 = 2 := by kernel_rfl
set_option maxRecDepth 100000 in
theorem open_back {H : Type} {enc : TypeId × Value → H} {W : World} {r : Reach} {b0 : Nat} {v : Value} {d : DataW H} {p : List MemPlace} (hv : Value.okWide Tryd.prog W r b0 37 v)
    (h : DataW.Trod enc Tryd.prog W 0 (fun _ => true) true 37 v d p) (hw : ∀ z ∈ d.weights Tryd.prog 37, z ≤ reachBytes) :
    ∃ (l : List Pr) (a : Option Addr) (c : Nat) (key value s : ByteArray) (root : Bool) (cn : Int), v = .agg #[.slice a l.length c, .string key, .string value, .bool root, .int .i64 cn, .string s] ∧ PrR W (.slice a l.length c) l ∧ l.length ≤ 4398046510976 := by
  obtain ⟨cs, rfl, hsz⟩ := okWide_struct Tryd.underlying37 hv
  rw [cellsBackT] at hsz
  obtain ⟨fuel, hf0⟩ := h
  obtain ⟨xs, k', _, hxy, hcl, hxl, hf⟩ := DataW.trod_struct Tryd.underlying37 hf0
  obtain ⟨cl⟩ := cs
  simp only [Value.cells] at hf
  simp only [Prod.mk.injEq] at hxy
  match xs, hxl, cl, hsz with
  | [y0, y1], _, [v0, v1, v2, v3, v4, v5], _ =>
    have g0 := hf 0 _ rfl
    have g1 := hf 1 _ rfl
    simp [cellsAsked, cellsBodyT] at g0 g1
    obtain ⟨xs0, k0, _, hxy0, _, hxl0, hf00⟩ := DataW.trod_struct Tryd.underlying24 g0
    obtain ⟨xs1, k1, _, hxy1, _, hxl1, hf11⟩ := DataW.trod_struct Tryd.underlying35 g1
    rw [hxy.1] at hw
    match xs0, hxl0, xs1, hxl1 with
    | [z0, z1, z2, z3], _, [z4, z5], _ =>
      have e0 := hf00 0 _ rfl
      have e1 := hf00 1 _ rfl
      have e2 := hf00 2 _ rfl
      have e3 := hf00 3 _ rfl
      have e4 := hf11 0 _ rfl
      have e5 := hf11 1 _ rfl
      simp [cells9, cells4, cells3, cellsPrs] at e0 e1 e2 e3 e4 e5
      obtain ⟨s1, d1, rfl, w1⟩ := DataW.trod_string Tryd.underlying9 e1
      obtain ⟨s2, d2, rfl, w2⟩ := DataW.trod_string Tryd.underlying9 e2
      obtain ⟨b3, d3, rfl, w3⟩ := DataW.trod_bool Tryd.underlying4 e3
      obtain ⟨n4, d4, rfl, w4⟩ := DataW.trod_int Tryd.underlying3 e4
      obtain ⟨s5, d5, rfl, w5⟩ := DataW.trod_string Tryd.underlying9 e5
      simp only [List.cons.injEq, and_true] at d1 d2 d3 d4 d5
      obtain ⟨l, hr, hl, hok⟩ := open_prs k0 v0 z0 e0 (fun z hz => hw z (by
        rw [hxy0]
        simp [DataW.weights, Tryd.underlying37, Tryd.underlying24, DataW.weightsEach, hz]))
      obtain ⟨a, c, rfl⟩ := hr.form
      exact ⟨l, a, c, s1, s2, s5, b3, n4, by rw [d1, d2, d3, d4, d5], hr, hl⟩

end Go.Proofs.YtdacbajiapdiiaaDoor
