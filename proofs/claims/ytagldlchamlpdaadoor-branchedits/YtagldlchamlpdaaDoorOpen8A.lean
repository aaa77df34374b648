import Derived.Test.YtagldlchamlpdaaDoorOpen8
namespace Go.Proofs.YtagldlchamlpdaaDoor
open Go.ChangeShapes Go.WideShapes Go.ChangeAt Go.WideMaps Go.WideElems Go.RowKit Go.Joins

theorem cellsAsked : Tryd.prog.cellsOf 55 = 7 := by kernel_rfl
set_option maxRecDepth 100000 in
theorem open_asked8 {H : Type} {enc : TypeId × Value → H} {W : World} {r : Reach} {b0 : Nat} {v : Value} {d : DataW H} {p : List MemPlace} (hv : Value.okWide Tryd.prog W r b0 55 v)
    (h : DataW.Trod enc Tryd.prog W 0 (fun _ => true) true 55 v d p) (hw : ∀ z ∈ d.weights Tryd.prog 55, z ≤ reachBytes) :
    ∃ (f : Int) (l : List Lk) (a : Option Addr) (c : Nat) (key lk : ByteArray) (i lc : Int) (root : Bool), v = .agg #[.int .i64 f, .slice a l.length c, .string key, .int .i64 i, .string lk, .int .i64 lc, .bool root] ∧ LkR W (.slice a l.length c) l ∧ l.length ≤ 5864062014634 ∧ OkK l ∧ (-9223372036854775808 ≤ i ∧ i ≤ 9223372036854775807) := by
  obtain ⟨cs, rfl, hsz⟩ := okWide_struct Tryd.underlying55 hv
  rw [cellsAsked] at hsz
  obtain ⟨fuel, hf0⟩ := h
  obtain ⟨xs, k', _, hxy, hcl, hxl, hf⟩ := DataW.trod_struct Tryd.underlying55 hf0
  obtain ⟨cl⟩ := cs
  simp only [Value.cells] at hf
  simp only [Prod.mk.injEq] at hxy
  match xs, hxl, cl, hsz with
  | [y0, y1, y2, y3, y4], _, [v0, v1, v2, v3, v4, v5, v6], _ =>
    have g0 := hf 0 _ rfl
    have g1 := hf 1 _ rfl
    have g2 := hf 2 _ rfl
    have g3 := hf 3 _ rfl
    have g4 := hf 4 _ rfl
    simp [cells9, cells3, cells4, cellsBranch, cellsLink] at g0 g1 g2 g3 g4
    obtain ⟨xs0, k0, _, hxy0, _, hxl0, hf00⟩ := DataW.trod_struct Tryd.underlying27 g0
    obtain ⟨xs1, k1, _, hxy1, _, hxl1, hf11⟩ := DataW.trod_struct Tryd.underlying35 g3
    obtain ⟨s1, d1, rfl, w1⟩ := DataW.trod_string Tryd.underlying9 g1
    obtain ⟨m2, d2, rfl, w2⟩ := DataW.trod_int Tryd.underlying3 g2
    obtain ⟨b4, d4, rfl, w4⟩ := DataW.trod_bool Tryd.underlying4 g4
    rw [hxy.1] at hw
    match xs0, hxl0, xs1, hxl1 with
    | [z0, z1], _, [z2, z3], _ =>
      have e0 := hf00 0 _ rfl
      have e1 := hf00 1 _ rfl
      have e2 := hf11 0 _ rfl
      have e3 := hf11 1 _ rfl
      simp [cells3, cells9, cellsLks] at e0 e1 e2 e3
      obtain ⟨m0, d5, rfl, _⟩ := DataW.trod_int Tryd.underlying3 e0
      obtain ⟨s6, d6, rfl, _⟩ := DataW.trod_string Tryd.underlying9 e2
      obtain ⟨m7, d7, rfl, _⟩ := DataW.trod_int Tryd.underlying3 e3
      simp only [List.cons.injEq, and_true] at d1 d2 d4 d5 d6 d7
      obtain ⟨l, hr, hx⟩ := open_lks k0 _ z1 e1
      obtain ⟨hl, hok⟩ := lks_weights hx (fun z hz => hw z (by
        rw [hxy0]
        simp [DataW.weights, Tryd.underlying55, Tryd.underlying27, DataW.weightsEach, hz]))
      obtain ⟨a, c, rfl⟩ := hr.form
      exact ⟨m0, l, a, c, s1, s6, m2, m7, b4, by rw [d1, d2, d4, d5, d6, d7], hr, hl, hok, bounds_i64 w2⟩

end Go.Proofs.YtagldlchamlpdaaDoor
