import Derived.Test.YtagldlchamlpdaaDoorOpen8
namespace Go.Proofs.YtagldlchamlpdaaDoor
open Go.ChangeShapes Go.WideShapes Go.ChangeAt Go.WideMaps Go.WideElems Go.RowKit Go.Joins

theorem cellsTwo : Tryd.prog.cellsOf 43 = 5 := by kernel_rfl
set_option maxRecDepth 100000 in
theorem open_two {H : Type} {enc : TypeId × Value → H} {W : World} {r : Reach} {b0 : Nat} {v : Value} {d : DataW H} {p : List MemPlace} (hv : Value.okWide Tryd.prog W r b0 43 v)
    (h : DataW.Trod enc Tryd.prog W 0 (fun _ => true) true 43 v d p) (hb : Rows.uptoBulk d ≤ 1048576) :
    ∃ (fa fb : Int) (la lb : List Lk) (a1 a2 : Option Addr) (c1 c2 : Nat) (key : ByteArray), v = .agg #[.int .i64 fa, .slice a1 la.length c1, .string key, .int .i64 fb, .slice a2 lb.length c2] ∧ LkR W (.slice a1 la.length c1) la ∧ LkR W (.slice a2 lb.length c2) lb ∧ la.length ≤ 1048576 ∧ lb.length ≤ 1048576 ∧ OkK la ∧ OkK lb := by
  obtain ⟨cs, rfl, hsz⟩ := okWide_struct Tryd.underlying43 hv
  rw [cellsTwo] at hsz
  obtain ⟨fuel, hf0⟩ := h
  obtain ⟨xs, k', _, hxy, hcl, hxl, hf⟩ := DataW.trod_struct Tryd.underlying43 hf0
  obtain ⟨cl⟩ := cs
  simp only [Value.cells] at hf
  simp only [Prod.mk.injEq] at hxy
  match xs, hxl, cl, hsz with
  | [y0, y1, y2], _, [v0, v1, v2, v3, v4], _ =>
    have g0 := hf 0 _ rfl
    have g1 := hf 1 _ rfl
    have g2 := hf 2 _ rfl
    simp [cells9, cellsBranch] at g0 g1 g2
    obtain ⟨xs0, k0, _, hxy0, _, hxl0, hf00⟩ := DataW.trod_struct Tryd.underlying27 g0
    obtain ⟨xs1, k1, _, hxy1, _, hxl1, hf11⟩ := DataW.trod_struct Tryd.underlying27 g2
    obtain ⟨s1, d1, rfl, w1⟩ := DataW.trod_string Tryd.underlying9 g1
    rw [hxy.1] at hb
    match xs0, hxl0, xs1, hxl1 with
    | [z0, z1], _, [z2, z3], _ =>
      have e0 := hf00 0 _ rfl
      have e1 := hf00 1 _ rfl
      have e2 := hf11 0 _ rfl
      have e3 := hf11 1 _ rfl
      simp [cells3, cellsLks] at e0 e1 e2 e3
      obtain ⟨m0, d2, rfl, _⟩ := DataW.trod_int Tryd.underlying3 e0
      obtain ⟨m1, d3, rfl, _⟩ := DataW.trod_int Tryd.underlying3 e2
      simp only [List.cons.injEq, and_true] at d1 d2 d3
      rw [hxy0, hxy1] at hb
      simp only [List.map_cons, List.map_nil, Rows.uptoBulk, Rows.uptoBulkAll] at hb
      obtain ⟨la, ra, xa⟩ := open_lks k0 _ z1 e1
      obtain ⟨lb, rb, xb⟩ := open_lks k1 _ z3 e3
      obtain ⟨ha1, ha2⟩ := lks_bulk xa (by omega)
      obtain ⟨hb1, hb2⟩ := lks_bulk xb (by omega)
      obtain ⟨a1, c1, rfl⟩ := ra.form
      obtain ⟨a2, c2, rfl⟩ := rb.form
      exact ⟨m0, m1, la, lb, a1, a2, c1, c2, s1, by rw [d1, d2, d3], ra, rb, ha1, hb1, ha2, hb2⟩

end Go.Proofs.YtagldlchamlpdaaDoor
