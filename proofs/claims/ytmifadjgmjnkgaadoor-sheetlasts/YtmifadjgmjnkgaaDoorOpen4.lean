import Derived.Test.YtmifadjgmjnkgaaDoorLaid4
namespace Go.Proofs.YtmifadjgmjnkgaaDoor
open Go.ChangeShapes Go.WideShapes Go.ChangeAt Go.WideMaps Go.WideElems Go.RowKit Go.Joins

theorem cells9 : Tryd.prog.cellsOf 9 = 1 := by kernel_rfl
theorem cells64 : Tryd.prog.cellsOf 29 = 1 := by kernel_rfl
theorem cellsSheet : Tryd.prog.cellsOf 31 = 5 := by kernel_rfl
theorem cellsMarred : Tryd.prog.cellsOf 46 = 8 := by kernel_rfl
theorem cellsByt : Tryd.prog.cellsOf 60 = 2 := by kernel_rfl

def Sh.dat {H : Type} (s : Sh) : DataW H := .agg [.lit (.int .i64 s.kind), .lit (.int .i64 s.id), .lit (.int .u64 (s.txid : Int)), .lit (.int .i64 s.count), .lit (.string s.body.data.toList)]

set_option maxRecDepth 100000 in
theorem open_sheet_c {H : Type} {enc : TypeId × Value → H} {W : World} {base : Nat} {sp : Nat → Bool} {held : Bool} {fuel : Nat} {cs : List Value} {x : DataW H × List MemPlace}
    (h : DataW.trod enc Tryd.prog W base sp held fuel 31 cs = some x) : ∃ s : Sh, cs = s.cells ∧ x = (s.dat, []) ∧ s.num := by
  obtain ⟨xs, k', _, hxy, hcl, hxl, hf⟩ := DataW.trod_struct Tryd.underlying31 h
  rw [cellsSheet] at hcl
  match xs, hxl, cs, hcl with
  | [y0, y1, y2, y3, y4], _, [v0, v1, v2, v3, v4], _ =>
    have g0 := hf 0 _ rfl
    have g1 := hf 1 _ rfl
    have g2 := hf 2 _ rfl
    have g3 := hf 3 _ rfl
    have g4 := hf 4 _ rfl
    simp [cellsInt, cells64, cells9] at g0 g1 g2 g3 g4
    obtain ⟨k0, d0, rfl, w0⟩ := DataW.trod_int Tryd.underlying3 g0
    obtain ⟨k1, d1, rfl, w1⟩ := DataW.trod_int Tryd.underlying3 g1
    obtain ⟨k2, d2, rfl, w2⟩ := DataW.trod_int Tryd.underlying29 g2
    obtain ⟨k3, d3, rfl, w3⟩ := DataW.trod_int Tryd.underlying3 g3
    obtain ⟨b, d4, rfl, w4⟩ := DataW.trod_string Tryd.underlying9 g4
    simp only [List.cons.injEq, and_true] at d0 d1 d2 d3 d4
    subst d0 d1 d2 d3 d4
    obtain ⟨q1, q2⟩ := bounds_u64 w2
    obtain ⟨t, rfl⟩ := Int.eq_ofNat_of_zero_le q1
    have b0 := bounds_i64 w0
    have b1 := bounds_i64 w1
    have b3 := bounds_i64 w3
    exact ⟨⟨k0, k1, t, k3, b⟩, rfl, by rw [hxy]; rfl, b0.1, b0.2, b1.1, b1.2, by show t < _; omega, b3.1, b3.2⟩

set_option maxRecDepth 100000 in
theorem open_sheet {H : Type} {enc : TypeId × Value → H} {W : World} {r : Reach} {b0 base : Nat} {sp : Nat → Bool} {held : Bool} {v : Value} {d : DataW H} {p : List MemPlace} (hv : Value.okWide Tryd.prog W r b0 31 v)
    (h : DataW.Trod enc Tryd.prog W base sp held 31 v d p) : ∃ s : Sh, v = .agg s.cells.toArray ∧ d = s.dat ∧ p = [] ∧ s.num := by
  obtain ⟨cs, rfl, hsz⟩ := okWide_struct Tryd.underlying31 hv
  obtain ⟨fuel, hf0⟩ := h
  obtain ⟨s, hs, hx, hn⟩ := open_sheet_c hf0
  obtain ⟨cl⟩ := cs
  simp only [Value.cells] at hs
  simp only [Prod.mk.injEq] at hx
  exact ⟨s, by rw [← hs], hx.1, hx.2, hn⟩

set_option maxRecDepth 100000 in
theorem open_marred {H : Type} {enc : TypeId × Value → H} {W : World} {r : Reach} {b0 base : Nat} {sp : Nat → Bool} {held : Bool} {v : Value} {d : DataW H} {p : List MemPlace} (hv : Value.okWide Tryd.prog W r b0 46 v)
    (h : DataW.Trod enc Tryd.prog W base sp held 46 v d p) : ∃ (s : Sh) (id at' : Int) (turn : Nat), v = .agg #[.int .i64 s.kind, .int .i64 s.id, .int .u64 (s.txid : Int), .int .i64 s.count, .string s.body, .int .i64 id, .int .i64 at', .int .u32 (turn : Int)] ∧ d = .agg [s.dat, .lit (.int .i64 id), .lit (.int .i64 at'), .lit (.int .u32 (turn : Int))] ∧ p = [] ∧ s.num ∧
      (-9223372036854775808 ≤ id ∧ id ≤ 9223372036854775807) ∧ (-9223372036854775808 ≤ at' ∧ at' ≤ 9223372036854775807) ∧ turn < 4294967296 := by
  obtain ⟨cs, rfl, hsz⟩ := okWide_struct Tryd.underlying46 hv
  rw [cellsMarred] at hsz
  obtain ⟨fuel, hf0⟩ := h
  obtain ⟨xs, k', _, hxy, hcl, hxl, hf⟩ := DataW.trod_struct Tryd.underlying46 hf0
  obtain ⟨cl⟩ := cs
  simp only [Value.cells] at hf
  simp only [Prod.mk.injEq] at hxy
  match xs, hxl, cl, hsz with
  | [y0, y1, y2, y3], _, [v0, v1, v2, v3, v4, v5, v6, v7], _ =>
    have g0 := hf 0 _ rfl
    have g1 := hf 1 _ rfl
    have g2 := hf 2 _ rfl
    have g3 := hf 3 _ rfl
    simp [cellsInt, cells32, cellsSheet] at g0 g1 g2 g3
    obtain ⟨s, hs, rfl, hn⟩ := open_sheet_c g0
    obtain ⟨k1, d1, rfl, w1⟩ := DataW.trod_int Tryd.underlying3 g1
    obtain ⟨k2, d2, rfl, w2⟩ := DataW.trod_int Tryd.underlying3 g2
    obtain ⟨k3, d3, rfl, w3⟩ := DataW.trod_int Tryd.underlying44 g3
    simp only [Sh.cells, List.cons.injEq, and_true] at hs d1 d2 d3
    obtain ⟨rfl, rfl, rfl, rfl, rfl⟩ := hs
    subst d1 d2 d3
    obtain ⟨q1, q2⟩ := bounds_u32 w3
    obtain ⟨t, rfl⟩ := Int.eq_ofNat_of_zero_le q1
    exact ⟨s, k1, k2, t, rfl, by rw [hxy.1]; rfl, by rw [hxy.2]; rfl, hn, bounds_i64 w1, bounds_i64 w2, by omega⟩

set_option maxRecDepth 100000 in
theorem open_byt {H : Type} {enc : TypeId × Value → H} {W : World} {r : Reach} {b0 base : Nat} {sp : Nat → Bool} {held : Bool} {v : Value} {d : DataW H} {p : List MemPlace} (hv : Value.okWide Tryd.prog W r b0 60 v)
    (h : DataW.Trod enc Tryd.prog W base sp held 60 v d p) : ∃ (s : ByteArray) (id : Int), v = .agg #[.string s, .int .i64 id] ∧ d = .agg [.lit (.string s.data.toList), .lit (.int .i64 id)] ∧ p = [] ∧ (-9223372036854775808 ≤ id ∧ id ≤ 9223372036854775807) := by
  obtain ⟨c0, c1, y0, y1, m, rfl, rfl, rfl, hy0, hy1⟩ := open_agg2 Tryd.underlying60 (by kernel_rfl) cellsByt hv h
  obtain ⟨s, e0, rfl, hs⟩ := DataW.trod_string Tryd.underlying9 hy0
  obtain ⟨t, e1, rfl, wt⟩ := DataW.trod_int Tryd.underlying3 hy1
  simp only [List.cons.injEq, and_true] at e0 e1
  subst e0 e1
  exact ⟨s, t, rfl, rfl, rfl, bounds_i64 wt⟩

end Go.Proofs.YtmifadjgmjnkgaaDoor
