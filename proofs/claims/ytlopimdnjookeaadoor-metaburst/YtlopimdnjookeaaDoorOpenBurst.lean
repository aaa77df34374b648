import Derived.Test.YtlopimdnjookeaaDoorLaid5
import Derived.OpenShut
namespace Go.Proofs.YtlopimdnjookeaaDoor
open Go.ChangeShapes Go.WideShapes Go.ChangeAt Go.WideMaps Go.WideElems Go.RowKit Go.Joins

theorem cellsBurst : Tryd.prog.cellsOf 51 = 8 := by kernel_rfl
theorem cellsArr4 : Tryd.prog.cellsOf 49 = 4 := by kernel_rfl
theorem cellsOne5 : Tryd.prog.cellsOf 5 = 1 := by kernel_rfl

theorem open_u8 {H : Type} {enc : TypeId × Value → H} {W : World} {base : Nat} {sp : Nat → Bool} {held : Bool} {fuel : Nat} {v : Value} {x : DataW H × List MemPlace}
    (h : DataW.trod enc Tryd.prog W base sp held fuel 5 [v] = some x) : ∃ b : UInt8, v = .int .u8 (b.toNat : Int) ∧ x.2 = [] := by
  obtain ⟨k0, d0, rfl, w0⟩ := DataW.trod_int Tryd.underlying5 h
  have hb : 0 ≤ k0 ∧ k0 ≤ 255 := bounds_u8 w0
  refine ⟨UInt8.ofNat k0.toNat, ?_, rfl⟩
  simp only [List.cons.injEq, and_true] at d0
  rw [d0]
  simp only [UInt8.toNat_ofNat', Value.int.injEq, true_and]
  omega

set_option maxRecDepth 100000 in
theorem open_burst {H : Type} {enc : TypeId × Value → H} {W : World} {r : Reach} {b0 base : Nat} {sp : Nat → Bool} {held : Bool} {v : Value} {d : DataW H} {p : List MemPlace} (hv : Value.okWide Tryd.prog W r b0 51 v)
    (h : DataW.Trod enc Tryd.prog W base sp held 51 v d p) : ∃ (p' r' : Int) (t : Nat) (at' : Int) (b0 b1 b2 b3 : UInt8), v = .agg #[.int .i64 p', .int .i64 r', .int .u64 (t : Int), .int .i64 at', .int .u8 (b0.toNat : Int), .int .u8 (b1.toNat : Int), .int .u8 (b2.toNat : Int), .int .u8 (b3.toNat : Int)] ∧ p = [] ∧ (⟨p', r', t⟩ : Mt).num ∧
      -9223372036854775808 ≤ at' ∧ at' ≤ 9223372036854775807 := by
  obtain ⟨cs, rfl, hsz⟩ := okWide_struct Tryd.underlying51 hv
  rw [cellsBurst] at hsz
  obtain ⟨fuel, hf0⟩ := h
  obtain ⟨xs, k', _, hxy, hcl, hxl, hf⟩ := DataW.trod_struct Tryd.underlying51 hf0
  obtain ⟨cl⟩ := cs
  simp only [Value.cells] at hf
  simp only [Prod.mk.injEq] at hxy
  match xs, hxl, cl, hsz with
  | [y0, y1, y2], _, [v0, v1, v2, v3, v4, v5, v6, v7], _ =>
    have g0 := hf 0 _ rfl
    have g1 := hf 1 _ rfl
    have g2 := hf 2 _ rfl
    simp [cellsInt, cellsMt, cellsArr4] at g0 g1 g2
    obtain ⟨⟨p', r', t⟩, hs, rfl, hn⟩ := open_meta_c g0
    obtain ⟨k1, d1, rfl, w1⟩ := DataW.trod_int Tryd.underlying3 g1
    obtain ⟨zs, m2, _, hz, _, hzl, hel⟩ := DataW.trod_array Tryd.underlying49 g2
    match zs, hzl with
    | [z0, z1, z2, z3], _ =>
      have e0 := hel 0 (by decide)
      have e1 := hel 1 (by decide)
      have e2 := hel 2 (by decide)
      have e3 := hel 3 (by decide)
      simp [cellsOne5] at e0 e1 e2 e3
      obtain ⟨b0, rfl, q0⟩ := open_u8 e0
      obtain ⟨b1, rfl, q1⟩ := open_u8 e1
      obtain ⟨b2, rfl, q2⟩ := open_u8 e2
      obtain ⟨b3, rfl, q3⟩ := open_u8 e3
      simp only [Mt.cells, List.cons.injEq, and_true] at hs d1
      obtain ⟨rfl, rfl, rfl⟩ := hs
      subst d1
      have bb := bounds_i64 w1
      exact ⟨p', r', t, k1, b0, b1, b2, b3, rfl, by rw [hxy.2, hz]; simp [q0, q1, q2, q3], hn, bb.1, bb.2⟩

end Go.Proofs.YtlopimdnjookeaaDoor
