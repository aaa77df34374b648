import Derived.Test.YtiihnoohodklhaaDoorDO
import Derived.Test.YtiihnoohodklhaaDoorFLaw
import Derived.Lib.LaidTab
namespace Go.Proofs.YtiihnoohodklhaaDoor
open Go.ChangeShapes Go.WideShapes Go.ChangeAt Go.WideMaps Go.WideElems Go.RowKit Go.Joins

theorem gTab : Tryd.prog.globalNamed "copse/codec.halfByteSteps" = some 13 := by kernel_rfl
theorem tTab : (Tryd.prog.globals[13]?).map (·.type) = some 63 := by kernel_rfl
theorem cells32 : Tryd.prog.cellsOf 27 = 1 := by kernel_rfl
theorem cellsTab : Tryd.prog.cellsOf 63 = 16 := by kernel_rfl
theorem cellsU64 : Tryd.prog.cellsOf 22 = 1 := by kernel_rfl
theorem cellsSeal : Tryd.prog.cellsOf 25 = 3 := by kernel_rfl
def isTab (x : String × DataW Unit) : Bool := x.1 == "copse/codec.halfByteSteps"
theorem tab_of_laid {W : World} (h : laidMet Tryd.prog [("copse/codec.halfByteSteps", Rows.laid_copse_codec_halfByteSteps)] W) : Tab W := by
  have e : (Rows.laid_copse_codec_halfByteSteps : DataW Unit) = Lib.tabData .u32 (tabL.map Int.ofNat) := by simp [Rows.laid_copse_codec_halfByteSteps, Lib.tabData, tabL]
  rw [e] at h
  have hv := Lib.tabIs_of_head gTab tTab Tryd.underlying63 Tryd.underlying27 cells32 cellsTab h
  have hc := World.var?_cell gTab hv
  have h16 : ∀ j, j < 16 → W.cell? ⟨13, j, none⟩ = some (.int .u32 (tab j : Nat)) := by
    intro j hj
    have h1 := hc j
    rw [h1]
    have : ∀ i : Fin 16, ((tabL.map Int.ofNat).map fun z => Value.int .u32 z).toArray[i.1]? = some (.int .u32 ((tab i.1 : Nat) : Int)) := by
      intro i
      simp only [List.map_map, List.getElem?_toArray, List.getElem?_map]
      have hi : i.1 < tabL.length := i.2
      rw [List.getElem?_eq_getElem hi]
      simp only [Option.map_some, Function.comp]
      unfold tab
      rw [List.getD, List.getElem?_eq_getElem hi]
      rfl
    exact this ⟨j, hj⟩
  refine ⟨h16, ?_⟩
  exact World.block_lt_of_cell? W _ (h16 0 (by decide))

theorem nat_u64 {n : Int} (h : (Lit.int .u64 n).wf = true) : ∃ k : Nat, n = (k : Int) ∧ k < 18446744073709551616 := by
  have h2 := bounds_u64 h
  exact ⟨n.toNat, by omega, by omega⟩
set_option maxRecDepth 100000 in
set_option maxHeartbeats 1000000 in
theorem open_chsS {H : Type} {enc : TypeId × Value → H} {W : World} (fuel : Nat) (v : Value) (x : DataW H × List MemPlace)
    (h : DataW.trod enc Tryd.prog W 0 (fun _ => true) true fuel 23 [v] = some x) (hb : Rows.uptoBulk x.1 ≤ 1048576) : ∃ l : List Ch, ChR W v l ∧ l.length ≤ 1048576 ∧ ∀ c ∈ l, c.1.size ≤ 1048576 ∧ c.2.old.size ≤ 1048576 ∧ c.2.new.size ≤ 1048575 := by
  obtain ⟨a, g, off, len, cap, k, rfl, hlc, hl, hz, ha, hel⟩ := open_slB Tryd.underlying23 cellsCh (by decide) fuel v x h hb
  have each : ∀ i, i < len → ∃ q : Ch, (q.1.size ≤ 1048576 ∧ q.2.old.size ≤ 1048576 ∧ q.2.new.size ≤ 1048575) ∧ ChAt W g (off + i * 5) q := by
    intro i hi
    obtain ⟨cs, y, hc, hcell, h3, h4⟩ := hel i hi
    obtain ⟨xs, k2, hk, hxy, _, hxl, hf⟩ := DataW.trod_struct Tryd.underlying39 h3
    match xs, hxl, cs, hc with
    | [y0, y1, y2, y3, y4], _, [v0, v1, v2, v3, v4], _ =>
      have g0 := hf 0 _ rfl
      have g1 := hf 1 _ rfl
      have g2 := hf 2 _ rfl
      have g3 := hf 3 _ rfl
      have g4 := hf 4 _ rfl
      simp [cells9, cells4] at g0 g1 g2 g3 g4
      obtain ⟨t0, d0, rfl, w0⟩ := DataW.trod_string Tryd.underlying9 g0
      obtain ⟨b1, d1, rfl⟩ := DataW.trod_bool Tryd.underlying4 g1
      obtain ⟨b2, d2, rfl⟩ := DataW.trod_bool Tryd.underlying4 g2
      obtain ⟨t3, d3, rfl, w3⟩ := DataW.trod_string Tryd.underlying9 g3
      obtain ⟨t4, d4, rfl, w4⟩ := DataW.trod_string Tryd.underlying9 g4
      simp only [List.cons.injEq, and_true] at d0 d1 d2 d3 d4
      subst d0 d1 d2 d3 d4
      rw [hxy] at h4
      simp only [List.map_cons, List.map_nil, Rows.uptoBulk, Rows.uptoBulkAll] at h4
      have z0 := bsize t0
      have z3 := bsize t3
      have z4 := bsize t4
      exact ⟨(t0, ⟨b1, b2, t3, t4⟩), ⟨by show t0.size ≤ _; omega, by show t3.size ≤ _; omega, by show t4.size ≤ _; omega⟩, hcell 0 _ rfl, hcell 1 _ rfl, hcell 2 _ rfl, hcell 3 _ rfl, hcell 4 _ rfl⟩
  obtain ⟨q, hq⟩ := Deep.choose_lt (α := Ch) each
  refine ⟨(List.range len).map q, ⟨a, cap, by simp, by simpa using hlc, hz, fun i hi => ?_⟩, by simpa using hl, fun f hf => ?_⟩
  · have hi' : i < len := by simpa using hi
    have e : ((List.range len).map q)[i] = q i := by simp
    rw [e]
    exact ⟨g, off, ha (by omega), (hq i hi').2⟩
  · obtain ⟨i, hi, rfl⟩ := List.mem_map.1 hf
    exact (hq i (List.mem_range.1 hi)).1
set_option maxRecDepth 100000 in
theorem open_seal {H : Type} {enc : TypeId × Value → H} {W : World} {r : Reach} {b0 : Nat} {v : Value} {d : DataW H} {p : List MemPlace} (hv : Value.okWide Tryd.prog W r b0 25 v)
    (h : DataW.Trod enc Tryd.prog W 0 (fun _ => true) true 25 v d p) (hb : Rows.uptoBulk d ≤ 1048576) :
    ∃ (fr tt : Nat) (vL : Value) (l : List Ch), v = .agg #[.int .u64 (fr : Int), .int .u64 (tt : Int), vL] ∧ ChR W vL l ∧ (∀ c ∈ l, c.1.size ≤ 1048576 ∧ c.2.old.size ≤ 1048576 ∧ c.2.new.size ≤ 1048575) ∧ l.length ≤ 1048576 ∧ fr < 18446744073709551616 ∧ tt < 18446744073709551616 := by
  obtain ⟨cs, rfl, hsz⟩ := okWide_struct Tryd.underlying25 hv
  rw [cellsSeal] at hsz
  obtain ⟨fuel, hf0⟩ := h
  obtain ⟨xs, k', _, hxy, hcl, hxl, hf⟩ := DataW.trod_struct Tryd.underlying25 hf0
  obtain ⟨cl⟩ := cs
  simp only [Value.cells] at hf
  simp only [Prod.mk.injEq] at hxy
  match xs, hxl, cl, hsz with
  | [y0, y1, y2], _, [v0, v1, v2], _ =>
    have g0 := hf 0 _ rfl
    have g1 := hf 1 _ rfl
    have g2 := hf 2 _ rfl
    simp [cellsU64, cellsChs] at g0 g1 g2
    rw [hxy.1] at hb
    simp only [List.map_cons, List.map_nil, Rows.uptoBulk, Rows.uptoBulkAll] at hb
    obtain ⟨n0, d0, rfl, w0⟩ := DataW.trod_int Tryd.underlying22 g0
    obtain ⟨n1, d1, rfl, w1⟩ := DataW.trod_int Tryd.underlying22 g1
    simp only [List.cons.injEq, and_true] at d0 d1
    subst d0 d1
    obtain ⟨fr, rfl, hfr⟩ := nat_u64 w0
    obtain ⟨tt, rfl, htt⟩ := nat_u64 w1
    obtain ⟨lc, rc, nc, oc⟩ := open_chsS k' _ y2 g2 (by omega)
    exact ⟨fr, tt, v2, lc, rfl, rc, oc, nc, hfr, htt⟩
end Go.Proofs.YtiihnoohodklhaaDoor
