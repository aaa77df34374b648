import Derived.Test.YtlopimdnjookeaaDoorTnLaw2
import Derived.Test.YtlopimdnjookeaaDoorOpen5
namespace Go.Proofs.YtlopimdnjookeaaDoor
open Go.ChangeShapes Go.WideShapes Go.ChangeAt Go.WideMaps Go.WideElems Go.RowKit Go.Joins

/-- As open_rowz, with the row's weight. -/
theorem open_roww {H : Type} {enc : TypeId × Value → H} {W : World} {t e : TypeId} {size bs : Nat} (hu : Tryd.prog.underlying t = some (.slice e)) (hc : Tryd.prog.cellsOf e = size) (hy : Tryd.prog.bytesOf e = bs) (hp : 0 < size) (hq : 0 < bs) (R : List Value → Prop)
    (fuel : Nat) (v : Value) (x : DataW H × List MemPlace) (h : DataW.trod enc Tryd.prog W 0 (fun _ => true) true fuel t [v] = some x) (hw : ∀ z ∈ x.1.weights Tryd.prog t, z ≤ reachBytes)
    (each : ∀ k cs y, DataW.trod enc Tryd.prog W 0 (fun _ => true) true k e cs = some y → cs.length = size → (∀ z ∈ y.1.weights Tryd.prog e, z ≤ reachBytes) → R cs) :
    ∃ (a : Option Addr) (len cap : Nat), v = .slice a len cap ∧ len * bs ≤ reachBytes ∧
      ∀ i, i < len → ∃ g off cs, a = some ⟨g, off, none⟩ ∧ g < W.heap.size ∧ R cs ∧ cs.length = size ∧ ∀ j, j < size → W.cell? ⟨g, off + i * size + j, none⟩ = cs[j]? := by
  obtain ⟨a, len, cap, hv, hl, hr⟩ := open_rowz hu hc hy hp hq R fuel v x h hw each
  refine ⟨a, len, cap, hv, ?_, hr⟩
  rcases DataW.trod_slice hu h with ⟨h0, _⟩ | ⟨a', len', cap', elems, rest, n, hn, hv', hx, _, hl', hm, hlen, hel, _⟩
  · simp only [List.cons.injEq, and_true] at h0
    rw [hv] at h0
    cases h0
    simp [reach_val]
  · simp only [List.cons.injEq, and_true] at hv'
    rw [hv] at hv'
    cases hv'
    subst hx
    have hwt : (elems.length + rest.length) * bs ≤ reachBytes := hw _ (by
      simp only [DataW.weights, hu, hy, List.length_map]
      exact List.mem_cons_self)
    exact Nat.le_trans (Nat.mul_le_mul_right bs (by omega)) hwt

theorem cellsFate : Tryd.prog.cellsOf 80 = 4 := by kernel_rfl
theorem bytesFate : Tryd.prog.bytesOf 80 = 40 := by kernel_rfl
theorem cellsFates : Tryd.prog.cellsOf 24 = 1 := by kernel_rfl
theorem cellsInts : Tryd.prog.cellsOf 23 = 1 := by kernel_rfl
theorem bytesInt : Tryd.prog.bytesOf 3 = 8 := by kernel_rfl
theorem cellsTurns : Tryd.prog.cellsOf 26 = 4 := by kernel_rfl

set_option maxRecDepth 100000 in
theorem open_fates {H : Type} {enc : TypeId × Value → H} {W : World} (fuel : Nat) (v : Value) (x : DataW H × List MemPlace)
    (h : DataW.trod enc Tryd.prog W 0 (fun _ => true) true fuel 24 [v] = some x) (hw : ∀ z ∈ x.1.weights Tryd.prog 24, z ≤ reachBytes) : ∃ a m c, v = .slice a m c ∧ m * 40 ≤ 140737488355328 ∧ V.FatesR W v := by
  obtain ⟨a, len, cap, hv, hl, hc⟩ := open_roww Tryd.underlying24 cellsFate bytesFate (by decide) (by decide) (fun cs => ∃ fi fk fc fj, cs = [.int .i64 fi, .int .i64 fk, .int .i64 fc, .string fj]) fuel v x h hw (by
    intro k cs y hy hcl _
    obtain ⟨xs, k', _, hxy, _, hxl, hf⟩ := DataW.trod_struct Tryd.underlying80 hy
    match xs, hxl, cs, hcl with
    | [y0, y1, y2, y3], _, [v0, v1, v2, v3], _ =>
      have g0 := hf 0 _ rfl
      have g1 := hf 1 _ rfl
      have g2 := hf 2 _ rfl
      have g3 := hf 3 _ rfl
      simp [cellsInt, cells9] at g0 g1 g2 g3
      obtain ⟨k0, d0, rfl, w0⟩ := DataW.trod_int Tryd.underlying3 g0
      obtain ⟨k1, d1, rfl, w1⟩ := DataW.trod_int Tryd.underlying3 g1
      obtain ⟨k2, d2, rfl, w2⟩ := DataW.trod_int Tryd.underlying3 g2
      obtain ⟨b, d3, rfl, w3⟩ := DataW.trod_string Tryd.underlying9 g3
      simp only [List.cons.injEq, and_true] at d0 d1 d2 d3
      exact ⟨k0, k1, k2, b, by rw [d0, d1, d2, d3]⟩)
  rw [reach_val] at hl
  refine ⟨a, len, cap, hv, by omega, a, len, cap, hv, by omega, fun k hk => ?_⟩
  obtain ⟨g, off, cs, ha, hg, ⟨fi, fk, fc, fj, rfl⟩, _, hcell⟩ := hc k hk
  exact ⟨g, off, fi, fk, fc, fj, ha, hg, hcell 0 (by omega), hcell 1 (by omega), hcell 2 (by omega), hcell 3 (by omega)⟩

set_option maxRecDepth 100000 in
theorem open_roots {H : Type} {enc : TypeId × Value → H} {W : World} (fuel : Nat) (v : Value) (x : DataW H × List MemPlace)
    (h : DataW.trod enc Tryd.prog W 0 (fun _ => true) true fuel 23 [v] = some x) (hw : ∀ z ∈ x.1.weights Tryd.prog 23, z ≤ reachBytes) : ∃ a m c, v = .slice a m c ∧ m ≤ 140737488355328 ∧ RootsR W a m := by
  obtain ⟨a, len, cap, hv, hl, hc⟩ := open_rowz Tryd.underlying23 cellsInt bytesInt (by decide) (by decide) (fun cs => ∃ x : Int, cs = [.int .i64 x] ∧ -9223372036854775808 ≤ x ∧ x ≤ 9223372036854775807) fuel v x h hw (by
    intro k cs y hy hcl _
    obtain ⟨k0, d0, rfl, w0⟩ := DataW.trod_int Tryd.underlying3 hy
    exact ⟨k0, d0, bounds_i64 w0⟩)
  rw [reach_val] at hl
  refine ⟨a, len, cap, hv, by omega, fun k hk => ?_⟩
  obtain ⟨g, off, cs, ha, hg, ⟨x, rfl, hx1, hx2⟩, _, hcell⟩ := hc k hk
  have h0 := hcell 0 (by decide)
  rw [Nat.mul_one, Nat.add_zero] at h0
  exact ⟨g, off, x, ha, hg, h0, hx1, hx2⟩

set_option maxRecDepth 100000 in
theorem open_turns {H : Type} {enc : TypeId × Value → H} {W : World} {r : Reach} {b0 : Nat} {v : Value} {d : DataW H} {p : List MemPlace} (hv : Value.okWide Tryd.prog W r b0 26 v)
    (h : DataW.Trod enc Tryd.prog W 0 (fun _ => true) true 26 v d p) (hw : ∀ z ∈ d.weights Tryd.prog 26, z ≤ reachBytes) :
    ∃ (FT : Nat) (PG : Int) (ra fa : Option Addr) (rn rc fm fc : Nat), v = .agg #[.int .u64 (FT : Int), .slice ra rn rc, .int .i64 PG, .slice fa fm fc] ∧ FT < 18446744073709551616 ∧ (-9223372036854775808 ≤ PG ∧ PG ≤ 9223372036854775807) ∧ rn ≤ 140737488355328 ∧ RootsR W ra rn ∧ fm * 40 ≤ 140737488355328 ∧ V.FatesR W (.slice fa fm fc) := by
  obtain ⟨cs, rfl, hsz⟩ := okWide_struct Tryd.underlying26 hv
  rw [cellsTurns] at hsz
  obtain ⟨fuel, hf0⟩ := h
  obtain ⟨xs, k', _, hxy, hcl, hxl, hf⟩ := DataW.trod_struct Tryd.underlying26 hf0
  obtain ⟨cl⟩ := cs
  simp only [Value.cells] at hf
  simp only [Prod.mk.injEq] at hxy
  match xs, hxl, cl, hsz with
  | [y0, y1, y2, y3], _, [v0, v1, v2, v3], _ =>
    have g0 := hf 0 _ rfl
    have g1 := hf 1 _ rfl
    have g2 := hf 2 _ rfl
    have g3 := hf 3 _ rfl
    simp [cellsInt, cells64, cellsInts, cellsFates] at g0 g1 g2 g3
    obtain ⟨k0, d0, rfl, w0⟩ := DataW.trod_int Tryd.underlying22 g0
    obtain ⟨k2, d2, rfl, w2⟩ := DataW.trod_int Tryd.underlying3 g2
    simp only [List.cons.injEq, and_true] at d0 d2
    obtain ⟨q1, q2⟩ := bounds_u64 w0
    obtain ⟨t, rfl⟩ := Int.eq_ofNat_of_zero_le q1
    rw [hxy.1] at hw
    obtain ⟨ra, rn, rc, rfl, hrn, hR⟩ := open_roots k' v1 y1 g1 (fun z hz => hw z (by
      simp only [DataW.weights, Tryd.underlying26, List.map_cons, List.map_nil, DataW.weightsEach]
      simp [hz]))
    obtain ⟨fa, fm, fc, rfl, hfm, hF⟩ := open_fates k' v3 y3 g3 (fun z hz => hw z (by
      simp only [DataW.weights, Tryd.underlying26, List.map_cons, List.map_nil, DataW.weightsEach]
      simp [hz]))
    exact ⟨t, k2, ra, fa, rn, rc, fm, fc, by rw [d0, d2], by omega, bounds_i64 w2, hrn, hR, hfm, hF⟩

/-! What is laid: four sentinels and the table. -/
def gFour (i : Nat) : Nat := ([0, 4, 1, 2] : List Nat).getD i 0
def turnsErrL : List (String × List UInt8) := (Rows.metaTurnsRow.laid.take 4).map fun x => (x.1, errText x.2)
theorem turnsErrL_eq : turnsErrL.map mkErr ++ [("copse/codec.halfByteSteps", Rows.laid_copse_codec_halfByteSteps)] = Rows.metaTurnsRow.laid := rfl
theorem turnsErrL_len : turnsErrL.length = 4 := rfl
theorem turnsErrL_all : ((List.range 4).all fun i => match turnsErrL[i]? with
    | some x => (Tryd.prog.globalNamed x.1 == some (gFour i)) && ((Tryd.prog.globals[gFour i]?).map (·.type) == some 33)
    | none => false) = true := by kernel_rfl
theorem turnsErrL_glob : ∀ i x, turnsErrL[i]? = some x → Tryd.prog.globalNamed x.1 = some (gFour i) ∧ (Tryd.prog.globals[gFour i]?).map (·.type) = some 33 := by
  intro i x hx
  have hi : i < 4 := by
    rcases Nat.lt_or_ge i 4 with h | h
    · exact h
    · rw [List.getElem?_eq_none (by rw [turnsErrL_len]; exact h)] at hx; cases hx
  have h := List.all_eq_true.1 turnsErrL_all i (List.mem_range.2 hi)
  rw [hx] at h
  simpa using h
set_option maxRecDepth 100000 in
theorem envT_of_laid {W : World} (h : laidMetH Tryd.prog Rows.metaTurnsRow.laid W) : ∃ A ac, EnvT W.heap.size A ac W := by
  rw [MakeChecks.laidMetH_plain _ _ _ (by kernel_rfl)] at h
  obtain ⟨A, hA, _⟩ := errs_of (rest := [("copse/codec.halfByteSteps", Rows.laid_copse_codec_halfByteSteps)]) gFour turnsErrL_len turnsErrL_glob (by rw [turnsErrL_eq]; exact h)
  have h1 : laidMet Tryd.prog [("copse/codec.halfByteSteps", Rows.laid_copse_codec_halfByteSteps)] W := h.filter (fun x => x.1 == "copse/codec.halfByteSteps")
  have hT := tab_of_laid h1
  have e0 := (hA.1 0 (by decide)).1
  have e1 := (hA.1 1 (by decide)).1
  have e2 := (hA.1 2 (by decide)).1
  have e3 := (hA.1 3 (by decide)).1
  exact ⟨fun k => if k = 0 then A 0 else if k = 2 then A 1 else A 2, A 3, ⟨e0, e1, e2, ⟨World.block_lt_of_cell? W _ e0, World.block_lt_of_cell? W _ e1, World.block_lt_of_cell? W _ e2⟩, Nat.le_refl _⟩, e3, ⟨World.block_lt_of_cell? W _ e3, hT.2⟩, hT⟩
theorem turns_door_met (os : Os) (args : Array Value) : laidMetH Tryd.prog Rows.metaTurnsRow.laid ((World.doorLaid Tryd.prog 261 os).forCall (fun _ _ => 0) ⟨#[], args, []⟩).memory :=
  laidMetH_of_parts3 (fuel := 8) (laidMet_of_run' 8 (by kernel_rfl) (by kernel_rfl)) (by kernel_rfl) (by kernel_rfl)

end Go.Proofs.YtlopimdnjookeaaDoor
