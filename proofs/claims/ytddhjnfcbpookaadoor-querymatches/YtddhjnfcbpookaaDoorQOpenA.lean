import Derived.Test.YtddhjnfcbpookaaDoorQOpen
namespace Go.Proofs.YtddhjnfcbpookaaDoor
open Go.ChangeShapes Go.WideShapes Go.ChangeAt Go.WideMaps Go.WideElems Go.RowKit

theorem cellsField : Tryd.prog.cellsOf 93 = 2 := by kernel_rfl
theorem bytesField : Tryd.prog.bytesOf 93 = 24 := by kernel_rfl
theorem cellsInts : Tryd.prog.cellsOf 67 = 1 := by kernel_rfl
theorem bytesInts : Tryd.prog.bytesOf 67 = 24 := by kernel_rfl
theorem cellsFields : Tryd.prog.cellsOf 22 = 1 := by kernel_rfl
theorem cellsIntss : Tryd.prog.cellsOf 23 = 1 := by kernel_rfl
theorem cellsTable : Tryd.prog.cellsOf 25 = 3 := by kernel_rfl
theorem cellsRow : Tryd.prog.cellsOf 28 = 2 := by kernel_rfl
theorem cellsAsked : Tryd.prog.cellsOf 33 = 10 := by kernel_rfl
set_option maxRecDepth 100000 in
set_option maxHeartbeats 1000000 in
theorem open_fields {H : Type} {enc : TypeId × Value → H} {W : World} (fuel : Nat) (v : Value) (x : DataW H × List MemPlace)
    (h : DataW.trod enc Tryd.prog W 0 (fun _ => true) true fuel 22 [v] = some x) (hw : ∀ z ∈ x.1.weights Tryd.prog 22, z ≤ reachBytes) : ∃ l, FsAt W v l ∧ ∀ f ∈ l, f.1.size ≤ 140737488355328 := by
  obtain ⟨a, g, off, len, cap, k, rfl, _, hl, ha, hel⟩ := open_slice Tryd.underlying22 cellsField (by decide) bytesField fuel v x h hw
  have each : ∀ i, i < len → ∃ q : Fd, q.1.size ≤ 140737488355328 ∧ W.cell? ⟨g, off + i * 2, none⟩ = some (.string q.1) ∧ W.cell? ⟨g, off + i * 2 + 1, none⟩ = some (.int .i64 q.2) := by
    intro i hi
    obtain ⟨cs, y, hc, hcell, h3, h4⟩ := hel i hi
    obtain ⟨xs, k2, hk, hxy, _, hxl, hf⟩ := DataW.trod_struct Tryd.underlying93 h3
    match xs, hxl, cs, hc with
    | [y0, y1], _, [v0, v1], _ =>
      have g0 := hf 0 _ rfl
      have g1 := hf 1 _ rfl
      simp [cells3, cells9] at g0 g1
      obtain ⟨t0, d0, rfl, w0⟩ := DataW.trod_string Tryd.underlying9 g0
      obtain ⟨n0, d1, rfl, w1⟩ := DataW.trod_int Tryd.underlying3 g1
      simp only [List.cons.injEq, and_true] at d0 d1
      subst d0 d1
      rw [hxy] at h4
      have ht : t0.size ≤ reachBytes := h4 t0.size (by
        simp only [DataW.weights, Tryd.underlying93, List.map_cons, List.map_nil, DataW.weightsEach]
        simp)
      exact ⟨(t0, n0), by rw [reach_val] at ht; show t0.size ≤ _; omega, hcell 0 _ rfl, hcell 1 _ rfl⟩
  obtain ⟨q, hq⟩ := Deep.choose_lt (α := Fd) each
  have hlen : len ≤ 17592186044416 := by rw [reach_val] at hl; omega
  refine ⟨(List.range len).map q, ⟨a, g, off, cap, by simp, by simpa using hlen, fun h => ha (by simpa using h), fun i hi => ?_⟩, fun f hf => ?_⟩
  · have hi' : i < len := by simpa using hi
    have e : ((List.range len).map q)[i] = q i := by simp
    rw [e]
    exact (hq i hi').2
  · obtain ⟨i, hi, rfl⟩ := List.mem_map.1 hf
    exact (hq i (List.mem_range.1 hi)).1
set_option maxRecDepth 100000 in
set_option maxHeartbeats 1000000 in
theorem open_ints {H : Type} {enc : TypeId × Value → H} {W : World} (fuel : Nat) (v : Value) (x : DataW H × List MemPlace)
    (h : DataW.trod enc Tryd.prog W 0 (fun _ => true) true fuel 67 [v] = some x) (hw : ∀ z ∈ x.1.weights Tryd.prog 67, z ≤ reachBytes) : ∃ l, InsAt W v l ∧ ∀ i ∈ l, -9223372036854775808 ≤ i ∧ i ≤ 9223372036854775807 := by
  obtain ⟨a, g, off, len, cap, k, rfl, _, hl, ha, hel⟩ := open_slice Tryd.underlying67 cellsInt (by decide) bytesInt fuel v x h hw
  have each : ∀ i, i < len → ∃ q : Int, (-9223372036854775808 ≤ q ∧ q ≤ 9223372036854775807) ∧ W.cell? ⟨g, off + i, none⟩ = some (.int .i64 q) := by
    intro i hi
    obtain ⟨cs, y, hc, hcell, h3, h4⟩ := hel i hi
    match cs, hc with
    | [v0], _ =>
      obtain ⟨n0, d1, _, w1⟩ := DataW.trod_int Tryd.underlying3 h3
      simp only [List.cons.injEq, and_true] at d1
      subst d1
      have := hcell 0 _ rfl
      rw [Nat.mul_one] at this
      exact ⟨n0, bounds_i64 w1, this⟩
  obtain ⟨q, hq⟩ := Deep.choose_lt (α := Int) each
  have hlen : len ≤ 17592186044416 := by rw [reach_val] at hl; omega
  refine ⟨(List.range len).map q, ⟨a, g, off, cap, by simp, by simpa using hlen, fun h => ha (by simpa using h), fun i hi => ?_⟩, fun f hf => ?_⟩
  · have hi' : i < len := by simpa using hi
    have e : ((List.range len).map q)[i] = q i := by simp
    rw [e]
    exact (hq i hi').2
  · obtain ⟨i, hi, rfl⟩ := List.mem_map.1 hf
    exact (hq i (List.mem_range.1 hi)).1
set_option maxRecDepth 100000 in
set_option maxHeartbeats 1000000 in
theorem open_ixs {H : Type} {enc : TypeId × Value → H} {W : World} (fuel : Nat) (v : Value) (x : DataW H × List MemPlace)
    (h : DataW.trod enc Tryd.prog W 0 (fun _ => true) true fuel 23 [v] = some x) (hw : ∀ z ∈ x.1.weights Tryd.prog 23, z ≤ reachBytes) : ∃ l, IxsAt W v l ∧ ∀ ix ∈ l, ∀ i ∈ ix, -9223372036854775808 ≤ i ∧ i ≤ 9223372036854775807 := by
  obtain ⟨a, g, off, len, cap, k, rfl, _, hl, ha, hel⟩ := open_slice Tryd.underlying23 cellsInts (by decide) bytesInts fuel v x h hw
  have each : ∀ i, i < len → ∃ q : Value × List Int, (∀ i ∈ q.2, -9223372036854775808 ≤ i ∧ i ≤ 9223372036854775807) ∧ W.cell? ⟨g, off + i, none⟩ = some q.1 ∧ InsAt W q.1 q.2 := by
    intro i hi
    obtain ⟨cs, y, hc, hcell, h3, h4⟩ := hel i hi
    match cs, hc with
    | [v0], _ =>
      obtain ⟨l, h1, h2⟩ := open_ints k v0 y h3 h4
      have := hcell 0 _ rfl
      rw [Nat.mul_one] at this
      exact ⟨(v0, l), h2, this, h1⟩
  obtain ⟨q, hq⟩ := Deep.choose_lt (α := Value × List Int) each
  have hlen : len ≤ 17592186044416 := by rw [reach_val] at hl; omega
  refine ⟨(List.range len).map fun i => (q i).2, ⟨a, g, off, cap, fun i => (q i).1, by simp, by simpa using hlen, fun h => ha (by simpa using h), fun i hi => ?_⟩, fun f hf => ?_⟩
  · have hi' : i < len := by simpa using hi
    have e : ((List.range len).map fun i => (q i).2)[i] = (q i).2 := by simp
    rw [e]
    exact (hq i hi').2
  · obtain ⟨i, hi, rfl⟩ := List.mem_map.1 hf
    exact (hq i (List.mem_range.1 hi)).1
set_option maxRecDepth 100000 in
set_option maxHeartbeats 2000000 in
theorem open_asked {H : Type} {enc : TypeId × Value → H} {W : World} {r : Reach} {b0 : Nat} {v : Value} {d : DataW H} {p : List MemPlace} (hv : Value.okWide Tryd.prog W r b0 33 v)
    (h : DataW.Trod enc Tryd.prog W 0 (fun _ => true) true 33 v d p) (hw : ∀ z ∈ d.weights Tryd.prog 33, z ≤ reachBytes) :
    ∃ (tn : ByteArray) (fv iv rv cv : Value) (id : Int) (fs : List Fd) (ixs : List (List Int)) (its : List It) (q : Qd), v = .agg #[.string tn, fv, iv, .int .i64 id, rv, .string q.table, cv, .string q.order, .bool q.falling, .int .i64 q.limit] ∧ FsAt W fv fs ∧ (∀ f ∈ fs, f.1.size ≤ 140737488355328) ∧ IxsAt W iv ixs ∧ (∀ ix ∈ ixs, ∀ i ∈ ix, -9223372036854775808 ≤ i ∧ i ≤ 9223372036854775807) ∧ ItsAt W anyB rv its ∧ CsAt W anyB cv q.cs ∧ q.table.size ≤ 140737488351232 ∧ q.order.size ≤ 140737488351232 := by
  obtain ⟨cs, rfl, hsz⟩ := okWide_struct Tryd.underlying33 hv
  rw [cellsAsked] at hsz
  obtain ⟨fuel, hf0⟩ := h
  obtain ⟨xs, k', _, hxy, hcl, hxl, hf⟩ := DataW.trod_struct Tryd.underlying33 hf0
  obtain ⟨cl⟩ := cs
  simp only [Value.cells] at hf
  simp only [Prod.mk.injEq] at hxy
  match xs, hxl, cl, hsz with
  | [y0, y1, y2], _, [v0, v1, v2, v3, v4, v5, v6, v7, v8, v9], _ =>
    have g0 := hf 0 _ rfl
    have g1 := hf 1 _ rfl
    have g2 := hf 2 _ rfl
    simp [cellsTable, cellsRow, cellsQuery] at g0 g1 g2
    rw [hxy.1] at hw
    have w0 : ∀ z ∈ y0.1.weights Tryd.prog 25, z ≤ reachBytes := fun z hz => hw z (by
      simp only [DataW.weights, Tryd.underlying33, List.map_cons, List.map_nil, DataW.weightsEach]
      simp [hz])
    have w1 : ∀ z ∈ y1.1.weights Tryd.prog 28, z ≤ reachBytes := fun z hz => hw z (by
      simp only [DataW.weights, Tryd.underlying33, List.map_cons, List.map_nil, DataW.weightsEach]
      simp [hz])
    have w2 : ∀ z ∈ y2.1.weights Tryd.prog 31, z ≤ reachBytes := fun z hz => hw z (by
      simp only [DataW.weights, Tryd.underlying33, List.map_cons, List.map_nil, DataW.weightsEach]
      simp [hz])
    obtain ⟨q, rfl, rfl, rfl, rfl, hcs, hq1, hq2, _, _⟩ := open_q k' _ _ _ _ _ y2 g2 w2
    obtain ⟨xs0, k0, _, hxy0, _, hxl0, hf0'⟩ := DataW.trod_struct Tryd.underlying25 g0
    obtain ⟨xs1, k1, _, hxy1, _, hxl1, hf1'⟩ := DataW.trod_struct Tryd.underlying28 g1
    rw [hxy0] at w0
    rw [hxy1] at w1
    match xs0, hxl0, xs1, hxl1 with
    | [z0, z1, z2], _, [u0, u1], _ =>
      have e0 := hf0' 0 _ rfl
      have e1 := hf0' 1 _ rfl
      have e2 := hf0' 2 _ rfl
      have e3 := hf1' 0 _ rfl
      have e4 := hf1' 1 _ rfl
      simp [cells3, cells9, cellsFields, cellsIntss, cellsIts] at e0 e1 e2 e3 e4
      obtain ⟨t0, d0, rfl, _⟩ := DataW.trod_string Tryd.underlying9 e0
      obtain ⟨n3, d3, rfl, _⟩ := DataW.trod_int Tryd.underlying3 e3
      simp only [List.cons.injEq, and_true] at d0 d3
      subst d0 d3
      obtain ⟨fs, hfs, hfn⟩ := open_fields k0 _ z1 e1 (fun z hz => w0 z (by
        simp only [DataW.weights, Tryd.underlying25, List.map_cons, List.map_nil, DataW.weightsEach]
        simp [hz]))
      obtain ⟨ixs, hix, hir⟩ := open_ixs k0 _ z2 e2 (fun z hz => w0 z (by
        simp only [DataW.weights, Tryd.underlying25, List.map_cons, List.map_nil, DataW.weightsEach]
        simp [hz]))
      obtain ⟨its, hits⟩ := open_its k1 _ u1 e4 (fun z hz => w1 z (by
        simp only [DataW.weights, Tryd.underlying28, List.map_cons, List.map_nil, DataW.weightsEach]
        simp [hz]))
      exact ⟨t0, v1, v2, v4, v6, n3, fs, ixs, its, q, rfl, hfs, hfn, hix, hir, hits, hcs, hq1, hq2⟩
end Go.Proofs.YtddhjnfcbpookaaDoor
