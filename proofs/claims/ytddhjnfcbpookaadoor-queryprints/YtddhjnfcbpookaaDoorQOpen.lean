import Derived.Test.YtddhjnfcbpookaaDoorOpen
import Derived.Test.YtddhjnfcbpookaaDoorQChoose
namespace Go.Proofs.YtddhjnfcbpookaaDoor
open Go.ChangeShapes Go.WideShapes Go.ChangeAt Go.WideMaps Go.WideElems Go.RowKit

/-! The arguments of layer 18: conditions, fields, indexes, tables, records, queries. -/
theorem addr_zero {a : Addr} {W : World} {u : Value} (h : W.cell? (a.add 0) = some u) : a = ⟨a.block, a.off, none⟩ := by
  have e : a.add 0 = a := rfl
  rw [e] at h
  have hsp : a.spot = none := by
    unfold World.cell? at h
    split at h
    · split at h
      · cases h
      · rename_i hs; simpa using hs
    · cases h
  cases a; simp at hsp; rw [hsp]
theorem addr_add (b o c : Nat) : (⟨b, o, none⟩ : Addr).add c = ⟨b, o + c, none⟩ := by
  unfold Addr.add
  split
  · rename_i h; rw [h, Nat.add_zero]
  · rfl
set_option maxRecDepth 100000 in
set_option maxHeartbeats 1000000 in
/-- A slice whose elements have n cells: the cells of each, and how it reads. -/
theorem open_slice {H : Type} {enc : TypeId × Value → H} {W : World} {T E : TypeId} {n m : Nat} (hT : Tryd.prog.underlying T = some (.slice E)) (hn : Tryd.prog.cellsOf E = n) (hn0 : 0 < n) (hm : Tryd.prog.bytesOf E = m) (fuel : Nat) (v : Value) (x : DataW H × List MemPlace)
    (h : DataW.trod enc Tryd.prog W 0 (fun _ => true) true fuel T [v] = some x) (hw : ∀ z ∈ x.1.weights Tryd.prog T, z ≤ reachBytes) :
    ∃ (a : Option Addr) (g off len cap k : Nat), v = .slice a len cap ∧ k < fuel ∧ len * m ≤ reachBytes ∧ (0 < len → a = some ⟨g, off, none⟩) ∧
      ∀ i, i < len → ∃ (cs : List Value) (y : DataW H × List MemPlace), cs.length = n ∧ (∀ j u, cs[j]? = some u → W.cell? ⟨g, off + i * n + j, none⟩ = some u) ∧ DataW.trod enc Tryd.prog W 0 (fun _ => true) true k E cs = some y ∧ ∀ z ∈ y.1.weights Tryd.prog E, z ≤ reachBytes := by
  rcases DataW.trod_slice hT h with ⟨h0, _⟩ | ⟨a, len, cap, elems, rest, k, hk, hv, hx, hb, hl, hmm, hlen, hel, _⟩
  · simp only [List.cons.injEq, and_true] at h0
    subst h0
    match fuel, h with
    | f + 1, _ => exact ⟨none, 0, 0, 0, 0, 0, rfl, by omega, by omega, fun h => by omega, fun i hi => by omega⟩
    | 0, h => simp [DataW.trod] at h
  · simp only [List.cons.injEq, and_true] at hv
    subst hv hx hk
    have hwt : (elems.length + rest.length) * m ≤ reachBytes := hw _ (by
      simp only [DataW.weights, hT, hm, List.length_map]
      exact List.mem_cons_self)
    have hlm : len * m ≤ reachBytes := by
      rw [Nat.add_mul] at hwt
      have : len * m ≤ elems.length * m := Nat.mul_le_mul_right _ (by omega)
      omega
    have each : ∀ i, i < len → ∃ (cs : List Value) (y : DataW H × List MemPlace), cs.length = n ∧ (∀ j, (hj : j < cs.length) → W.cell? ((a.add (i * n)).add j) = some cs[j]) ∧ DataW.trod enc Tryd.prog W 0 (fun _ => true) true k E cs = some y ∧ ∀ z ∈ y.1.weights Tryd.prog E, z ≤ reachBytes := by
      intro i hi
      have h1 := hel i hi
      rw [hn, List.getElem?_eq_getElem (by omega)] at h1
      obtain ⟨cs', h2, h3⟩ := Option.bind_eq_some_iff.1 h1
      obtain ⟨_, hcl, hcell⟩ := World.cells?_some h2
      refine ⟨cs', _, hcl, fun j hj => (hcell j (by omega)).trans (List.getElem?_eq_getElem hj), h3, fun z hz => hw z ?_⟩
      simp only [DataW.weights, hT]
      exact List.mem_cons_of_mem _ (List.mem_append_left _ (mem_weightsAll _ _ _ _ z (List.mem_map.2 ⟨_, List.getElem_mem (by omega), rfl⟩) hz))
    refine ⟨some a, a.block, a.off, len, cap, k, rfl, by omega, hlm, fun h0 => ?_, fun i hi => ?_⟩
    · obtain ⟨cs, y, hc, hcell, _⟩ := each 0 h0
      have := hcell 0 (by omega)
      rw [Nat.zero_mul] at this
      rw [← addr_zero (a := a) (by exact this)]
    · obtain ⟨cs, y, hc, hcell, h3, h4⟩ := each i hi
      obtain ⟨cs0, y0, hc0, hcell0, _⟩ := each 0 (by omega)
      have e0 := hcell0 0 (by omega)
      rw [Nat.zero_mul] at e0
      have ea := addr_zero (a := a) (by exact e0)
      refine ⟨cs, y, hc, fun j u hu => ?_, h3, h4⟩
      obtain ⟨hj, rfl⟩ := List.getElem?_eq_some_iff.1 hu
      have := hcell j hj
      rw [ea, addr_add, addr_add] at this
      exact this
theorem cellsInt : Tryd.prog.cellsOf 3 = 1 := by kernel_rfl
theorem cellsBool : Tryd.prog.cellsOf 4 = 1 := by kernel_rfl
theorem bytesInt : Tryd.prog.bytesOf 3 = 8 := by kernel_rfl
theorem cellsCond : Tryd.prog.cellsOf 61 = 6 := by kernel_rfl
theorem bytesCond : Tryd.prog.bytesOf 61 = 80 := by kernel_rfl
theorem cellsConds : Tryd.prog.cellsOf 29 = 1 := by kernel_rfl
theorem cellsQuery : Tryd.prog.cellsOf 31 = 5 := by kernel_rfl
theorem reach_val : reachBytes = 140737488351232 := rfl
instance : Inhabited Cd := ⟨⟨⟨#[]⟩, 0, .mk 0 0 ⟨#[]⟩ []⟩⟩
set_option maxRecDepth 100000 in
set_option maxHeartbeats 1000000 in
/-- One item out of its four cells. -/
theorem open_it {H : Type} {enc : TypeId × Value → H} {W : World} (k : Nat) (v0 v1 v2 v3 : Value) (y : DataW H × List MemPlace) (h : DataW.trod enc Tryd.prog W 0 (fun _ => true) true k 59 [v0, v1, v2, v3] = some y) (hw : ∀ z ∈ y.1.weights Tryd.prog 59, z ≤ reachBytes) :
    ∃ x : It, x.Ok ∧ v0 = .int .i64 x.kind ∧ v1 = .int .i64 x.num ∧ v2 = .string x.text ∧ ItsAt W anyB v3 x.list := by
  obtain ⟨xs, k2, hk, hxy, _, hxl, hf⟩ := DataW.trod_struct Tryd.underlying59 h
  match xs, hxl with
  | [y0, y1, y2, y3], _ =>
    have g0 := hf 0 _ rfl
    have g1 := hf 1 _ rfl
    have g2 := hf 2 _ rfl
    have g3 := hf 3 _ rfl
    simp [cells3, cells9, cellsIts] at g0 g1 g2 g3
    obtain ⟨k0, d0, rfl, w0⟩ := DataW.trod_int Tryd.underlying3 g0
    obtain ⟨n0, d1, rfl, w1⟩ := DataW.trod_int Tryd.underlying3 g1
    obtain ⟨t0, d2, rfl, w2⟩ := DataW.trod_string Tryd.underlying9 g2
    simp only [List.cons.injEq, and_true] at d0 d1 d2
    subst d0 d1 d2
    rw [hxy] at hw
    obtain ⟨li, hli⟩ := open_its k2 v3 y3 g3 (fun z hz => hw z (by
      simp only [DataW.weights, Tryd.underlying59, List.map_cons, List.map_nil, DataW.weightsEach]
      simp [hz]))
    have ht : t0.size ≤ reachBytes := hw t0.size (by
      simp only [DataW.weights, Tryd.underlying59, List.map_cons, List.map_nil, DataW.weightsEach]
      simp)
    obtain ⟨ka, kb⟩ := bounds_i64 w0
    obtain ⟨na, nb⟩ := bounds_i64 w1
    exact ⟨.mk k0 n0 t0 li, ⟨ka, kb, na, nb, ht⟩, rfl, rfl, rfl, hli⟩
set_option maxRecDepth 100000 in
set_option maxHeartbeats 1000000 in
theorem open_conds {H : Type} {enc : TypeId × Value → H} {W : World} (fuel : Nat) (v : Value) (x : DataW H × List MemPlace)
    (h : DataW.trod enc Tryd.prog W 0 (fun _ => true) true fuel 29 [v] = some x) (hw : ∀ z ∈ x.1.weights Tryd.prog 29, z ≤ reachBytes) : ∃ l, CsAt W anyB v l := by
  obtain ⟨a, g, off, len, cap, k, rfl, _, hl, ha, hel⟩ := open_slice Tryd.underlying29 cellsCond (by decide) bytesCond fuel v x h hw
  have each : ∀ i, i < len → ∃ q : Cd × Value, q.1.Ok ∧ (∀ j u, (q.1.cells q.2)[j]? = some u → W.cell? ⟨g, off + i * 6 + j, none⟩ = some u) ∧ ItsAt W anyB q.2 q.1.item.list := by
    intro i hi
    obtain ⟨cs, y, hc, hcell, h3, h4⟩ := hel i hi
    obtain ⟨xs, k2, hk, hxy, _, hxl, hf⟩ := DataW.trod_struct Tryd.underlying61 h3
    match xs, hxl, cs, hc with
    | [y0, y1, y2], _, [v0, v1, v2, v3, v4, v5], _ =>
      have g0 := hf 0 _ rfl
      have g1 := hf 1 _ rfl
      have g2 := hf 2 _ rfl
      simp [cells3, cells9, cellsIt] at g0 g1 g2
      obtain ⟨t0, d0, rfl, w0⟩ := DataW.trod_string Tryd.underlying9 g0
      obtain ⟨n0, d1, rfl, w1⟩ := DataW.trod_int Tryd.underlying3 g1
      simp only [List.cons.injEq, and_true] at d0 d1
      subst d0 d1
      rw [hxy] at h4
      obtain ⟨it, hok, rfl, rfl, rfl, hli⟩ := open_it k2 _ _ _ _ y2 g2 (fun z hz => h4 z (by
        simp only [DataW.weights, Tryd.underlying61, List.map_cons, List.map_nil, DataW.weightsEach]
        simp [hz]))
      have ht : t0.size ≤ reachBytes := h4 t0.size (by
        simp only [DataW.weights, Tryd.underlying61, List.map_cons, List.map_nil, DataW.weightsEach]
        simp)
      obtain ⟨na, nb⟩ := bounds_i64 w1
      exact ⟨(⟨t0, n0, it⟩, v5), ⟨by rw [reach_val] at ht; omega, na, nb, hok⟩, hcell, hli⟩
  obtain ⟨q, hq⟩ := Deep.choose_lt (α := Cd × Value) each
  have hlen : len ≤ 1759218604390 := by rw [reach_val] at hl; omega
  refine ⟨(List.range len).map fun i => (q i).1, a, g, off, cap, fun i => (q i).2, by simp, by simpa using hlen, fun h => ⟨ha (by simpa using h), trivial⟩, fun i hi => ?_⟩
  have hi' : i < len := by simpa using hi
  obtain ⟨h1, h2, h3⟩ := hq i hi'
  have e : ((List.range len).map fun i => (q i).1)[i] = (q i).1 := by simp
  rw [e]
  exact ⟨h1, h2, h3⟩
set_option maxRecDepth 100000 in
set_option maxHeartbeats 1000000 in
/-- A query out of its five cells. -/
theorem open_q {H : Type} {enc : TypeId × Value → H} {W : World} (k : Nat) (v0 v1 v2 v3 v4 : Value) (y : DataW H × List MemPlace) (h : DataW.trod enc Tryd.prog W 0 (fun _ => true) true k 31 [v0, v1, v2, v3, v4] = some y) (hw : ∀ z ∈ y.1.weights Tryd.prog 31, z ≤ reachBytes) :
    ∃ q : Qd, v0 = .string q.table ∧ v2 = .string q.order ∧ v3 = .bool q.falling ∧ v4 = .int .i64 q.limit ∧ CsAt W anyB v1 q.cs ∧ q.table.size ≤ 140737488351232 ∧ q.order.size ≤ 140737488351232 ∧ -9223372036854775808 ≤ q.limit ∧ q.limit ≤ 9223372036854775807 := by
  obtain ⟨xs, k2, hk, hxy, _, hxl, hf⟩ := DataW.trod_struct Tryd.underlying31 h
  match xs, hxl with
  | [y0, y1, y2, y3, y4], _ =>
    have g0 := hf 0 _ rfl
    have g1 := hf 1 _ rfl
    have g2 := hf 2 _ rfl
    have g3 := hf 3 _ rfl
    have g4 := hf 4 _ rfl
    simp [cells3, cells9, cellsConds, cellsBool] at g0 g1 g2 g3 g4
    obtain ⟨t0, d0, rfl, w0⟩ := DataW.trod_string Tryd.underlying9 g0
    obtain ⟨t2, d2, rfl, w2⟩ := DataW.trod_string Tryd.underlying9 g2
    obtain ⟨b3, d3, rfl⟩ := DataW.trod_bool Tryd.underlying4 g3
    obtain ⟨n4, d4, rfl, w4⟩ := DataW.trod_int Tryd.underlying3 g4
    simp only [List.cons.injEq, and_true] at d0 d2 d3 d4
    subst d0 d2 d3 d4
    rw [hxy] at hw
    obtain ⟨l, hl⟩ := open_conds k2 v1 y1 g1 (fun z hz => hw z (by
      simp only [DataW.weights, Tryd.underlying31, List.map_cons, List.map_nil, DataW.weightsEach]
      simp [hz]))
    have h1 : t0.size ≤ reachBytes := hw t0.size (by
      simp only [DataW.weights, Tryd.underlying31, List.map_cons, List.map_nil, DataW.weightsEach]
      simp)
    have h2 : t2.size ≤ reachBytes := hw t2.size (by
      simp only [DataW.weights, Tryd.underlying31, List.map_cons, List.map_nil, DataW.weightsEach]
      simp)
    obtain ⟨na, nb⟩ := bounds_i64 w4
    exact ⟨⟨t0, l, t2, b3, n4⟩, rfl, rfl, rfl, rfl, hl, h1, h2, na, nb⟩
end Go.Proofs.YtddhjnfcbpookaaDoor
