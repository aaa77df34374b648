import Derived.Test.YthnidlhcpelomaaDoorDOpen
namespace Go.Proofs.YthnidlhcpelomaaDoor
open Go.ChangeShapes Go.WideShapes Go.ChangeAt Go.WideMaps Go.WideElems Go.RowKit Go.Joins

set_option maxRecDepth 100000 in
set_option maxHeartbeats 1000000 in
theorem open_prsC {H : Type} {enc : TypeId × Value → H} {W : World} (fuel : Nat) (v : Value) (x : DataW H × List MemPlace)
    (h : DataW.trod enc Tryd.prog W 0 (fun _ => true) true fuel 22 [v] = some x) (hb : Rows.uptoBulk x.1 ≤ 1048576) : ∃ l : List Pr, PrR W v l ∧ l.length ≤ 1048576 ∧ ∀ p ∈ l, p.1.size ≤ 1048576 ∧ p.2.size ≤ 1048576 := by
  obtain ⟨a, g, off, len, cap, k, rfl, hlc, hl, hz, ha, hel⟩ := open_slB Tryd.underlying22 cellsPair (by decide) fuel v x h hb
  have each : ∀ i, i < len → ∃ q : Pr, (q.1.size ≤ 1048576 ∧ q.2.size ≤ 1048576) ∧ W.cell? ⟨g, off + i * 2, none⟩ = some (.string q.1) ∧ W.cell? ⟨g, off + i * 2 + 1, none⟩ = some (.string q.2) := by
    intro i hi
    obtain ⟨cs, y, hc, hcell, h3, h4⟩ := hel i hi
    obtain ⟨xs, k2, hk, hxy, _, hxl, hf⟩ := DataW.trod_struct Tryd.underlying28 h3
    match xs, hxl, cs, hc with
    | [y0, y1], _, [v0, v1], _ =>
      have g0 := hf 0 _ rfl
      have g1 := hf 1 _ rfl
      simp [cells9] at g0 g1
      obtain ⟨t0, d0, rfl, w0⟩ := DataW.trod_string Tryd.underlying9 g0
      obtain ⟨t1, d1, rfl, w1⟩ := DataW.trod_string Tryd.underlying9 g1
      simp only [List.cons.injEq, and_true] at d0 d1
      subst d0 d1
      rw [hxy] at h4
      simp only [List.map_cons, List.map_nil, Rows.uptoBulk, Rows.uptoBulkAll] at h4
      have z0 := bsize t0
      have z1 := bsize t1
      exact ⟨(t0, t1), ⟨by show t0.size ≤ _; omega, by show t1.size ≤ _; omega⟩, hcell 0 _ rfl, hcell 1 _ rfl⟩
  obtain ⟨q, hq⟩ := Deep.choose_lt (α := Pr) each
  refine ⟨(List.range len).map q, ⟨a, cap, by simp, by simpa using hlc, hz, fun i hi => ?_⟩, by simpa using hl, fun f hf => ?_⟩
  · have hi' : i < len := by simpa using hi
    have e : ((List.range len).map q)[i] = q i := by simp
    rw [e]
    exact ⟨g, off, ha (by omega), (hq i hi').2⟩
  · obtain ⟨i, hi, rfl⟩ := List.mem_map.1 hf
    exact (hq i (List.mem_range.1 hi)).1
set_option maxRecDepth 100000 in
set_option maxHeartbeats 1000000 in
theorem open_chsC {H : Type} {enc : TypeId × Value → H} {W : World} (fuel : Nat) (v : Value) (x : DataW H × List MemPlace)
    (h : DataW.trod enc Tryd.prog W 0 (fun _ => true) true fuel 23 [v] = some x) (hb : Rows.uptoBulk x.1 ≤ 1048576) : ∃ l : List Ch, ChR W v l ∧ l.length ≤ 1048576 ∧ ∀ c ∈ l, c.1.size ≤ 1048576 ∧ c.2.old.size ≤ 1048576 ∧ c.2.new.size ≤ 1048576 := by
  obtain ⟨a, g, off, len, cap, k, rfl, hlc, hl, hz, ha, hel⟩ := open_slB Tryd.underlying23 cellsCh (by decide) fuel v x h hb
  have each : ∀ i, i < len → ∃ q : Ch, (q.1.size ≤ 1048576 ∧ q.2.old.size ≤ 1048576 ∧ q.2.new.size ≤ 1048576) ∧ ChAt W g (off + i * 5) q := by
    intro i hi
    obtain ⟨cs, y, hc, hcell, h3, h4⟩ := hel i hi
    obtain ⟨xs, k2, hk, hxy, _, hxl, hf⟩ := DataW.trod_struct Tryd.underlying44 h3
    match xs, hxl, cs, hc with
    | [y0, y1, y2, y3, y4], _, [v0, v1, v2, v3, v4], _ =>
      have g0 := hf 0 _ rfl
      have g1 := hf 1 _ rfl
      have g2 := hf 2 _ rfl
      have g3 := hf 3 _ rfl
      have g4 := hf 4 _ rfl
      simp [cells9, cells4] at g0 g1 g2 g3 g4
      obtain ⟨t0, d0, rfl, w0⟩ := DataW.trod_string Tryd.underlying9 g0
      obtain ⟨b1, d1, rfl⟩ := DataW.trod_bool Tryd.underlying4 g1
      obtain ⟨b2, d2, rfl⟩ := DataW.trod_bool Tryd.underlying4 g2
      obtain ⟨t3, d3, rfl, w3⟩ := DataW.trod_string Tryd.underlying9 g3
      obtain ⟨t4, d4, rfl, w4⟩ := DataW.trod_string Tryd.underlying9 g4
      simp only [List.cons.injEq, and_true] at d0 d1 d2 d3 d4
      subst d0 d1 d2 d3 d4
      rw [hxy] at h4
      simp only [List.map_cons, List.map_nil, Rows.uptoBulk, Rows.uptoBulkAll] at h4
      have z0 := bsize t0
      have z3 := bsize t3
      have z4 := bsize t4
      exact ⟨(t0, ⟨b1, b2, t3, t4⟩), ⟨by show t0.size ≤ _; omega, by show t3.size ≤ _; omega, by show t4.size ≤ _; omega⟩, hcell 0 _ rfl, hcell 1 _ rfl, hcell 2 _ rfl, hcell 3 _ rfl, hcell 4 _ rfl⟩
  obtain ⟨q, hq⟩ := Deep.choose_lt (α := Ch) each
  refine ⟨(List.range len).map q, ⟨a, cap, by simp, by simpa using hlc, hz, fun i hi => ?_⟩, by simpa using hl, fun f hf => ?_⟩
  · have hi' : i < len := by simpa using hi
    have e : ((List.range len).map q)[i] = q i := by simp
    rw [e]
    exact ⟨g, off, ha (by omega), (hq i hi').2⟩
  · obtain ⟨i, hi, rfl⟩ := List.mem_map.1 hf
    exact (hq i (List.mem_range.1 hi)).1
set_option maxRecDepth 100000 in
theorem open_twoC {H : Type} {enc : TypeId × Value → H} {W : World} {r : Reach} {b0 : Nat} {v : Value} {d : DataW H} {p : List MemPlace} (hv : Value.okWide Tryd.prog W r b0 25 v)
    (h : DataW.Trod enc Tryd.prog W 0 (fun _ => true) true 25 v d p) (hb : Rows.uptoBulk d ≤ 1048576) :
    ∃ (va vb vl vm : Value) (la lb : List Pr) (ll lm : List Ch), v = .agg #[va, vb, vl, vm] ∧ PrR W va la ∧ PrR W vb lb ∧ ChR W vl ll ∧ ChR W vm lm ∧ (∀ p ∈ la, p.1.size ≤ 1048576 ∧ p.2.size ≤ 1048576) ∧ (∀ p ∈ lb, p.1.size ≤ 1048576 ∧ p.2.size ≤ 1048576) ∧ (∀ c ∈ ll, c.1.size ≤ 1048576 ∧ c.2.old.size ≤ 1048576 ∧ c.2.new.size ≤ 1048576) ∧ (∀ c ∈ lm, c.1.size ≤ 1048576 ∧ c.2.old.size ≤ 1048576 ∧ c.2.new.size ≤ 1048576) ∧ la.length ≤ 1048576 ∧ lb.length ≤ 1048576 ∧ ll.length ≤ 1048576 ∧ lm.length ≤ 1048576 := by
  obtain ⟨cs, rfl, hsz⟩ := okWide_struct Tryd.underlying25 hv
  rw [cellsTwo] at hsz
  obtain ⟨fuel, hf0⟩ := h
  obtain ⟨xs, k', _, hxy, hcl, hxl, hf⟩ := DataW.trod_struct Tryd.underlying25 hf0
  obtain ⟨cl⟩ := cs
  simp only [Value.cells] at hf
  simp only [Prod.mk.injEq] at hxy
  match xs, hxl, cl, hsz with
  | [y0, y1, y2, y3], _, [v0, v1, v2, v3], _ =>
    have g0 := hf 0 _ rfl
    have g1 := hf 1 _ rfl
    have g2 := hf 2 _ rfl
    have g3 := hf 3 _ rfl
    simp [cellsPrs, cellsChs] at g0 g1 g2 g3
    rw [hxy.1] at hb
    simp only [List.map_cons, List.map_nil, Rows.uptoBulk, Rows.uptoBulkAll] at hb
    obtain ⟨la, ra, na, oa⟩ := open_prsC k' _ y0 g0 (by omega)
    obtain ⟨lb, rb, nb, ob⟩ := open_prsC k' _ y1 g1 (by omega)
    obtain ⟨lc, rc, nc, oc⟩ := open_chsC k' _ y2 g2 (by omega)
    obtain ⟨ld, rd, nd, od⟩ := open_chsC k' _ y3 g3 (by omega)
    exact ⟨v0, v1, v2, v3, la, lb, lc, ld, rfl, ra, rb, rc, rd, oa, ob, oc, od, na, nb, nc, nd⟩
end Go.Proofs.YthnidlhcpelomaaDoor
