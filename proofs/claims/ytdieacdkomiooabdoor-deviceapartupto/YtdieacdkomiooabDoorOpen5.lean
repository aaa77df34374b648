import Derived.Test.YtdieacdkomiooabDoorGC
import Derived.Test.YtdieacdkomiooabDoorLaid3
namespace Go.Proofs.YtdieacdkomiooabDoor
open Go.ChangeShapes Go.WideShapes Go.ChangeAt Go.WideMaps Go.WideElems Go.RowKit

theorem sum_bulk {H : Type} : ∀ (L : List (DataW H)) (f : Nat → Nat), (∀ i (hi : i < L.length), f i ≤ Rows.uptoBulk L[i]) → ((List.range L.length).map f).sum ≤ Rows.uptoBulkAll L
  | [], _, _ => by simp
  | x :: r, f, h => by
    have h0 := h 0 (by simp)
    have ih := sum_bulk r (fun i => f (i + 1)) (fun i hi => by have := h (i + 1) (by simpa using hi); simpa using this)
    rw [List.length_cons, List.range_succ_eq_map, List.map_cons, List.sum_cons, List.map_map]
    simp only [Rows.uptoBulkAll, List.getElem_cons_zero] at h0 ⊢
    have e : (List.map (f ∘ Nat.succ) (List.range r.length)).sum = (List.map (fun i => f (i + 1)) (List.range r.length)).sum := rfl
    rw [e]
    omega
/-- What a step of an argument holds to. -/
def StepB (s : Stp) : Prop := (-9223372036854775808 ≤ s.n ∧ s.n < 9223372036854775808) ∧ (-9223372036854775808 ≤ s.sector ∧ s.sector < 9223372036854775808) ∧ s.fates.length ≤ 1048576 ∧ ∀ f ∈ s.fates, f.junk.size ≤ 1048576
theorem open_rowm {T H : Type} [Inhabited (T × List Value)] {enc : TypeId × Value → H} {W : World} {t e : TypeId} {size : Nat} (hu : Tryd.prog.underlying t = some (.slice e)) (hc : Tryd.prog.cellsOf e = size) (hp : 0 < size) (B : Nat) (R : T → List Value → Prop) (m : T → Nat)
    (fuel : Nat) (v : Value) (x : DataW H × List MemPlace) (h : DataW.trod enc Tryd.prog W 0 (fun _ => true) true fuel t [v] = some x) (hb : Rows.uptoBulk x.1 ≤ B)
    (each : ∀ k cs y, DataW.trod enc Tryd.prog W 0 (fun _ => true) true k e cs = some y → cs.length = size → Rows.uptoBulk y.1 ≤ B → ∃ q : T, R q cs ∧ m q ≤ Rows.uptoBulk y.1) :
    ∃ (l : List T) (a : Option Addr) (cap g off : Nat) (css : Nat → List Value), v = .slice a l.length cap ∧ (l.length ≤ B ∧ (l.map m).sum ≤ B) ∧ (0 < l.length → a = some ⟨g, off, none⟩) ∧
      ∀ i (h : i < l.length), R l[i] (css i) ∧ (css i).length = size ∧ ∀ j, j < size → W.cell? ⟨g, off + i * size + j, none⟩ = (css i)[j]? := by
  rcases DataW.trod_slice hu h with ⟨h0, _⟩ | ⟨a, len, cap, elems, rest, n, hn, hv, hx, _, hl, hm, hlen, hel, _⟩
  · simp only [List.cons.injEq, and_true] at h0
    subst h0
    exact ⟨[], none, 0, 0, 0, fun _ => [], rfl, ⟨Nat.zero_le _, Nat.zero_le _⟩, fun h => absurd h (by simp), fun i h => absurd h (by simp)⟩
  · simp only [List.cons.injEq, and_true] at hv
    subst hv hx hn
    simp only [Rows.uptoBulk] at hb
    have hlB : len ≤ B := by
      have := bulk_len (List.map (fun x => x.1) elems)
      rw [List.length_map, hlen] at this
      omega
    have each' : ∀ i, i < len → ∃ q : T × List Value, (R q.1 q.2 ∧ ∀ h : i < (List.map (fun x => x.1) elems).length, m q.1 ≤ Rows.uptoBulk (List.map (fun x => x.1) elems)[i]) ∧ q.2.length = size ∧ ∀ j, j < size → W.cell? ((a.add (i * size)).add j) = q.2[j]? := by
      intro i hi
      have h1 := hel i hi
      rw [hc, List.getElem?_eq_getElem (by omega)] at h1
      obtain ⟨cs', h2, h3⟩ := Option.bind_eq_some_iff.1 h1
      obtain ⟨_, hcl, hcell⟩ := World.cells?_some h2
      have hmem := bulk_part (l := List.map (fun x => x.1) elems) (List.mem_map.2 ⟨elems[i], List.getElem_mem (by omega), rfl⟩)
      obtain ⟨q, hq, hm⟩ := each n cs' _ h3 hcl (by omega)
      exact ⟨(q, cs'), ⟨hq, fun h => by rw [List.getElem_map]; exact hm⟩, hcl, fun j hj => hcell j (by omega)⟩
    obtain ⟨q, hq⟩ := Deep.choose_lt (α := T × List Value) each'
    have hsum : (((List.range len).map fun i => (q i).1).map m).sum ≤ B := by
      have h0 := sum_bulk (List.map (fun x => x.1) elems) (fun i => m (q i).1) (fun i hi => (hq i (by rw [List.length_map, hlen] at hi; exact hi)).1.2 hi)
      rw [List.length_map, hlen] at h0
      rw [List.map_map]
      exact Nat.le_trans h0 (by omega)
    refine ⟨(List.range len).map fun i => (q i).1, some a, cap, a.block, a.off, fun i => (q i).2, by simp, ⟨by simpa using hlB, hsum⟩, fun h => ?_, fun i h => ?_⟩
    · have h0 : 0 < len := by simpa using h
      obtain ⟨_, hl0, hc0⟩ := hq 0 h0
      have := hc0 0 hp
      rw [Nat.zero_mul, List.getElem?_eq_getElem (by omega)] at this
      exact congrArg some (spot_none (a := a) this)
    · have hi : i < len := by simpa using h
      obtain ⟨hr, hl1, hc1⟩ := hq i hi
      refine ⟨by simpa using hr.1, hl1, fun j hj => ?_⟩
      have h00 := (hq 0 (by omega)).2.2 0 hp
      rw [Nat.zero_mul, List.getElem?_eq_getElem (by have := (hq 0 (by omega)).2.1; omega)] at h00
      have ea := spot_none (a := a) h00
      have := hc1 j hj
      rw [ea, add_plain, add_plain] at this
      exact this

set_option maxRecDepth 100000 in
theorem open_fatesm {H : Type} {enc : TypeId × Value → H} {W : World} (fuel : Nat) (v : Value) (x : DataW H × List MemPlace)
    (h : DataW.trod enc Tryd.prog W 0 (fun _ => true) true fuel 26 [v] = some x) (hb : Rows.uptoBulk x.1 ≤ 1048576) : ∃ l, FatesIn W v l ∧ l.length ≤ Rows.uptoBulk x.1 ∧ ∀ f ∈ l, f.junk.size ≤ 1048576 := by
  obtain ⟨l, a, cap, g, off, css, hv, hl, ha, hc⟩ := open_row (T := Fate) Tryd.underlying26 cellsFate (by decide) (Rows.uptoBulk x.1) (fun q cs => cs = [.int .i64 q.ix, .int .i64 q.kind, .int .i64 q.cut, .string q.junk] ∧ q.junk.size ≤ 1048576) fuel v x h (Nat.le_refl _) (by
    intro k cs y hy hcl hby
    obtain ⟨xs, k', _, hxy, _, hxl, hf⟩ := DataW.trod_struct Tryd.underlying92 hy
    match xs, hxl, cs, hcl with
    | [y0, y1, y2, y3], _, [v0, v1, v2, v3], _ =>
      have g0 := hf 0 _ rfl
      have g1 := hf 1 _ rfl
      have g2 := hf 2 _ rfl
      have g3 := hf 3 _ rfl
      simp [cellsInt, cellsStr] at g0 g1 g2 g3
      obtain ⟨k0, d0, rfl, w0⟩ := DataW.trod_int Tryd.underlying3 g0
      obtain ⟨k1, d1, rfl, w1⟩ := DataW.trod_int Tryd.underlying3 g1
      obtain ⟨k2, d2, rfl, w2⟩ := DataW.trod_int Tryd.underlying3 g2
      obtain ⟨t0, d3, rfl, w3⟩ := DataW.trod_string Tryd.underlying9 g3
      simp only [List.cons.injEq, and_true] at d0 d1 d2 d3
      rw [hxy] at hby
      simp only [List.map_cons, List.map_nil, Rows.uptoBulk, Rows.uptoBulkAll, bsize] at hby
      exact ⟨⟨k0, k1, k2, t0⟩, by rw [d0, d1, d2, d3], by simp only []; omega⟩)
  refine ⟨l, ⟨a, cap, g, off, hv, by omega, ha, fun j u hj => ?_⟩, hl, fun f hf => ?_⟩
  rotate_left
  · obtain ⟨i, hi, rfl⟩ := List.getElem_of_mem hf
    exact (hc i hi).1.2
  have hjl : j < l.length * 4 := by
    have := (List.getElem?_eq_some_iff.1 hj).1
    rw [fateCells_len] at this; exact this
  rcases (show j % 4 = 0 ∨ j % 4 = 1 ∨ j % 4 = 2 ∨ j % 4 = 3 by omega) with h0 | h0 | h0 | h0
  · obtain ⟨q, rfl⟩ : ∃ q, j = q * 4 := ⟨j / 4, by omega⟩
    obtain ⟨⟨hR, _⟩, _, hcell⟩ := hc q (by omega)
    rw [hR] at hcell
    rw [(fateCells_get l q (by omega)).1] at hj
    rw [← hj]; exact hcell 0 (by omega)
  · obtain ⟨q, rfl⟩ : ∃ q, j = q * 4 + 1 := ⟨j / 4, by omega⟩
    obtain ⟨⟨hR, _⟩, _, hcell⟩ := hc q (by omega)
    rw [hR] at hcell
    rw [(fateCells_get l q (by omega)).2.1] at hj
    rw [← hj]; exact hcell 1 (by omega)
  · obtain ⟨q, rfl⟩ : ∃ q, j = q * 4 + 2 := ⟨j / 4, by omega⟩
    obtain ⟨⟨hR, _⟩, _, hcell⟩ := hc q (by omega)
    rw [hR] at hcell
    rw [(fateCells_get l q (by omega)).2.2.1] at hj
    rw [← hj]; exact hcell 2 (by omega)
  · obtain ⟨q, rfl⟩ : ∃ q, j = q * 4 + 3 := ⟨j / 4, by omega⟩
    obtain ⟨⟨hR, _⟩, _, hcell⟩ := hc q (by omega)
    rw [hR] at hcell
    rw [(fateCells_get l q (by omega)).2.2.2] at hj
    rw [← hj]; exact hcell 3 (by omega)

set_option maxRecDepth 100000 in
theorem open_stepsm {H : Type} {enc : TypeId × Value → H} {W : World} (fuel : Nat) (v : Value) (x : DataW H × List MemPlace)
    (h : DataW.trod enc Tryd.prog W 0 (fun _ => true) true fuel 23 [v] = some x) (hb : Rows.uptoBulk x.1 ≤ 1048576) : ∃ l, StepsIn W v l ∧ StepsT l := by
  obtain ⟨l, a, cap, g, off, css, hv, hl, ha, hc⟩ := open_rowm (T := Stp × Value) Tryd.underlying23 cellsStep (by decide) 1048576 (fun q cs => cs = [.int .i64 q.1.kind, .int .i64 q.1.sector, .int .i64 q.1.n, .string q.1.data, q.2] ∧ FatesIn W q.2 q.1.fates ∧ q.1.n < 9223372036854775808 ∧ q.1.data.size ≤ 1048576 ∧ StepB q.1) (fun q => q.1.fates.length) fuel v x h hb (by
    intro k cs y hy hcl hby
    obtain ⟨xs, k', _, hxy, _, hxl, hf⟩ := DataW.trod_struct Tryd.underlying35 hy
    match xs, hxl, cs, hcl with
    | [y0, y1, y2, y3, y4], _, [v0, v1, v2, v3, v4], _ =>
      have g0 := hf 0 _ rfl
      have g1 := hf 1 _ rfl
      have g2 := hf 2 _ rfl
      have g3 := hf 3 _ rfl
      have g4 := hf 4 _ rfl
      simp [cellsInt, cellsStr, cellsFates] at g0 g1 g2 g3 g4
      obtain ⟨k0, d0, rfl, w0⟩ := DataW.trod_int Tryd.underlying3 g0
      obtain ⟨k1, d1, rfl, w1⟩ := DataW.trod_int Tryd.underlying3 g1
      obtain ⟨k2, d2, rfl, w2⟩ := DataW.trod_int Tryd.underlying3 g2
      obtain ⟨t0, d3, rfl, w3⟩ := DataW.trod_string Tryd.underlying9 g3
      simp only [List.cons.injEq, and_true] at d0 d1 d2 d3
      rw [hxy] at hby
      simp only [List.map_cons, List.map_nil, Rows.uptoBulk, Rows.uptoBulkAll, bsize] at hby
      obtain ⟨lf, hlf, hlb, hlj⟩ := open_fatesm k' v4 y4 g4 (by omega)
      exact ⟨(⟨k0, k1, k2, t0, lf⟩, v4), ⟨by rw [d0, d1, d2, d3], hlf, by have := (bounds_i64 w2).2; simp only []; omega, by simp only []; omega, ⟨by have := bounds_i64 w2; simp only []; omega, by have := bounds_i64 w1; simp only []; omega, by simp only []; omega, hlj⟩⟩, by rw [hxy]; simp only [List.map_cons, List.map_nil, Rows.uptoBulk, Rows.uptoBulkAll]; omega⟩)
  refine ⟨l.map (·.1), ⟨a, cap, g, off, l.map (·.2), by rw [List.length_map]; exact hv, by rw [List.length_map]; exact hl.1, by rw [List.length_map]; exact ha, by simp, fun i hi hi' => ?_⟩, ⟨?_, fun s hs => ?_⟩⟩
  rotate_left
  · have := hl.2
    unfold totF
    rw [List.map_map]
    exact this
  · obtain ⟨q, hq, rfl⟩ := List.mem_map.1 hs
    obtain ⟨i, hi, rfl⟩ := List.getElem_of_mem hq
    obtain ⟨⟨_, _, _, _, hB⟩, _⟩ := hc i hi
    exact hB
  rw [List.length_map] at hi
  obtain ⟨⟨hR, h1, h2, h3, _⟩, _, hcell⟩ := hc i hi
  simp only [List.getElem_map]
  rw [hR] at hcell
  exact ⟨⟨hcell 0 (by omega), hcell 1 (by omega), hcell 2 (by omega), hcell 3 (by omega), hcell 4 (by omega)⟩, h1, h2, h3⟩


set_option maxRecDepth 100000 in
/-- A script's argument, with all its fates together. -/
theorem open_scrm {H : Type} {enc : TypeId × Value → H} {W : World} {r : Reach} {b0 : Nat} {v : Value} {d : DataW H} {p : List MemPlace} (hv : Value.okWide Tryd.prog W r b0 25 v)
    (h : DataW.Trod enc Tryd.prog W 0 (fun _ => true) true 25 v d p) (hb : Rows.uptoBulk d ≤ 1048576) :
    ∃ X fv sv first steps, v = .agg #[.int .i64 X, fv, sv] ∧ ScrIn W X fv sv first steps ∧ StepsT steps := by
  obtain ⟨cs, rfl, hsz⟩ := okWide_struct Tryd.underlying25 hv
  rw [cellsScript] at hsz
  obtain ⟨fuel, hf0⟩ := h
  obtain ⟨xs, k', _, hxy, hcl, hxl, hf⟩ := DataW.trod_struct Tryd.underlying25 hf0
  obtain ⟨cl⟩ := cs
  simp only [Value.cells] at hf
  simp only [Prod.mk.injEq] at hxy
  match xs, hxl, cl, hsz with
  | [y0, y1, y2], _, [v0, v1, v2], _ =>
    have g0 := hf 0 _ rfl
    have g1 := hf 1 _ rfl
    have g2 := hf 2 _ rfl
    simp [cellsInt, cellsSecs, cellsSteps] at g0 g1 g2
    obtain ⟨k0, d0, rfl, w0⟩ := DataW.trod_int Tryd.underlying3 g0
    simp only [List.cons.injEq, and_true] at d0
    rw [hxy.1] at hb
    simp only [List.map_cons, List.map_nil, Rows.uptoBulk, Rows.uptoBulkAll] at hb
    obtain ⟨l1, hl1, hn1⟩ := open_secs k' v1 y1 g1 (by omega)
    obtain ⟨l2, hl2, ht2⟩ := open_stepsm k' v2 y2 g2 (by omega)
    exact ⟨k0, v1, v2, l1, l2, by rw [d0], ⟨bounds_i64 w0, hl1, hn1, hl2⟩, ht2⟩

end Go.Proofs.YtdieacdkomiooabDoor
