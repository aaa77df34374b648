import Derived.Test.YtdieacdkomiooaaDoorLaid3
namespace Go.Proofs.YtdieacdkomiooaaDoor
open Go.ChangeShapes Go.WideShapes Go.ChangeAt Go.WideMaps Go.WideElems Go.RowKit

theorem open_roww {T H : Type} [Inhabited (T × List Value)] {enc : TypeId × Value → H} {W : World} {t e : TypeId} {size bs : Nat} (hu : Tryd.prog.underlying t = some (.slice e)) (hc : Tryd.prog.cellsOf e = size) (hy : Tryd.prog.bytesOf e = bs) (hp : 0 < size) (R : T → List Value → Prop)
    (fuel : Nat) (v : Value) (x : DataW H × List MemPlace) (h : DataW.trod enc Tryd.prog W 0 (fun _ => true) true fuel t [v] = some x) (hw : ∀ z ∈ x.1.weights Tryd.prog t, z ≤ reachBytes)
    (each : ∀ k cs y, DataW.trod enc Tryd.prog W 0 (fun _ => true) true k e cs = some y → cs.length = size → ∃ q : T, R q cs) :
    ∃ (l : List T) (a : Option Addr) (cap g off : Nat) (css : Nat → List Value), v = .slice a l.length cap ∧ l.length * bs ≤ reachBytes ∧ (0 < l.length → a = some ⟨g, off, none⟩) ∧
      ∀ i (h : i < l.length), R l[i] (css i) ∧ (css i).length = size ∧ ∀ j, j < size → W.cell? ⟨g, off + i * size + j, none⟩ = (css i)[j]? := by
  rcases DataW.trod_slice hu h with ⟨h0, _⟩ | ⟨a, len, cap, elems, rest, n, hn, hv, hx, _, hl, hm, hlen, hel, _⟩
  · simp only [List.cons.injEq, and_true] at h0
    subst h0
    exact ⟨[], none, 0, 0, 0, fun _ => [], rfl, by simp, fun h => absurd h (by simp), fun i h => absurd h (by simp)⟩
  · simp only [List.cons.injEq, and_true] at hv
    subst hv hx hn
    have hwt : (elems.length + rest.length) * bs ≤ reachBytes := hw _ (by
      simp only [DataW.weights, hu, hy, List.length_map]
      exact List.mem_cons_self)
    have hlB : len * bs ≤ reachBytes := Nat.le_trans (Nat.mul_le_mul_right _ (by omega)) hwt
    have each' : ∀ i, i < len → ∃ q : T × List Value, R q.1 q.2 ∧ q.2.length = size ∧ ∀ j, j < size → W.cell? ((a.add (i * size)).add j) = q.2[j]? := by
      intro i hi
      have h1 := hel i hi
      rw [hc, List.getElem?_eq_getElem (by omega)] at h1
      obtain ⟨cs', h2, h3⟩ := Option.bind_eq_some_iff.1 h1
      obtain ⟨_, hcl, hcell⟩ := World.cells?_some h2
      obtain ⟨q, hq⟩ := each n cs' _ h3 hcl
      exact ⟨(q, cs'), hq, hcl, fun j hj => hcell j (by omega)⟩
    obtain ⟨q, hq⟩ := Deep.choose_lt (α := T × List Value) each'
    refine ⟨(List.range len).map fun i => (q i).1, some a, cap, a.block, a.off, fun i => (q i).2, by simp, by simpa using hlB, fun h => ?_, fun i h => ?_⟩
    · have h0 : 0 < len := by simpa using h
      obtain ⟨_, hl0, hc0⟩ := hq 0 h0
      have := hc0 0 hp
      rw [Nat.zero_mul, List.getElem?_eq_getElem (by omega)] at this
      exact congrArg some (spot_none (a := a) this)
    · have hi : i < len := by simpa using h
      obtain ⟨hr, hl1, hc1⟩ := hq i hi
      refine ⟨by simpa using hr, hl1, fun j hj => ?_⟩
      have h00 := (hq 0 (by omega)).2.2 0 hp
      rw [Nat.zero_mul, List.getElem?_eq_getElem (by have := (hq 0 (by omega)).2.1; omega)] at h00
      have ea := spot_none (a := a) h00
      have := hc1 j hj
      rw [ea, add_plain, add_plain] at this
      exact this

theorem bytesSec : Tryd.prog.bytesOf 27 = 24 := by kernel_rfl
set_option maxRecDepth 100000 in
theorem open_secsw {H : Type} {enc : TypeId × Value → H} {W : World} (fuel : Nat) (v : Value) (x : DataW H × List MemPlace)
    (h : DataW.trod enc Tryd.prog W 0 (fun _ => true) true fuel 22 [v] = some x) (hw : ∀ z ∈ x.1.weights Tryd.prog 22, z ≤ reachBytes) : ∃ l, SecsIn W v l ∧ (l.length + 1) * 24 ≤ 140737488355328 := by
  obtain ⟨l, a, cap, g, off, css, hv, hl, ha, hc⟩ := open_roww (T := Sec) Tryd.underlying22 cellsSec bytesSec (by decide) (fun q cs => cs = [.int .i64 q.ix, .string q.dat]) fuel v x h hw (by
    intro k cs y hy hcl
    obtain ⟨xs, k', _, hxy, _, hxl, hf⟩ := DataW.trod_struct Tryd.underlying27 hy
    match xs, hxl, cs, hcl with
    | [y0, y1], _, [v0, v1], _ =>
      have g0 := hf 0 _ rfl
      have g1 := hf 1 _ rfl
      simp [cellsInt, cellsStr] at g0 g1
      obtain ⟨k0, d0, rfl, w0⟩ := DataW.trod_int Tryd.underlying3 g0
      obtain ⟨t0, d1, rfl, w1⟩ := DataW.trod_string Tryd.underlying9 g1
      simp only [List.cons.injEq, and_true] at d0 d1
      exact ⟨⟨k0, t0⟩, by rw [d0, d1]⟩)
  have hr : reachBytes = 140737488351232 := rfl
  refine ⟨l, ⟨a, cap, g, off, hv, by omega, ha, fun j u hj => ?_⟩, by omega⟩
  have hjl : j < l.length * 2 := by
    have := (List.getElem?_eq_some_iff.1 hj).1
    rw [secCells_len] at this; exact this
  rcases (show j % 2 = 0 ∨ j % 2 = 1 by omega) with h0 | h0
  · obtain ⟨q, rfl⟩ : ∃ q, j = q * 2 := ⟨j / 2, by omega⟩
    obtain ⟨hR, _, hcell⟩ := hc q (by omega)
    rw [hR] at hcell
    rw [(secCells_get l q (by omega)).1] at hj
    rw [← hj]; exact hcell 0 (by omega)
  · obtain ⟨q, rfl⟩ : ∃ q, j = q * 2 + 1 := ⟨j / 2, by omega⟩
    obtain ⟨hR, _, hcell⟩ := hc q (by omega)
    rw [hR] at hcell
    rw [(secCells_get l q (by omega)).2] at hj
    rw [← hj]; exact hcell 1 (by omega)

set_option maxRecDepth 100000 in
/-- A script's argument, by weights: its list of sectors. -/
theorem open_scrw {H : Type} {enc : TypeId × Value → H} {W : World} {r : Reach} {b0 : Nat} {v : Value} {d : DataW H} {p : List MemPlace} (hv : Value.okWide Tryd.prog W r b0 25 v)
    (h : DataW.Trod enc Tryd.prog W 0 (fun _ => true) true 25 v d p) (hw : ∀ z ∈ d.weights Tryd.prog 25, z ≤ reachBytes) :
    ∃ X fv sv first, v = .agg #[.int .i64 X, fv, sv] ∧ SecsIn W fv first ∧ (first.length + 1) * 24 ≤ 140737488355328 := by
  obtain ⟨cs, rfl, hsz⟩ := okWide_struct Tryd.underlying25 hv
  rw [cellsScript] at hsz
  obtain ⟨fuel, hf0⟩ := h
  obtain ⟨xs, k', _, hxy, hcl, hxl, hf⟩ := DataW.trod_struct Tryd.underlying25 hf0
  obtain ⟨cl⟩ := cs
  simp only [Value.cells] at hf
  simp only [Prod.mk.injEq] at hxy
  match xs, hxl, cl, hsz with
  | [y0, y1, y2], _, [v0, v1, v2], _ =>
    have g0 := hf 0 _ rfl
    have g1 := hf 1 _ rfl
    simp [cellsInt, cellsSecs] at g0 g1
    obtain ⟨k0, d0, rfl, w0⟩ := DataW.trod_int Tryd.underlying3 g0
    simp only [List.cons.injEq, and_true] at d0
    rw [hxy.1] at hw
    obtain ⟨l, hl, hn⟩ := open_secsw k' v1 y1 g1 (fun z hz => hw z (by
      simp only [DataW.weights, Tryd.underlying25, List.map_cons, List.map_nil, DataW.weightsEach]
      simp [hz]))
    exact ⟨k0, v1, v2, l, by rw [d0], hl, hn⟩

end Go.Proofs.YtdieacdkomiooaaDoor
