import Derived.Test.YtdieacdkomiooabDoorAct3
import Derived.Test.YtdieacdkomiooabDoorRows
import Derived.ProofKit
import Derived.SizedLaws
import Derived.OpenShut
import Derived.Deep.Slices
import Derived.Lib.SmallJoins
namespace Go.Proofs.YtdieacdkomiooabDoor
open Go.RowKit

theorem bulk_one {H : Type} (d : DataW H) : 1 ≤ Rows.uptoBulk d := by
  cases d with
  | lit l => cases l <;> simp [Rows.uptoBulk]
  | nil => simp [Rows.uptoBulk]
  | ptr d => simp [Rows.uptoBulk]
  | slice elems spare => simp [Rows.uptoBulk]
  | agg parts => simp [Rows.uptoBulk]
  | iface t d => simp [Rows.uptoBulk]
  | map entries => simp [Rows.uptoBulk]
  | held h => simp [Rows.uptoBulk]
theorem bulk_part {H : Type} {d : DataW H} : ∀ {l : List (DataW H)}, d ∈ l → Rows.uptoBulk d ≤ Rows.uptoBulkAll l
  | [], h => by cases h
  | x :: r, h => by
    simp only [Rows.uptoBulkAll]
    rcases List.mem_cons.1 h with e | e
    · subst e; omega
    · have := bulk_part e; omega
theorem bulk_len {H : Type} : ∀ l : List (DataW H), l.length ≤ Rows.uptoBulkAll l
  | [] => by simp [Rows.uptoBulkAll]
  | x :: r => by have := bulk_one x; have := bulk_len r; simp only [Rows.uptoBulkAll, List.length_cons]; omega

theorem spot_none {W : World} {a : Addr} {v : Value} (h : W.cell? a = some v) : a = ⟨a.block, a.off, none⟩ := by
  have hsp : a.spot = none := by
    unfold World.cell? at h
    split at h
    · split at h
      · cases h
      · rename_i hs; simpa using hs
    · cases h
  cases a; simp at hsp; rw [hsp]
theorem add_plain (b o c : Nat) : (⟨b, o, none⟩ : Addr).add c = ⟨b, o + c, none⟩ := by
  unfold Addr.add
  split
  · rename_i h; rw [h, Nat.add_zero]
  · rfl

theorem open_row {T H : Type} [Inhabited (T × List Value)] {enc : TypeId × Value → H} {W : World} {t e : TypeId} {size : Nat} (hu : Tryd.prog.underlying t = some (.slice e)) (hc : Tryd.prog.cellsOf e = size) (hp : 0 < size) (B : Nat) (R : T → List Value → Prop)
    (fuel : Nat) (v : Value) (x : DataW H × List MemPlace) (h : DataW.trod enc Tryd.prog W 0 (fun _ => true) true fuel t [v] = some x) (hb : Rows.uptoBulk x.1 ≤ B)
    (each : ∀ k cs y, DataW.trod enc Tryd.prog W 0 (fun _ => true) true k e cs = some y → cs.length = size → Rows.uptoBulk y.1 ≤ B → ∃ q : T, R q cs) :
    ∃ (l : List T) (a : Option Addr) (cap g off : Nat) (css : Nat → List Value), v = .slice a l.length cap ∧ l.length ≤ B ∧ (0 < l.length → a = some ⟨g, off, none⟩) ∧
      ∀ i (h : i < l.length), R l[i] (css i) ∧ (css i).length = size ∧ ∀ j, j < size → W.cell? ⟨g, off + i * size + j, none⟩ = (css i)[j]? := by
  rcases DataW.trod_slice hu h with ⟨h0, _⟩ | ⟨a, len, cap, elems, rest, n, hn, hv, hx, _, hl, hm, hlen, hel, _⟩
  · simp only [List.cons.injEq, and_true] at h0
    subst h0
    exact ⟨[], none, 0, 0, 0, fun _ => [], rfl, Nat.zero_le _, fun h => absurd h (by simp), fun i h => absurd h (by simp)⟩
  · simp only [List.cons.injEq, and_true] at hv
    subst hv hx hn
    simp only [Rows.uptoBulk] at hb
    have hlB : len ≤ B := by
      have := bulk_len (List.map (fun x => x.1) elems)
      rw [List.length_map, hlen] at this
      omega
    have each' : ∀ i, i < len → ∃ q : T × List Value, R q.1 q.2 ∧ q.2.length = size ∧ ∀ j, j < size → W.cell? ((a.add (i * size)).add j) = q.2[j]? := by
      intro i hi
      have h1 := hel i hi
      rw [hc, List.getElem?_eq_getElem (by omega)] at h1
      obtain ⟨cs', h2, h3⟩ := Option.bind_eq_some_iff.1 h1
      obtain ⟨_, hcl, hcell⟩ := World.cells?_some h2
      have hmem := bulk_part (l := List.map (fun x => x.1) elems) (List.mem_map.2 ⟨elems[i], List.getElem_mem (by omega), rfl⟩)
      obtain ⟨q, hq⟩ := each n cs' _ h3 hcl (by omega)
      exact ⟨(q, cs'), hq, hcl, fun j hj => hcell j (by omega)⟩
    obtain ⟨q, hq⟩ := Deep.choose_lt (α := T × List Value) each'
    refine ⟨(List.range len).map fun i => (q i).1, some a, cap, a.block, a.off, fun i => (q i).2, by simp, by simpa using hlB, fun h => ?_, fun i h => ?_⟩
    · have h0 : 0 < len := by simpa using h
      obtain ⟨_, hl0, hc0⟩ := hq 0 h0
      have := hc0 0 hp
      rw [Nat.zero_mul, List.getElem?_eq_getElem (by omega)] at this
      exact congrArg some (spot_none (a := a) this)
    · have hi : i < len := by simpa using h
      obtain ⟨hr, hl1, hc1⟩ := hq i hi
      refine ⟨by simpa using hr, hl1, fun j hj => ?_⟩
      have h00 := (hq 0 (by omega)).2.2 0 hp
      rw [Nat.zero_mul, List.getElem?_eq_getElem (by have := (hq 0 (by omega)).2.1; omega)] at h00
      have ea := spot_none (a := a) h00
      have := hc1 j hj
      rw [ea, add_plain, add_plain] at this
      exact this

theorem cellsInt : Tryd.prog.cellsOf 3 = 1 := by kernel_rfl
theorem cellsSec : Tryd.prog.cellsOf 68 = 2 := by kernel_rfl
theorem cellsFate : Tryd.prog.cellsOf 92 = 4 := by kernel_rfl
theorem cellsFates : Tryd.prog.cellsOf 26 = 1 := by kernel_rfl
theorem cellsStep : Tryd.prog.cellsOf 35 = 5 := by kernel_rfl
instance : Inhabited Sec := ⟨⟨0, ByteArray.empty⟩⟩
instance : Inhabited Fate := ⟨⟨0, 0, 0, ByteArray.empty⟩⟩
instance : Inhabited (Stp × Value) := ⟨(⟨0, 0, 0, ByteArray.empty, []⟩, .bool false)⟩

set_option maxRecDepth 100000 in
theorem open_secs {H : Type} {enc : TypeId × Value → H} {W : World} (fuel : Nat) (v : Value) (x : DataW H × List MemPlace)
    (h : DataW.trod enc Tryd.prog W 0 (fun _ => true) true fuel 22 [v] = some x) (hb : Rows.uptoBulk x.1 ≤ 1048576) : ∃ l, SecsIn W v l ∧ l.length ≤ 1048576 := by
  obtain ⟨l, a, cap, g, off, css, hv, hl, ha, hc⟩ := open_row (T := Sec) Tryd.underlying22 cellsSec (by decide) 1048576 (fun q cs => cs = [.int .i64 q.ix, .string q.dat]) fuel v x h hb (by
    intro k cs y hy hcl _
    obtain ⟨xs, k', _, hxy, _, hxl, hf⟩ := DataW.trod_struct Tryd.underlying68 hy
    match xs, hxl, cs, hcl with
    | [y0, y1], _, [v0, v1], _ =>
      have g0 := hf 0 _ rfl
      have g1 := hf 1 _ rfl
      simp [cellsInt, cellsStr] at g0 g1
      obtain ⟨k0, d0, rfl, w0⟩ := DataW.trod_int Tryd.underlying3 g0
      obtain ⟨t0, d1, rfl, w1⟩ := DataW.trod_string Tryd.underlying9 g1
      simp only [List.cons.injEq, and_true] at d0 d1
      exact ⟨⟨k0, t0⟩, by rw [d0, d1]⟩)
  refine ⟨l, ⟨a, cap, g, off, hv, by omega, ha, fun j u hj => ?_⟩, hl⟩
  have hjl : j < l.length * 2 := by
    have := (List.getElem?_eq_some_iff.1 hj).1
    rw [secCells_len] at this; exact this
  rcases (show j % 2 = 0 ∨ j % 2 = 1 by omega) with h0 | h0
  · obtain ⟨q, rfl⟩ : ∃ q, j = q * 2 := ⟨j / 2, by omega⟩
    obtain ⟨hR, _, hcell⟩ := hc q (by omega)
    rw [hR] at hcell
    rw [(secCells_get l q (by omega)).1] at hj
    rw [← hj]; exact hcell 0 (by omega)
  · obtain ⟨q, rfl⟩ : ∃ q, j = q * 2 + 1 := ⟨j / 2, by omega⟩
    obtain ⟨hR, _, hcell⟩ := hc q (by omega)
    rw [hR] at hcell
    rw [(secCells_get l q (by omega)).2] at hj
    rw [← hj]; exact hcell 1 (by omega)

set_option maxRecDepth 100000 in
theorem open_fates {H : Type} {enc : TypeId × Value → H} {W : World} (fuel : Nat) (v : Value) (x : DataW H × List MemPlace)
    (h : DataW.trod enc Tryd.prog W 0 (fun _ => true) true fuel 26 [v] = some x) (hb : Rows.uptoBulk x.1 ≤ 1048576) : ∃ l, FatesIn W v l ∧ l.length ≤ 1048576 ∧ ∀ f ∈ l, f.junk.size ≤ 1048576 := by
  obtain ⟨l, a, cap, g, off, css, hv, hl, ha, hc⟩ := open_row (T := Fate) Tryd.underlying26 cellsFate (by decide) 1048576 (fun q cs => cs = [.int .i64 q.ix, .int .i64 q.kind, .int .i64 q.cut, .string q.junk] ∧ q.junk.size ≤ 1048576) fuel v x h hb (by
    intro k cs y hy hcl hby
    obtain ⟨xs, k', _, hxy, _, hxl, hf⟩ := DataW.trod_struct Tryd.underlying92 hy
    match xs, hxl, cs, hcl with
    | [y0, y1, y2, y3], _, [v0, v1, v2, v3], _ =>
      have g0 := hf 0 _ rfl
      have g1 := hf 1 _ rfl
      have g2 := hf 2 _ rfl
      have g3 := hf 3 _ rfl
      simp [cellsInt, cellsStr] at g0 g1 g2 g3
      obtain ⟨k0, d0, rfl, w0⟩ := DataW.trod_int Tryd.underlying3 g0
      obtain ⟨k1, d1, rfl, w1⟩ := DataW.trod_int Tryd.underlying3 g1
      obtain ⟨k2, d2, rfl, w2⟩ := DataW.trod_int Tryd.underlying3 g2
      obtain ⟨t0, d3, rfl, w3⟩ := DataW.trod_string Tryd.underlying9 g3
      simp only [List.cons.injEq, and_true] at d0 d1 d2 d3
      rw [hxy] at hby
      simp only [List.map_cons, List.map_nil, Rows.uptoBulk, Rows.uptoBulkAll, bsize] at hby
      exact ⟨⟨k0, k1, k2, t0⟩, by rw [d0, d1, d2, d3], by simp only []; omega⟩)
  refine ⟨l, ⟨a, cap, g, off, hv, by omega, ha, fun j u hj => ?_⟩, hl, fun f hf => ?_⟩
  rotate_left
  · obtain ⟨i, hi, rfl⟩ := List.getElem_of_mem hf
    exact (hc i hi).1.2
  have hjl : j < l.length * 4 := by
    have := (List.getElem?_eq_some_iff.1 hj).1
    rw [fateCells_len] at this; exact this
  rcases (show j % 4 = 0 ∨ j % 4 = 1 ∨ j % 4 = 2 ∨ j % 4 = 3 by omega) with h0 | h0 | h0 | h0
  · obtain ⟨q, rfl⟩ : ∃ q, j = q * 4 := ⟨j / 4, by omega⟩
    obtain ⟨⟨hR, _⟩, _, hcell⟩ := hc q (by omega)
    rw [hR] at hcell
    rw [(fateCells_get l q (by omega)).1] at hj
    rw [← hj]; exact hcell 0 (by omega)
  · obtain ⟨q, rfl⟩ : ∃ q, j = q * 4 + 1 := ⟨j / 4, by omega⟩
    obtain ⟨⟨hR, _⟩, _, hcell⟩ := hc q (by omega)
    rw [hR] at hcell
    rw [(fateCells_get l q (by omega)).2.1] at hj
    rw [← hj]; exact hcell 1 (by omega)
  · obtain ⟨q, rfl⟩ : ∃ q, j = q * 4 + 2 := ⟨j / 4, by omega⟩
    obtain ⟨⟨hR, _⟩, _, hcell⟩ := hc q (by omega)
    rw [hR] at hcell
    rw [(fateCells_get l q (by omega)).2.2.1] at hj
    rw [← hj]; exact hcell 2 (by omega)
  · obtain ⟨q, rfl⟩ : ∃ q, j = q * 4 + 3 := ⟨j / 4, by omega⟩
    obtain ⟨⟨hR, _⟩, _, hcell⟩ := hc q (by omega)
    rw [hR] at hcell
    rw [(fateCells_get l q (by omega)).2.2.2] at hj
    rw [← hj]; exact hcell 3 (by omega)

set_option maxRecDepth 100000 in
theorem open_steps {H : Type} {enc : TypeId × Value → H} {W : World} (fuel : Nat) (v : Value) (x : DataW H × List MemPlace)
    (h : DataW.trod enc Tryd.prog W 0 (fun _ => true) true fuel 23 [v] = some x) (hb : Rows.uptoBulk x.1 ≤ 1048576) : ∃ l, StepsIn W v l := by
  obtain ⟨l, a, cap, g, off, css, hv, hl, ha, hc⟩ := open_row (T := Stp × Value) Tryd.underlying23 cellsStep (by decide) 1048576 (fun q cs => cs = [.int .i64 q.1.kind, .int .i64 q.1.sector, .int .i64 q.1.n, .string q.1.data, q.2] ∧ FatesIn W q.2 q.1.fates ∧ q.1.n < 9223372036854775808 ∧ q.1.data.size ≤ 1048576) fuel v x h hb (by
    intro k cs y hy hcl hby
    obtain ⟨xs, k', _, hxy, _, hxl, hf⟩ := DataW.trod_struct Tryd.underlying35 hy
    match xs, hxl, cs, hcl with
    | [y0, y1, y2, y3, y4], _, [v0, v1, v2, v3, v4], _ =>
      have g0 := hf 0 _ rfl
      have g1 := hf 1 _ rfl
      have g2 := hf 2 _ rfl
      have g3 := hf 3 _ rfl
      have g4 := hf 4 _ rfl
      simp [cellsInt, cellsStr, cellsFates] at g0 g1 g2 g3 g4
      obtain ⟨k0, d0, rfl, w0⟩ := DataW.trod_int Tryd.underlying3 g0
      obtain ⟨k1, d1, rfl, w1⟩ := DataW.trod_int Tryd.underlying3 g1
      obtain ⟨k2, d2, rfl, w2⟩ := DataW.trod_int Tryd.underlying3 g2
      obtain ⟨t0, d3, rfl, w3⟩ := DataW.trod_string Tryd.underlying9 g3
      simp only [List.cons.injEq, and_true] at d0 d1 d2 d3
      rw [hxy] at hby
      simp only [List.map_cons, List.map_nil, Rows.uptoBulk, Rows.uptoBulkAll, bsize] at hby
      obtain ⟨lf, hlf, _, _⟩ := open_fates k' v4 y4 g4 (by omega)
      exact ⟨(⟨k0, k1, k2, t0, lf⟩, v4), by rw [d0, d1, d2, d3], hlf, by have := (bounds_i64 w2).2; simp only []; omega, by simp only []; omega⟩)
  refine ⟨l.map (·.1), a, cap, g, off, l.map (·.2), by rw [List.length_map]; exact hv, by rw [List.length_map]; exact hl, by rw [List.length_map]; exact ha, by simp, fun i hi hi' => ?_⟩
  rw [List.length_map] at hi
  obtain ⟨⟨hR, h1, h2, h3⟩, _, hcell⟩ := hc i hi
  simp only [List.getElem_map]
  rw [hR] at hcell
  exact ⟨⟨hcell 0 (by omega), hcell 1 (by omega), hcell 2 (by omega), hcell 3 (by omega), hcell 4 (by omega)⟩, h1, h2, h3⟩

end Go.Proofs.YtdieacdkomiooabDoor
