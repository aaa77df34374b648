import Derived.Test.YtlopimdnjookeabGreatDoorMPLaw
import Derived.Test.YtlopimdnjookeabGreatDoorLaid5
import Derived.Deep.Slices
namespace Go.Proofs.YtlopimdnjookeabGreatDoor
open Go.ChangeShapes Go.WideShapes Go.ChangeAt Go.WideMaps Go.WideElems Go.RowKit Go.Joins

theorem cellsFate : Tryz.prog.cellsOf 114 = 4 := by kernel_rfl
theorem cellsFates : Tryz.prog.cellsOf 34 = 1 := by kernel_rfl
theorem cellsStep : Tryz.prog.cellsOf 36 = 7 := by kernel_rfl
theorem cellsSteps : Tryz.prog.cellsOf 22 = 1 := by kernel_rfl
theorem cellsScript : Tryz.prog.cellsOf 24 = 2 := by kernel_rfl
instance : Inhabited V.Fate := ⟨⟨0, 0, 0, ByteArray.empty⟩⟩
instance : Inhabited (SStp × Value × Value) := ⟨(⟨0, 0, ⟨0, 0, 0⟩, [], []⟩, .bool false, .bool false)⟩
theorem bulk_one {H : Type} (d : DataW H) : 1 ≤ Rows.uptoBulk d := by
  cases d with
  | lit l => cases l <;> simp [Rows.uptoBulk]
  | nil => simp [Rows.uptoBulk]
  | ptr d => simp [Rows.uptoBulk]
  | slice elems spare => simp [Rows.uptoBulk]
  | agg parts => simp [Rows.uptoBulk]
  | iface t d => simp [Rows.uptoBulk]
  | map entries => simp [Rows.uptoBulk]
  | held h => simp [Rows.uptoBulk]
theorem bulk_part {H : Type} {d : DataW H} : ∀ {l : List (DataW H)}, d ∈ l → Rows.uptoBulk d ≤ Rows.uptoBulkAll l
  | [], h => by cases h
  | x :: r, h => by
    simp only [Rows.uptoBulkAll]
    rcases List.mem_cons.1 h with e | e
    · subst e; omega
    · have := bulk_part e; omega
theorem bulk_len {H : Type} : ∀ l : List (DataW H), l.length ≤ Rows.uptoBulkAll l
  | [] => by simp [Rows.uptoBulkAll]
  | x :: r => by have := bulk_one x; have := bulk_len r; simp only [Rows.uptoBulkAll, List.length_cons]; omega

theorem spot_none {W : World} {a : Addr} {v : Value} (h : W.cell? a = some v) : a = ⟨a.block, a.off, none⟩ := by
  have hsp : a.spot = none := by
    unfold World.cell? at h
    split at h
    · split at h
      · cases h
      · rename_i hs; simpa using hs
    · cases h
  cases a; simp at hsp; rw [hsp]
theorem add_plain (b o c : Nat) : (⟨b, o, none⟩ : Addr).add c = ⟨b, o + c, none⟩ := by
  unfold Addr.add
  split
  · rename_i h; rw [h, Nat.add_zero]
  · rfl

theorem sum_bulk {H : Type} : ∀ (L : List (DataW H)) (f : Nat → Nat), (∀ i (hi : i < L.length), f i ≤ Rows.uptoBulk L[i]) → ((List.range L.length).map f).sum ≤ Rows.uptoBulkAll L
  | [], _, _ => by simp
  | x :: r, f, h => by
    have h0 := h 0 (by simp)
    have ih := sum_bulk r (fun i => f (i + 1)) (fun i hi => by have := h (i + 1) (by simpa using hi); simpa using this)
    rw [List.length_cons, List.range_succ_eq_map, List.map_cons, List.sum_cons, List.map_map]
    simp only [Rows.uptoBulkAll, List.getElem_cons_zero] at h0 ⊢
    have e : (List.map (f ∘ Nat.succ) (List.range r.length)).sum = (List.map (fun i => f (i + 1)) (List.range r.length)).sum := rfl
    rw [e]
    omega
theorem open_rowm {T H : Type} [Inhabited (T × List Value)] {enc : TypeId × Value → H} {W : World} {t e : TypeId} {size : Nat} (hu : Tryz.prog.underlying t = some (.slice e)) (hc : Tryz.prog.cellsOf e = size) (hp : 0 < size) (B : Nat) (R : T → List Value → Prop) (m : T → Nat)
    (fuel : Nat) (v : Value) (x : DataW H × List MemPlace) (h : DataW.trod enc Tryz.prog W 0 (fun _ => true) true fuel t [v] = some x) (hb : Rows.uptoBulk x.1 ≤ B)
    (each : ∀ k cs y, DataW.trod enc Tryz.prog W 0 (fun _ => true) true k e cs = some y → cs.length = size → Rows.uptoBulk y.1 ≤ B → ∃ q : T, R q cs ∧ m q ≤ Rows.uptoBulk y.1) :
    ∃ (l : List T) (a : Option Addr) (cap g off : Nat) (css : Nat → List Value), v = .slice a l.length cap ∧ (l.length ≤ B ∧ (l.map m).sum ≤ B) ∧ (0 < l.length → a = some ⟨g, off, none⟩) ∧
      ∀ i (h : i < l.length), R l[i] (css i) ∧ (css i).length = size ∧ ∀ j, j < size → W.cell? ⟨g, off + i * size + j, none⟩ = (css i)[j]? := by
  rcases DataW.trod_slice hu h with ⟨h0, _⟩ | ⟨a, len, cap, elems, rest, n, hn, hv, hx, _, hl, hm, hlen, hel, _⟩
  · simp only [List.cons.injEq, and_true] at h0
    subst h0
    exact ⟨[], none, 0, 0, 0, fun _ => [], rfl, ⟨Nat.zero_le _, Nat.zero_le _⟩, fun h => absurd h (by simp), fun i h => absurd h (by simp)⟩
  · simp only [List.cons.injEq, and_true] at hv
    subst hv hx hn
    simp only [Rows.uptoBulk] at hb
    have hlB : len ≤ B := by
      have := bulk_len (List.map (fun x => x.1) elems)
      rw [List.length_map, hlen] at this
      omega
    have each' : ∀ i, i < len → ∃ q : T × List Value, (R q.1 q.2 ∧ ∀ h : i < (List.map (fun x => x.1) elems).length, m q.1 ≤ Rows.uptoBulk (List.map (fun x => x.1) elems)[i]) ∧ q.2.length = size ∧ ∀ j, j < size → W.cell? ((a.add (i * size)).add j) = q.2[j]? := by
      intro i hi
      have h1 := hel i hi
      rw [hc, List.getElem?_eq_getElem (by omega)] at h1
      obtain ⟨cs', h2, h3⟩ := Option.bind_eq_some_iff.1 h1
      obtain ⟨_, hcl, hcell⟩ := World.cells?_some h2
      have hmem := bulk_part (l := List.map (fun x => x.1) elems) (List.mem_map.2 ⟨elems[i], List.getElem_mem (by omega), rfl⟩)
      obtain ⟨q, hq, hm⟩ := each n cs' _ h3 hcl (by omega)
      exact ⟨(q, cs'), ⟨hq, fun h => by rw [List.getElem_map]; exact hm⟩, hcl, fun j hj => hcell j (by omega)⟩
    obtain ⟨q, hq⟩ := Deep.choose_lt (α := T × List Value) each'
    have hsum : (((List.range len).map fun i => (q i).1).map m).sum ≤ B := by
      have h0 := sum_bulk (List.map (fun x => x.1) elems) (fun i => m (q i).1) (fun i hi => (hq i (by rw [List.length_map, hlen] at hi; exact hi)).1.2 hi)
      rw [List.length_map, hlen] at h0
      rw [List.map_map]
      exact Nat.le_trans h0 (by omega)
    refine ⟨(List.range len).map fun i => (q i).1, some a, cap, a.block, a.off, fun i => (q i).2, by simp, ⟨by simpa using hlB, hsum⟩, fun h => ?_, fun i h => ?_⟩
    · have h0 : 0 < len := by simpa using h
      obtain ⟨_, hl0, hc0⟩ := hq 0 h0
      have := hc0 0 hp
      rw [Nat.zero_mul, List.getElem?_eq_getElem (by omega)] at this
      exact congrArg some (spot_none (a := a) this)
    · have hi : i < len := by simpa using h
      obtain ⟨hr, hl1, hc1⟩ := hq i hi
      refine ⟨by simpa using hr.1, hl1, fun j hj => ?_⟩
      have h00 := (hq 0 (by omega)).2.2 0 hp
      rw [Nat.zero_mul, List.getElem?_eq_getElem (by have := (hq 0 (by omega)).2.1; omega)] at h00
      have ea := spot_none (a := a) h00
      have := hc1 j hj
      rw [ea, add_plain, add_plain] at this
      exact this

theorem open_rowp {T H : Type} [Inhabited (T × List Value)] {enc : TypeId × Value → H} {W : World} {t e : TypeId} {size : Nat} (hu : Tryz.prog.underlying t = some (.slice e)) (hc : Tryz.prog.cellsOf e = size) (hp : 0 < size) (B : Nat) (R : T → List Value → Prop)
    (fuel : Nat) (v : Value) (x : DataW H × List MemPlace) (h : DataW.trod enc Tryz.prog W 0 (fun _ => true) true fuel t [v] = some x) (hb : Rows.uptoBulk x.1 ≤ B)
    (each : ∀ k cs y, DataW.trod enc Tryz.prog W 0 (fun _ => true) true k e cs = some y → cs.length = size → Rows.uptoBulk y.1 ≤ B → ∃ q : T, R q cs) :
    ∃ (l : List T) (a : Option Addr) (cap g off : Nat) (css : Nat → List Value), v = .slice a l.length cap ∧ (l.length ≤ B ∧ l.length ≤ cap) ∧ (0 < l.length → a = some ⟨g, off, none⟩) ∧
      ∀ i (h : i < l.length), R l[i] (css i) ∧ (css i).length = size ∧ ∀ j, j < size → W.cell? ⟨g, off + i * size + j, none⟩ = (css i)[j]? := by
  rcases DataW.trod_slice hu h with ⟨h0, _⟩ | ⟨a, len, cap, elems, rest, n, hn, hv, hx, _, hl, hm, hlen, hel, _⟩
  · simp only [List.cons.injEq, and_true] at h0
    subst h0
    exact ⟨[], none, 0, 0, 0, fun _ => [], rfl, ⟨Nat.zero_le _, Nat.zero_le _⟩, fun h => absurd h (by simp), fun i h => absurd h (by simp)⟩
  · simp only [List.cons.injEq, and_true] at hv
    subst hv hx hn
    simp only [Rows.uptoBulk] at hb
    have hlB : len ≤ B := by
      have := bulk_len (List.map (fun x => x.1) elems)
      rw [List.length_map, hlen] at this
      omega
    have each' : ∀ i, i < len → ∃ q : T × List Value, R q.1 q.2 ∧ q.2.length = size ∧ ∀ j, j < size → W.cell? ((a.add (i * size)).add j) = q.2[j]? := by
      intro i hi
      have h1 := hel i hi
      rw [hc, List.getElem?_eq_getElem (by omega)] at h1
      obtain ⟨cs', h2, h3⟩ := Option.bind_eq_some_iff.1 h1
      obtain ⟨_, hcl, hcell⟩ := World.cells?_some h2
      have hmem := bulk_part (l := List.map (fun x => x.1) elems) (List.mem_map.2 ⟨elems[i], List.getElem_mem (by omega), rfl⟩)
      obtain ⟨q, hq⟩ := each n cs' _ h3 hcl (by omega)
      exact ⟨(q, cs'), hq, hcl, fun j hj => hcell j (by omega)⟩
    obtain ⟨q, hq⟩ := Deep.choose_lt (α := T × List Value) each'
    refine ⟨(List.range len).map fun i => (q i).1, some a, cap, a.block, a.off, fun i => (q i).2, by simp, ⟨by simpa using hlB, by simpa using hl⟩, fun h => ?_, fun i h => ?_⟩
    · have h0 : 0 < len := by simpa using h
      obtain ⟨_, hl0, hc0⟩ := hq 0 h0
      have := hc0 0 hp
      rw [Nat.zero_mul, List.getElem?_eq_getElem (by omega)] at this
      exact congrArg some (spot_none (a := a) this)
    · have hi : i < len := by simpa using h
      obtain ⟨hr, hl1, hc1⟩ := hq i hi
      refine ⟨by simpa using hr, hl1, fun j hj => ?_⟩
      have h00 := (hq 0 (by omega)).2.2 0 hp
      rw [Nat.zero_mul, List.getElem?_eq_getElem (by have := (hq 0 (by omega)).2.1; omega)] at h00
      have ea := spot_none (a := a) h00
      have := hc1 j hj
      rw [ea, add_plain, add_plain] at this
      exact this

set_option maxRecDepth 100000 in
theorem open_fatesm {H : Type} {enc : TypeId × Value → H} {W : World} (fuel : Nat) (v : Value) (x : DataW H × List MemPlace)
    (h : DataW.trod enc Tryz.prog W 0 (fun _ => true) true fuel 34 [v] = some x) (hb : Rows.uptoBulk x.1 ≤ 1048576) : ∃ l, V.FatesIn W v l ∧ l.length ≤ Rows.uptoBulk x.1 ∧ ∀ f ∈ l, f.junk.size ≤ 1048576 := by
  obtain ⟨l, a, cap, g, off, css, hv, ⟨hl, -⟩, ha, hc⟩ := open_rowp (T := V.Fate) Tryz.underlying34 cellsFate (by decide) (Rows.uptoBulk x.1) (fun q cs => cs = [.int .i64 q.ix, .int .i64 q.kind, .int .i64 q.cut, .string q.junk] ∧ q.junk.size ≤ 1048576) fuel v x h (Nat.le_refl _) (by
    intro k cs y hy hcl hby
    obtain ⟨xs, k', _, hxy, _, hxl, hf⟩ := DataW.trod_struct Tryz.underlying114 hy
    match xs, hxl, cs, hcl with
    | [y0, y1, y2, y3], _, [v0, v1, v2, v3], _ =>
      have g0 := hf 0 _ rfl
      have g1 := hf 1 _ rfl
      have g2 := hf 2 _ rfl
      have g3 := hf 3 _ rfl
      simp [cellsInt, cells9] at g0 g1 g2 g3
      obtain ⟨k0, d0, rfl, w0⟩ := DataW.trod_int Tryz.underlying3 g0
      obtain ⟨k1, d1, rfl, w1⟩ := DataW.trod_int Tryz.underlying3 g1
      obtain ⟨k2, d2, rfl, w2⟩ := DataW.trod_int Tryz.underlying3 g2
      obtain ⟨t0, d3, rfl, w3⟩ := DataW.trod_string Tryz.underlying9 g3
      simp only [List.cons.injEq, and_true] at d0 d1 d2 d3
      rw [hxy] at hby
      simp only [List.map_cons, List.map_nil, Rows.uptoBulk, Rows.uptoBulkAll, bsize] at hby
      exact ⟨⟨k0, k1, k2, t0⟩, by rw [d0, d1, d2, d3], by simp only []; omega⟩)
  refine ⟨l, ⟨a, cap, g, off, hv, by omega, ha, fun j u hj => ?_⟩, hl, fun f hf => ?_⟩
  rotate_left
  · obtain ⟨i, hi, rfl⟩ := List.getElem_of_mem hf
    exact (hc i hi).1.2
  have hjl : j < l.length * 4 := by
    have := (List.getElem?_eq_some_iff.1 hj).1
    rw [V.fateCells_len] at this; exact this
  rcases (show j % 4 = 0 ∨ j % 4 = 1 ∨ j % 4 = 2 ∨ j % 4 = 3 by omega) with h0 | h0 | h0 | h0
  · obtain ⟨q, rfl⟩ : ∃ q, j = q * 4 := ⟨j / 4, by omega⟩
    obtain ⟨⟨hR, _⟩, _, hcell⟩ := hc q (by omega)
    rw [hR] at hcell
    rw [(V.fateCells_get l q (by omega)).1] at hj
    rw [← hj]; exact hcell 0 (by omega)
  · obtain ⟨q, rfl⟩ : ∃ q, j = q * 4 + 1 := ⟨j / 4, by omega⟩
    obtain ⟨⟨hR, _⟩, _, hcell⟩ := hc q (by omega)
    rw [hR] at hcell
    rw [(V.fateCells_get l q (by omega)).2.1] at hj
    rw [← hj]; exact hcell 1 (by omega)
  · obtain ⟨q, rfl⟩ : ∃ q, j = q * 4 + 2 := ⟨j / 4, by omega⟩
    obtain ⟨⟨hR, _⟩, _, hcell⟩ := hc q (by omega)
    rw [hR] at hcell
    rw [(V.fateCells_get l q (by omega)).2.2.1] at hj
    rw [← hj]; exact hcell 2 (by omega)
  · obtain ⟨q, rfl⟩ : ∃ q, j = q * 4 + 3 := ⟨j / 4, by omega⟩
    obtain ⟨⟨hR, _⟩, _, hcell⟩ := hc q (by omega)
    rw [hR] at hcell
    rw [(V.fateCells_get l q (by omega)).2.2.2] at hj
    rw [← hj]; exact hcell 3 (by omega)


set_option maxRecDepth 100000 in
theorem open_bytesm {H : Type} {enc : TypeId × Value → H} {W : World} (fuel : Nat) (v : Value) (x : DataW H × List MemPlace)
    (h : DataW.trod enc Tryz.prog W 0 (fun _ => true) true fuel 33 [v] = some x) (hb : Rows.uptoBulk x.1 ≤ 1048576) : ∃ l, PIn W v l ∧ l.length ≤ 1048576 := by
  obtain ⟨l, a, cap, g, off, css, hv, ⟨hl, hcap⟩, ha, hc⟩ := open_rowp (T := UInt8) Tryz.underlying33 cellsB5 (by decide) 1048576 (fun q cs => cs = [.int .u8 (q.toNat : Int)]) fuel v x h hb (by
    intro k cs y hy hcl _
    obtain ⟨k0, d0, rfl, w0⟩ := DataW.trod_int Tryz.underlying5 hy
    have hb : 0 ≤ k0 ∧ k0 ≤ 255 := bounds_u8 w0
    refine ⟨UInt8.ofNat k0.toNat, ?_⟩
    rw [d0]
    simp only [UInt8.toNat_ofNat', List.cons.injEq, Value.int.injEq, true_and, and_true]
    omega)
  refine ⟨l, ⟨a, cap, g, off, hv, hcap, hl, ha, fun j hj => ?_⟩, hl⟩
  obtain ⟨hR, _, hcell⟩ := hc j hj
  have := hcell 0 (by omega)
  rw [hR, Nat.mul_one, Nat.add_zero] at this
  exact this

set_option maxRecDepth 100000 in
theorem open_sstepsm {H : Type} {enc : TypeId × Value → H} {W : World} (fuel : Nat) (v : Value) (x : DataW H × List MemPlace)
    (h : DataW.trod enc Tryz.prog W 0 (fun _ => true) true fuel 22 [v] = some x) (hb : Rows.uptoBulk x.1 ≤ 1048576) : ∃ l, SStepsIn W v l ∧ SStepsT l := by
  obtain ⟨l, a, cap, g, off, css, hv, hl, ha, hc⟩ := open_rowm (T := SStp × Value × Value) Tryz.underlying22 cellsStep (by decide) 1048576 (fun q cs => cs = [.int .i64 q.1.kind, .int .i64 q.1.n, .int .i64 q.1.m.pages, .int .i64 q.1.m.root, .int .u64 (q.1.m.txid : Int), q.2.1, q.2.2] ∧ (PIn W q.2.1 q.1.data ∧ V.FatesIn W q.2.2 q.1.fates) ∧ SStepB q.1) (fun q => q.1.fates.length) fuel v x h hb (by
    intro k cs y hy hcl hby
    obtain ⟨xs, k', _, hxy, _, hxl, hf⟩ := DataW.trod_struct Tryz.underlying36 hy
    match xs, hxl, cs, hcl with
    | [y0, y1, y2, y3, y4], _, [v0, v1, v2, v3, v4, v5, v6], _ =>
      have g0 := hf 0 _ rfl
      have g1 := hf 1 _ rfl
      have g2 := hf 2 _ rfl
      have g3 := hf 3 _ rfl
      have g4 := hf 4 _ rfl
      simp [cellsInt, cellsSl, cellsFates, cellsMt] at g0 g1 g2 g3 g4
      obtain ⟨k0, d0, rfl, w0⟩ := DataW.trod_int Tryz.underlying3 g0
      obtain ⟨k1, d1, rfl, w1⟩ := DataW.trod_int Tryz.underlying3 g1
      obtain ⟨mt, hsh, rfl, hnum⟩ := open_meta_c g2
      simp only [List.cons.injEq, and_true] at d0 d1
      obtain ⟨P, R, Tx⟩ := mt
      simp only [Mt.cells, List.cons.injEq, and_true] at hsh
      obtain ⟨rfl, rfl, rfl⟩ := hsh
      rw [hxy] at hby
      simp only [Mt.dat, List.map_cons, List.map_nil, Rows.uptoBulk, Rows.uptoBulkAll] at hby
      obtain ⟨lp, hlp, hpb⟩ := open_bytesm k' v5 y3 g3 (by omega)
      obtain ⟨lf, hlf, hlb, hlj⟩ := open_fatesm k' v6 y4 g4 (by omega)
      refine ⟨(⟨k0, k1, ⟨P, R, Tx⟩, lp, lf⟩, v5, v6), ⟨by rw [d0, d1], ⟨hlp, hlf⟩, ⟨by have := bounds_i64 w1; simp only []; omega, hnum.2.2.2.2, hpb, by simp only []; omega, hlj⟩⟩, by rw [hxy]; simp only [List.map_cons, List.map_nil, Rows.uptoBulk, Rows.uptoBulkAll]; omega⟩)
  refine ⟨l.map (·.1), ⟨a, cap, g, off, l.map (·.2), by rw [List.length_map]; exact hv, by rw [List.length_map]; exact hl.1, by rw [List.length_map]; exact ha, by simp, fun i hi hi' => ?_⟩, ⟨?_, fun s hs => ?_⟩⟩
  rotate_left
  · have := hl.2
    unfold stotF
    rw [List.map_map]
    exact this
  · obtain ⟨q, hq, rfl⟩ := List.mem_map.1 hs
    obtain ⟨i, hi, rfl⟩ := List.getElem_of_mem hq
    obtain ⟨⟨_, _, hB⟩, _⟩ := hc i hi
    exact hB
  rw [List.length_map] at hi
  obtain ⟨⟨hR, h1, _⟩, _, hcell⟩ := hc i hi
  simp only [List.getElem_map]
  rw [hR] at hcell
  exact ⟨⟨hcell 0 (by omega), hcell 1 (by omega), hcell 2 (by omega), hcell 3 (by omega), hcell 4 (by omega), hcell 5 (by omega), hcell 6 (by omega)⟩, h1.1, h1.2⟩

set_option maxRecDepth 100000 in
/-- A script's argument, with all its fates together. -/
theorem open_sscript {H : Type} {enc : TypeId × Value → H} {W : World} {r : Reach} {b0 : Nat} {v : Value} {d : DataW H} {p : List MemPlace} (hv : Value.okWide Tryz.prog W r b0 24 v)
    (h : DataW.Trod enc Tryz.prog W 0 (fun _ => true) true 24 v d p) (hb : Rows.uptoBulk d ≤ 1048576) :
    ∃ X sv steps, v = .agg #[.int .i64 X, sv] ∧ SStepsIn W sv steps ∧ SStepsT steps := by
  obtain ⟨cs, rfl, hsz⟩ := okWide_struct Tryz.underlying24 hv
  rw [cellsScript] at hsz
  obtain ⟨fuel, hf0⟩ := h
  obtain ⟨xs, k', _, hxy, hcl, hxl, hf⟩ := DataW.trod_struct Tryz.underlying24 hf0
  obtain ⟨cl⟩ := cs
  simp only [Value.cells] at hf
  simp only [Prod.mk.injEq] at hxy
  match xs, hxl, cl, hsz with
  | [y0, y1], _, [v0, v1], _ =>
    have g0 := hf 0 _ rfl
    have g1 := hf 1 _ rfl
    simp [cellsInt, cellsSteps] at g0 g1
    obtain ⟨k0, d0, rfl, w0⟩ := DataW.trod_int Tryz.underlying3 g0
    simp only [List.cons.injEq, and_true] at d0
    rw [hxy.1] at hb
    simp only [List.map_cons, List.map_nil, Rows.uptoBulk, Rows.uptoBulkAll] at hb
    obtain ⟨l2, hl2, ht2⟩ := open_sstepsm k' v1 y1 g1 (by omega)
    exact ⟨k0, v1, l2, by rw [d0], hl2, ht2⟩

end Go.Proofs.YtlopimdnjookeabGreatDoor
