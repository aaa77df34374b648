import Derived.Test.YtlopimdnjookeabDoorLaid5
import Derived.Test.YtlopimdnjookeabDoorSame
import Derived.Deep.Slices
namespace Go.Proofs.YtlopimdnjookeabDoor
open Go.ChangeShapes Go.WideShapes Go.ChangeAt Go.WideMaps Go.WideElems Go.RowKit Go.Joins

theorem weightsAll_mem {H : Type} {P : Program} {e : TypeId} : ∀ {l : List (DataW H)} {d : DataW H}, d ∈ l → ∀ n ∈ d.weights P e, n ∈ DataW.weightsAll P e l
  | d' :: r, d, hd, n, hn => by
    simp only [DataW.weightsAll, List.mem_append]
    rcases List.mem_cons.1 hd with rfl | h
    · exact Or.inl hn
    · exact Or.inr (weightsAll_mem h n hn)
theorem spot_none {W : World} {a : Addr} {v : Value} (h : W.cell? a = some v) : a = ⟨a.block, a.off, none⟩ := by
  have hsp : a.spot = none := by
    unfold World.cell? at h
    split at h
    · split at h
      · cases h
      · rename_i hs; simpa using hs
    · cases h
  cases a; simp at hsp; rw [hsp]
theorem add_plain (b o c : Nat) : (⟨b, o, none⟩ : Addr).add c = ⟨b, o + c, none⟩ := by
  unfold Addr.add
  split
  · rename_i h; rw [h, Nat.add_zero]
  · rfl

/-- A row that the argument holds, by weights: its elements' cells, one after another. -/
theorem open_rowz {H : Type} {enc : TypeId × Value → H} {W : World} {t e : TypeId} {size bs : Nat} (hu : Tryd.prog.underlying t = some (.slice e)) (hc : Tryd.prog.cellsOf e = size) (hy : Tryd.prog.bytesOf e = bs) (hp : 0 < size) (hq : 0 < bs) (R : List Value → Prop)
    (fuel : Nat) (v : Value) (x : DataW H × List MemPlace) (h : DataW.trod enc Tryd.prog W 0 (fun _ => true) true fuel t [v] = some x) (hw : ∀ z ∈ x.1.weights Tryd.prog t, z ≤ reachBytes)
    (each : ∀ k cs y, DataW.trod enc Tryd.prog W 0 (fun _ => true) true k e cs = some y → cs.length = size → (∀ z ∈ y.1.weights Tryd.prog e, z ≤ reachBytes) → R cs) :
    ∃ (a : Option Addr) (len cap : Nat), v = .slice a len cap ∧ len ≤ reachBytes ∧
      ∀ i, i < len → ∃ g off cs, a = some ⟨g, off, none⟩ ∧ g < W.heap.size ∧ R cs ∧ cs.length = size ∧ ∀ j, j < size → W.cell? ⟨g, off + i * size + j, none⟩ = cs[j]? := by
  rcases DataW.trod_slice hu h with ⟨h0, _⟩ | ⟨a, len, cap, elems, rest, n, hn, hv, hx, _, hl, hm, hlen, hel, _⟩
  · simp only [List.cons.injEq, and_true] at h0
    subst h0
    exact ⟨none, 0, 0, rfl, Nat.zero_le _, fun i h => absurd h (by simp)⟩
  · simp only [List.cons.injEq, and_true] at hv
    subst hv hx hn
    have hwt : (elems.length + rest.length) * bs ≤ reachBytes := hw _ (by
      simp only [DataW.weights, hu, hy, List.length_map]
      exact List.mem_cons_self)
    have hlB : len ≤ reachBytes := by
      have h1 : len * 1 ≤ (elems.length + rest.length) * bs := Nat.mul_le_mul (by omega) hq
      omega
    have each' : ∀ i, i < len → ∃ cs, R cs ∧ cs.length = size ∧ ∀ j, j < size → W.cell? ((a.add (i * size)).add j) = cs[j]? := by
      intro i hi
      have h1 := hel i hi
      rw [hc, List.getElem?_eq_getElem (by omega)] at h1
      obtain ⟨cs', h2, h3⟩ := Option.bind_eq_some_iff.1 h1
      obtain ⟨_, hcl, hcell⟩ := World.cells?_some h2
      refine ⟨cs', each n cs' _ h3 hcl (fun z hz => hw z ?_), hcl, fun j hj => hcell j (by omega)⟩
      simp only [DataW.weights, hu]
      exact List.mem_cons_of_mem _ (List.mem_append_left _ (weightsAll_mem (List.mem_map.2 ⟨elems[i], List.getElem_mem (by omega), rfl⟩) z hz))
    refine ⟨some a, len, cap, rfl, hlB, fun i hi => ?_⟩
    obtain ⟨cs0, _, hl0, hc0⟩ := each' 0 (by omega)
    have h00 := hc0 0 hp
    rw [Nat.zero_mul, List.getElem?_eq_getElem (by omega)] at h00
    have ea := spot_none (a := a) h00
    obtain ⟨cs, hr, hl1, hc1⟩ := each' i hi
    refine ⟨a.block, a.off, cs, congrArg some ea, World.block_lt_of_cell? W a h00, hr, hl1, fun j hj => ?_⟩
    have := hc1 j hj
    rw [ea, add_plain, add_plain] at this
    exact this


theorem cells_sl : Tryd.prog.cellsOf 22 = 1 := by kernel_rfl

set_option maxRecDepth 100000 in
theorem open_bytes {H : Type} {enc : TypeId × Value → H} {W : World} (fuel : Nat) (v : Value) (x : DataW H × List MemPlace)
    (h : DataW.trod enc Tryd.prog W 0 (fun _ => true) true fuel 22 [v] = some x) (hw : ∀ z ∈ x.1.weights Tryd.prog 22, z ≤ reachBytes) :
    ∃ (a : Option Addr) (n cap : Nat) (l : List UInt8), v = .slice a n cap ∧ RdA W v l ∧ l.length ≤ 140737488351232 := by
  obtain ⟨a, len, cap, hv, hl, hc⟩ := open_rowz Tryd.underlying22 cellsB5 bytes5 (by decide) (by decide) (fun cs => ∃ b : UInt8, cs = [.int .u8 (b.toNat : Int)]) fuel v x h hw (by
    intro k cs y hy hcl _
    obtain ⟨k0, d0, rfl, w0⟩ := DataW.trod_int Tryd.underlying5 hy
    have hb : 0 ≤ k0 ∧ k0 ≤ 255 := bounds_u8 w0
    refine ⟨UInt8.ofNat k0.toNat, ?_⟩
    rw [d0]
    simp only [UInt8.toNat_ofNat', List.cons.injEq, Value.int.injEq, true_and, and_true]
    omega)
  have hch : ∀ i : Fin len, ∃ b : UInt8, ∀ g off, a = some ⟨g, off, none⟩ → W.cell? ⟨g, off + i.1, none⟩ = some (.int .u8 (b.toNat : Int)) := fun i => by
    obtain ⟨g, off, cs, ha, hg, ⟨b, rfl⟩, _, hcell⟩ := hc i.1 i.2
    refine ⟨b, fun g' off' ha' => ?_⟩
    rw [ha] at ha'
    cases ha'
    have := hcell 0 (by decide)
    rw [Nat.mul_one, Nat.add_zero] at this
    exact this
  obtain ⟨f, hf⟩ := Classical.axiomOfChoice hch
  refine ⟨a, len, cap, List.ofFn f, hv, ⟨a, cap, by rw [hv, List.length_ofFn], fun j hj => ?_⟩, by rw [List.length_ofFn, ← reach_val]; exact hl⟩
  rw [List.length_ofFn] at hj
  obtain ⟨g, off, cs, ha, _⟩ := hc j hj
  refine ⟨g, off, ha, ?_⟩
  rw [List.getElem_ofFn]
  exact hf ⟨j, hj⟩ g off ha

theorem cellsSlotted : Tryd.prog.cellsOf 24 = 3 := by kernel_rfl
set_option maxRecDepth 100000 in
theorem open_slotted {H : Type} {enc : TypeId × Value → H} {W : World} {r : Reach} {b0 : Nat} {v : Value} {d : DataW H} {p : List MemPlace} (hv : Value.okWide Tryd.prog W r b0 24 v)
    (h : DataW.Trod enc Tryd.prog W 0 (fun _ => true) true 24 v d p) (hw : ∀ z ∈ d.weights Tryd.prog 24, z ≤ reachBytes) :
    ∃ a n c l pages slot, v = .agg #[.slice a n c, .int .i64 pages, .int .i64 slot] ∧ RdA W (.slice a n c) l ∧ l.length ≤ 140737488351232 ∧ (-9223372036854775808 ≤ pages ∧ pages ≤ 9223372036854775807) ∧ (-9223372036854775808 ≤ slot ∧ slot ≤ 9223372036854775807) := by
  obtain ⟨cs, rfl, hsz⟩ := okWide_struct Tryd.underlying24 hv
  rw [cellsSlotted] at hsz
  obtain ⟨fuel, hf0⟩ := h
  obtain ⟨xs, k', _, hxy, hcl, hxl, hf⟩ := DataW.trod_struct Tryd.underlying24 hf0
  obtain ⟨cl⟩ := cs
  simp only [Value.cells] at hf
  simp only [Prod.mk.injEq] at hxy
  match xs, hxl, cl, hsz with
  | [y0, y1, y2], _, [v0, v1, v2], _ =>
    have g0 := hf 0 _ rfl
    have g1 := hf 1 _ rfl
    have g2 := hf 2 _ rfl
    simp [cellsInt, cells_sl] at g0 g1 g2
    obtain ⟨k1, d1, rfl, w1⟩ := DataW.trod_int Tryd.underlying3 g1
    obtain ⟨k2, d2, rfl, w2⟩ := DataW.trod_int Tryd.underlying3 g2
    simp only [List.cons.injEq, and_true] at d1 d2
    rw [hxy.1] at hw
    obtain ⟨a, n, c, l, rfl, hrd, hl⟩ := open_bytes k' v0 y0 g0 (fun z hz => hw z (by
      simp only [DataW.weights, Tryd.underlying24, List.map_cons, List.map_nil, DataW.weightsEach]
      simp [hz]))
    exact ⟨a, n, c, l, k1, k2, by rw [d1, d2], hrd, hl, bounds_i64 w1, bounds_i64 w2⟩

end Go.Proofs.YtlopimdnjookeabDoor
