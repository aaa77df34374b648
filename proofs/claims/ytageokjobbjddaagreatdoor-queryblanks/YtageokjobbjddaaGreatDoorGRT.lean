import Derived.Test.YtageokjobbjddaaGreatDoorOwn
import Derived.ProofKit
import Derived.SizedLaws
import Derived.OpenShut
import Derived.Deep.Slices
import Derived.Lib.SmallJoins
import Derived.Test.YtageokjobbjddaaGreatDoorGRV
import Derived.Test.YtageokjobbjddaaGreatDoorErrsG
import Derived.LaidMore
import Derived.LaidSub
import Derived.Lay
import Derived.Stop.Joined
import Derived.Test.YtageokjobbjddaaGreatDoorGRN
import Derived.Lib.LaidTab
import Derived.HandedShaped
import Derived.Shelf.Vars
import Derived.Handed
import Derived.Test.YtageokjobbjddaaGreatDoorGRX
import Derived.Test.YtageokjobbjddaaGreatDoorTie
import Derived.Test.YtageokjobbjddaaGreatDoorCards
import Derived.SevenTiedAt
import Derived.Deep.DeepHandedRow
import Derived.Deep.DeepWitnessRowRef
namespace Go.Proofs.YtageokjobbjddaaGreatDoor
open Go.RowKit

theorem cells3 : Tryz.prog.cellsOf 3 = 1 := by kernel_rfl
theorem cells9 : Tryz.prog.cellsOf 9 = 1 := by kernel_rfl
theorem cellsIts : Tryz.prog.cellsOf 30 = 1 := by kernel_rfl
theorem cellsIt : Tryz.prog.cellsOf 32 = 4 := by kernel_rfl
theorem bytesIt : Tryz.prog.bytesOf 32 = 56 := by kernel_rfl

theorem mem_weightsAll {H : Type} (P : Program) (e : TypeId) : ∀ (l : List (DataW H)) (d : DataW H) (z : Nat), d ∈ l → z ∈ d.weights P e → z ∈ DataW.weightsAll P e l
  | [], d, z, h, _ => by simp at h
  | x :: r, d, z, h, hz => by
    simp only [DataW.weightsAll, List.mem_append]
    rcases List.mem_cons.1 h with rfl | h
    · exact .inl hz
    · exact .inr (mem_weightsAll P e r d z h hz)

set_option maxRecDepth 100000 in
set_option maxHeartbeats 1000000 in
theorem open_its {H : Type} {enc : TypeId × Value → H} {W : World} : ∀ (fuel : Nat) (v : Value) (x : DataW H × List MemPlace),
    DataW.trod enc Tryz.prog W 0 (fun _ => true) true fuel 30 [v] = some x → (∀ z ∈ x.1.weights Tryz.prog 30, z ≤ reachBytes) → ∃ l, ItsAt W anyB v l := by
  intro fuel
  induction fuel using Nat.strongRecOn with
  | _ fuel ih =>
    intro v x h hw
    rcases DataW.trod_slice Tryz.underlying30 h with ⟨h0, _⟩ | ⟨a, len, cap, elems, rest, n, hn, hv, hx, hb, hl, hm, hlen, hel, _⟩
    · simp only [List.cons.injEq, and_true] at h0
      subst h0
      exact ⟨[], its_nil W anyB none 0⟩
    · simp only [List.cons.injEq, and_true] at hv
      subst hv hx hn
      have hwt : (elems.length + rest.length) * 56 ≤ reachBytes := hw _ (by
        simp only [DataW.weights, Tryz.underlying30, bytesIt, List.length_map]
        exact List.mem_cons_self)
      have hlen2 : len ≤ 2513169434843 := by
        have : reachBytes = 140737488351232 := rfl
        omega
      have each : ∀ i, i < len → ∃ q : It × Value, q.1.Ok ∧ W.cell? (a.add (i * 4)) = some (.int .i64 q.1.kind) ∧ W.cell? ((a.add (i * 4)).add 1) = some (.int .i64 q.1.num) ∧ W.cell? ((a.add (i * 4)).add 2) = some (.string q.1.text) ∧ W.cell? ((a.add (i * 4)).add 3) = some q.2 ∧ ItsAt W anyB q.2 q.1.list := by
        intro i hi
        have h1 := hel i hi
        rw [cellsIt, List.getElem?_eq_getElem (by omega)] at h1
        obtain ⟨cs', h2, h3⟩ := Option.bind_eq_some_iff.1 h1
        obtain ⟨_, hcl, hcell⟩ := World.cells?_some h2
        obtain ⟨xs, k, hk, hxy, _, hxl, hf⟩ := DataW.trod_struct Tryz.underlying32 h3
        have hk' : k < n + 1 := by omega
        match xs, hxl, cs', hcl with
        | [y0, y1, y2, y3], _, [v0, v1, v2, v3], _ =>
          have g0 := hf 0 _ rfl
          have g1 := hf 1 _ rfl
          have g2 := hf 2 _ rfl
          have g3 := hf 3 _ rfl
          simp [cells3, cells9, cellsIts] at g0 g1 g2 g3
          have e0 := hcell 0 (by omega)
          have e1 := hcell 1 (by omega)
          have e2 := hcell 2 (by omega)
          have e3 := hcell 3 (by omega)
          obtain ⟨k0, d0, rfl, w0⟩ := DataW.trod_int Tryz.underlying3 g0
          obtain ⟨n0, d1, rfl, w1⟩ := DataW.trod_int Tryz.underlying3 g1
          obtain ⟨t0, d2, rfl, w2⟩ := DataW.trod_string Tryz.underlying9 g2
          simp only [List.cons.injEq, and_true] at d0 d1 d2
          subst d0 d1 d2
          have hmem : ∀ z ∈ (elems[i]'(by omega)).1.weights Tryz.prog 32, z ≤ reachBytes := fun z hz => hw z (by
            simp only [DataW.weights, Tryz.underlying30]
            refine List.mem_cons_of_mem _ (List.mem_append_left _ (mem_weightsAll _ _ _ _ z (List.mem_map.2 ⟨_, List.getElem_mem (by omega), rfl⟩) hz)))
          rw [hxy] at hmem
          obtain ⟨li, hli⟩ := ih k hk' v3 y3 g3 (fun z hz => hmem z (by
            simp only [DataW.weights, Tryz.underlying32, List.map_cons, List.map_nil, DataW.weightsEach]
            simp [hz]))
          have ht : t0.size ≤ reachBytes := hmem t0.size (by
            simp only [DataW.weights, Tryz.underlying32, List.map_cons, List.map_nil, DataW.weightsEach]
            simp)
          obtain ⟨ka, kb⟩ := bounds_i64 w0
          obtain ⟨na, nb⟩ := bounds_i64 w1
          exact ⟨(.mk k0 n0 t0 li, v3), ⟨ka, kb, na, nb, ht⟩, by simpa [Addr.add, It.kind] using e0, by simpa [It.num] using e1, by simpa [It.text] using e2, by simpa using e3, hli⟩
      obtain ⟨q, hq⟩ := Deep.choose_lt (α := It × Value) each
      refine ⟨(List.range len).map fun i => (q i).1, ?_⟩
      have hll : ((List.range len).map fun i => (q i).1).length = len := by simp
      have hget : ∀ i (h : i < ((List.range len).map fun i => (q i).1).length), ((List.range len).map fun i => (q i).1)[i] = (q i).1 := fun i h => by simp
      generalize (List.range len).map (fun i => (q i).1) = L at *
      have hadd : ∀ i, i < len → a = ⟨a.block, a.off, none⟩ ∧ a.add (i * 4) = ⟨a.block, a.off + i * 4, none⟩ := fun i hi => by
        have hz := (hq 0 (by omega)).2.1
        have hsp : a.spot = none := by
          rw [Nat.zero_mul] at hz
          have e : a.add 0 = a := rfl
          rw [e] at hz
          unfold World.cell? at hz
          split at hz
          · split at hz
            · cases hz
            · rename_i hs; simpa using hs
          · cases hz
        have ea : a = ⟨a.block, a.off, none⟩ := by cases a; simp at hsp; rw [hsp]
        refine ⟨ea, ?_⟩
        unfold Addr.add
        split
        · rename_i h0; rw [h0, Nat.add_zero]; exact ea
        · rfl
      have hplus : ∀ (b o c : Nat), 0 < c → (⟨b, o, none⟩ : Addr).add c = ⟨b, o + c, none⟩ := fun b o c hc => by
        unfold Addr.add; rw [if_neg (by omega)]
      have res : ItsAt W anyB (.slice (some a) L.length cap) L := by
        refine .mk (some a) a.block a.off cap L (fun i => (q i).2) (by omega) (fun h => ⟨by rw [← (hadd 0 (by omega)).1], trivial⟩) (fun i h => ?_) (fun i h => ?_) (fun i h => ?_) (fun i h => ?_) (fun i h => ?_) (fun i h => ?_)
        · rw [hget i h]; exact (hq i (by omega)).1
        · rw [hget i h, ← (hadd i (by omega)).2]; exact (hq i (by omega)).2.1
        · rw [hget i h]
          have := (hq i (by omega)).2.2.1
          rw [(hadd i (by omega)).2, hplus _ _ _ (by omega)] at this
          exact this
        · rw [hget i h]
          have := (hq i (by omega)).2.2.2.1
          rw [(hadd i (by omega)).2, hplus _ _ _ (by omega)] at this
          exact this
        · have := (hq i (by omega)).2.2.2.2.1
          rw [(hadd i (by omega)).2, hplus _ _ _ (by omega)] at this
          exact this
        · rw [hget i h]; exact (hq i (by omega)).2.2.2.2.2
      rw [hll] at res
      exact res

end Go.Proofs.YtageokjobbjddaaGreatDoor

namespace Go.Proofs.YtageokjobbjddaaGreatDoor
open Go.ChangeShapes Go.WideShapes Go.ChangeAt Go.WideMaps Go.WideElems Go.RowKit

/-! The arguments of layer 18: conditions, fields, indexes, tables, records, queries. -/
theorem addr_zero {a : Addr} {W : World} {u : Value} (h : W.cell? (a.add 0) = some u) : a = ⟨a.block, a.off, none⟩ := by
  have e : a.add 0 = a := rfl
  rw [e] at h
  have hsp : a.spot = none := by
    unfold World.cell? at h
    split at h
    · split at h
      · cases h
      · rename_i hs; simpa using hs
    · cases h
  cases a; simp at hsp; rw [hsp]
theorem addr_add (b o c : Nat) : (⟨b, o, none⟩ : Addr).add c = ⟨b, o + c, none⟩ := by
  unfold Addr.add
  split
  · rename_i h; rw [h, Nat.add_zero]
  · rfl
set_option maxRecDepth 100000 in
set_option maxHeartbeats 1000000 in
/-- A slice whose elements have n cells: the cells of each, and how it reads. -/
theorem open_slice {H : Type} {enc : TypeId × Value → H} {W : World} {T E : TypeId} {n m : Nat} (hT : Tryz.prog.underlying T = some (.slice E)) (hn : Tryz.prog.cellsOf E = n) (hn0 : 0 < n) (hm : Tryz.prog.bytesOf E = m) (fuel : Nat) (v : Value) (x : DataW H × List MemPlace)
    (h : DataW.trod enc Tryz.prog W 0 (fun _ => true) true fuel T [v] = some x) (hw : ∀ z ∈ x.1.weights Tryz.prog T, z ≤ reachBytes) :
    ∃ (a : Option Addr) (g off len cap k : Nat), v = .slice a len cap ∧ k < fuel ∧ len * m ≤ reachBytes ∧ (0 < len → a = some ⟨g, off, none⟩) ∧
      ∀ i, i < len → ∃ (cs : List Value) (y : DataW H × List MemPlace), cs.length = n ∧ (∀ j u, cs[j]? = some u → W.cell? ⟨g, off + i * n + j, none⟩ = some u) ∧ DataW.trod enc Tryz.prog W 0 (fun _ => true) true k E cs = some y ∧ ∀ z ∈ y.1.weights Tryz.prog E, z ≤ reachBytes := by
  rcases DataW.trod_slice hT h with ⟨h0, _⟩ | ⟨a, len, cap, elems, rest, k, hk, hv, hx, hb, hl, hmm, hlen, hel, _⟩
  · simp only [List.cons.injEq, and_true] at h0
    subst h0
    match fuel, h with
    | f + 1, _ => exact ⟨none, 0, 0, 0, 0, 0, rfl, by omega, by omega, fun h => by omega, fun i hi => by omega⟩
    | 0, h => simp [DataW.trod] at h
  · simp only [List.cons.injEq, and_true] at hv
    subst hv hx hk
    have hwt : (elems.length + rest.length) * m ≤ reachBytes := hw _ (by
      simp only [DataW.weights, hT, hm, List.length_map]
      exact List.mem_cons_self)
    have hlm : len * m ≤ reachBytes := by
      rw [Nat.add_mul] at hwt
      have : len * m ≤ elems.length * m := Nat.mul_le_mul_right _ (by omega)
      omega
    have each : ∀ i, i < len → ∃ (cs : List Value) (y : DataW H × List MemPlace), cs.length = n ∧ (∀ j, (hj : j < cs.length) → W.cell? ((a.add (i * n)).add j) = some cs[j]) ∧ DataW.trod enc Tryz.prog W 0 (fun _ => true) true k E cs = some y ∧ ∀ z ∈ y.1.weights Tryz.prog E, z ≤ reachBytes := by
      intro i hi
      have h1 := hel i hi
      rw [hn, List.getElem?_eq_getElem (by omega)] at h1
      obtain ⟨cs', h2, h3⟩ := Option.bind_eq_some_iff.1 h1
      obtain ⟨_, hcl, hcell⟩ := World.cells?_some h2
      refine ⟨cs', _, hcl, fun j hj => (hcell j (by omega)).trans (List.getElem?_eq_getElem hj), h3, fun z hz => hw z ?_⟩
      simp only [DataW.weights, hT]
      exact List.mem_cons_of_mem _ (List.mem_append_left _ (mem_weightsAll _ _ _ _ z (List.mem_map.2 ⟨_, List.getElem_mem (by omega), rfl⟩) hz))
    refine ⟨some a, a.block, a.off, len, cap, k, rfl, by omega, hlm, fun h0 => ?_, fun i hi => ?_⟩
    · obtain ⟨cs, y, hc, hcell, _⟩ := each 0 h0
      have := hcell 0 (by omega)
      rw [Nat.zero_mul] at this
      rw [← addr_zero (a := a) (by exact this)]
    · obtain ⟨cs, y, hc, hcell, h3, h4⟩ := each i hi
      obtain ⟨cs0, y0, hc0, hcell0, _⟩ := each 0 (by omega)
      have e0 := hcell0 0 (by omega)
      rw [Nat.zero_mul] at e0
      have ea := addr_zero (a := a) (by exact e0)
      refine ⟨cs, y, hc, fun j u hu => ?_, h3, h4⟩
      obtain ⟨hj, rfl⟩ := List.getElem?_eq_some_iff.1 hu
      have := hcell j hj
      rw [ea, addr_add, addr_add] at this
      exact this
theorem cellsInt : Tryz.prog.cellsOf 3 = 1 := by kernel_rfl
theorem cellsBool : Tryz.prog.cellsOf 4 = 1 := by kernel_rfl
theorem bytesInt : Tryz.prog.bytesOf 3 = 8 := by kernel_rfl
theorem cellsCond : Tryz.prog.cellsOf 34 = 6 := by kernel_rfl
theorem bytesCond : Tryz.prog.bytesOf 34 = 80 := by kernel_rfl
theorem cellsConds : Tryz.prog.cellsOf 22 = 1 := by kernel_rfl
theorem cellsQuery : Tryz.prog.cellsOf 24 = 5 := by kernel_rfl
theorem reach_val : reachBytes = 140737488351232 := rfl
instance : Inhabited Cd := ⟨⟨⟨#[]⟩, 0, .mk 0 0 ⟨#[]⟩ []⟩⟩
set_option maxRecDepth 100000 in
set_option maxHeartbeats 1000000 in
/-- One item out of its four cells. -/
theorem open_it {H : Type} {enc : TypeId × Value → H} {W : World} (k : Nat) (v0 v1 v2 v3 : Value) (y : DataW H × List MemPlace) (h : DataW.trod enc Tryz.prog W 0 (fun _ => true) true k 32 [v0, v1, v2, v3] = some y) (hw : ∀ z ∈ y.1.weights Tryz.prog 32, z ≤ reachBytes) :
    ∃ x : It, x.Ok ∧ v0 = .int .i64 x.kind ∧ v1 = .int .i64 x.num ∧ v2 = .string x.text ∧ ItsAt W anyB v3 x.list := by
  obtain ⟨xs, k2, hk, hxy, _, hxl, hf⟩ := DataW.trod_struct Tryz.underlying32 h
  match xs, hxl with
  | [y0, y1, y2, y3], _ =>
    have g0 := hf 0 _ rfl
    have g1 := hf 1 _ rfl
    have g2 := hf 2 _ rfl
    have g3 := hf 3 _ rfl
    simp [cells3, cells9, cellsIts] at g0 g1 g2 g3
    obtain ⟨k0, d0, rfl, w0⟩ := DataW.trod_int Tryz.underlying3 g0
    obtain ⟨n0, d1, rfl, w1⟩ := DataW.trod_int Tryz.underlying3 g1
    obtain ⟨t0, d2, rfl, w2⟩ := DataW.trod_string Tryz.underlying9 g2
    simp only [List.cons.injEq, and_true] at d0 d1 d2
    subst d0 d1 d2
    rw [hxy] at hw
    obtain ⟨li, hli⟩ := open_its k2 v3 y3 g3 (fun z hz => hw z (by
      simp only [DataW.weights, Tryz.underlying32, List.map_cons, List.map_nil, DataW.weightsEach]
      simp [hz]))
    have ht : t0.size ≤ reachBytes := hw t0.size (by
      simp only [DataW.weights, Tryz.underlying32, List.map_cons, List.map_nil, DataW.weightsEach]
      simp)
    obtain ⟨ka, kb⟩ := bounds_i64 w0
    obtain ⟨na, nb⟩ := bounds_i64 w1
    exact ⟨.mk k0 n0 t0 li, ⟨ka, kb, na, nb, ht⟩, rfl, rfl, rfl, hli⟩
set_option maxRecDepth 100000 in
set_option maxHeartbeats 1000000 in
theorem open_conds {H : Type} {enc : TypeId × Value → H} {W : World} (fuel : Nat) (v : Value) (x : DataW H × List MemPlace)
    (h : DataW.trod enc Tryz.prog W 0 (fun _ => true) true fuel 22 [v] = some x) (hw : ∀ z ∈ x.1.weights Tryz.prog 22, z ≤ reachBytes) : ∃ l, CsAt W anyB v l := by
  obtain ⟨a, g, off, len, cap, k, rfl, _, hl, ha, hel⟩ := open_slice Tryz.underlying22 cellsCond (by decide) bytesCond fuel v x h hw
  have each : ∀ i, i < len → ∃ q : Cd × Value, q.1.Ok ∧ (∀ j u, (q.1.cells q.2)[j]? = some u → W.cell? ⟨g, off + i * 6 + j, none⟩ = some u) ∧ ItsAt W anyB q.2 q.1.item.list := by
    intro i hi
    obtain ⟨cs, y, hc, hcell, h3, h4⟩ := hel i hi
    obtain ⟨xs, k2, hk, hxy, _, hxl, hf⟩ := DataW.trod_struct Tryz.underlying34 h3
    match xs, hxl, cs, hc with
    | [y0, y1, y2], _, [v0, v1, v2, v3, v4, v5], _ =>
      have g0 := hf 0 _ rfl
      have g1 := hf 1 _ rfl
      have g2 := hf 2 _ rfl
      simp [cells3, cells9, cellsIt] at g0 g1 g2
      obtain ⟨t0, d0, rfl, w0⟩ := DataW.trod_string Tryz.underlying9 g0
      obtain ⟨n0, d1, rfl, w1⟩ := DataW.trod_int Tryz.underlying3 g1
      simp only [List.cons.injEq, and_true] at d0 d1
      subst d0 d1
      rw [hxy] at h4
      obtain ⟨it, hok, rfl, rfl, rfl, hli⟩ := open_it k2 _ _ _ _ y2 g2 (fun z hz => h4 z (by
        simp only [DataW.weights, Tryz.underlying34, List.map_cons, List.map_nil, DataW.weightsEach]
        simp [hz]))
      have ht : t0.size ≤ reachBytes := h4 t0.size (by
        simp only [DataW.weights, Tryz.underlying34, List.map_cons, List.map_nil, DataW.weightsEach]
        simp)
      obtain ⟨na, nb⟩ := bounds_i64 w1
      exact ⟨(⟨t0, n0, it⟩, v5), ⟨by rw [reach_val] at ht; omega, na, nb, hok⟩, hcell, hli⟩
  obtain ⟨q, hq⟩ := Deep.choose_lt (α := Cd × Value) each
  have hlen : len ≤ 1759218604390 := by rw [reach_val] at hl; omega
  refine ⟨(List.range len).map fun i => (q i).1, a, g, off, cap, fun i => (q i).2, by simp, by simpa using hlen, fun h => ⟨ha (by simpa using h), trivial⟩, fun i hi => ?_⟩
  have hi' : i < len := by simpa using hi
  obtain ⟨h1, h2, h3⟩ := hq i hi'
  have e : ((List.range len).map fun i => (q i).1)[i] = (q i).1 := by simp
  rw [e]
  exact ⟨h1, h2, h3⟩
set_option maxRecDepth 100000 in
set_option maxHeartbeats 1000000 in
/-- A query out of its five cells. -/
theorem open_q {H : Type} {enc : TypeId × Value → H} {W : World} (k : Nat) (v0 v1 v2 v3 v4 : Value) (y : DataW H × List MemPlace) (h : DataW.trod enc Tryz.prog W 0 (fun _ => true) true k 24 [v0, v1, v2, v3, v4] = some y) (hw : ∀ z ∈ y.1.weights Tryz.prog 24, z ≤ reachBytes) :
    ∃ q : Qd, v0 = .string q.table ∧ v2 = .string q.order ∧ v3 = .bool q.falling ∧ v4 = .int .i64 q.limit ∧ CsAt W anyB v1 q.cs ∧ q.table.size ≤ 140737488351232 ∧ q.order.size ≤ 140737488351232 ∧ -9223372036854775808 ≤ q.limit ∧ q.limit ≤ 9223372036854775807 := by
  obtain ⟨xs, k2, hk, hxy, _, hxl, hf⟩ := DataW.trod_struct Tryz.underlying24 h
  match xs, hxl with
  | [y0, y1, y2, y3, y4], _ =>
    have g0 := hf 0 _ rfl
    have g1 := hf 1 _ rfl
    have g2 := hf 2 _ rfl
    have g3 := hf 3 _ rfl
    have g4 := hf 4 _ rfl
    simp [cells3, cells9, cellsConds, cellsBool] at g0 g1 g2 g3 g4
    obtain ⟨t0, d0, rfl, w0⟩ := DataW.trod_string Tryz.underlying9 g0
    obtain ⟨t2, d2, rfl, w2⟩ := DataW.trod_string Tryz.underlying9 g2
    obtain ⟨b3, d3, rfl⟩ := DataW.trod_bool Tryz.underlying4 g3
    obtain ⟨n4, d4, rfl, w4⟩ := DataW.trod_int Tryz.underlying3 g4
    simp only [List.cons.injEq, and_true] at d0 d2 d3 d4
    subst d0 d2 d3 d4
    rw [hxy] at hw
    obtain ⟨l, hl⟩ := open_conds k2 v1 y1 g1 (fun z hz => hw z (by
      simp only [DataW.weights, Tryz.underlying24, List.map_cons, List.map_nil, DataW.weightsEach]
      simp [hz]))
    have h1 : t0.size ≤ reachBytes := hw t0.size (by
      simp only [DataW.weights, Tryz.underlying24, List.map_cons, List.map_nil, DataW.weightsEach]
      simp)
    have h2 : t2.size ≤ reachBytes := hw t2.size (by
      simp only [DataW.weights, Tryz.underlying24, List.map_cons, List.map_nil, DataW.weightsEach]
      simp)
    obtain ⟨na, nb⟩ := bounds_i64 w4
    exact ⟨⟨t0, l, t2, b3, n4⟩, rfl, rfl, rfl, rfl, hl, h1, h2, na, nb⟩
end Go.Proofs.YtageokjobbjddaaGreatDoor

namespace Go.Proofs.YtageokjobbjddaaGreatDoor
open Go.ChangeShapes Go.WideShapes Go.ChangeAt Go.WideMaps Go.WideElems Go.RowKit

theorem cellsInts : Tryz.prog.cellsOf 25 = 1 := by kernel_rfl
theorem cellsBlank : Tryz.prog.cellsOf 27 = 6 := by kernel_rfl
theorem cellsQueryB : Tryz.prog.cellsOf 24 = 5 := by kernel_rfl
set_option maxRecDepth 100000 in
set_option maxHeartbeats 1000000 in
theorem open_ints {H : Type} {enc : TypeId × Value → H} {W : World} (fuel : Nat) (v : Value) (x : DataW H × List MemPlace)
    (h : DataW.trod enc Tryz.prog W 0 (fun _ => true) true fuel 25 [v] = some x) (hw : ∀ z ∈ x.1.weights Tryz.prog 25, z ≤ reachBytes) : ∃ l, InsAt W v l ∧ ∀ i ∈ l, -9223372036854775808 ≤ i ∧ i ≤ 9223372036854775807 := by
  obtain ⟨a, g, off, len, cap, k, rfl, _, hl, ha, hel⟩ := open_slice Tryz.underlying25 cellsInt (by decide) bytesInt fuel v x h hw
  have each : ∀ i, i < len → ∃ q : Int, (-9223372036854775808 ≤ q ∧ q ≤ 9223372036854775807) ∧ W.cell? ⟨g, off + i, none⟩ = some (.int .i64 q) := by
    intro i hi
    obtain ⟨cs, y, hc, hcell, h3, h4⟩ := hel i hi
    match cs, hc with
    | [v0], _ =>
      obtain ⟨n0, d1, _, w1⟩ := DataW.trod_int Tryz.underlying3 h3
      simp only [List.cons.injEq, and_true] at d1
      subst d1
      have := hcell 0 _ rfl
      rw [Nat.mul_one] at this
      exact ⟨n0, bounds_i64 w1, this⟩
  obtain ⟨q, hq⟩ := Deep.choose_lt (α := Int) each
  have hlen : len ≤ 17592186044416 := by rw [reach_val] at hl; omega
  refine ⟨(List.range len).map q, ⟨a, g, off, cap, by simp, by simpa using hlen, fun h => ha (by simpa using h), fun i hi => ?_⟩, fun f hf => ?_⟩
  · have hi' : i < len := by simpa using hi
    have e : ((List.range len).map q)[i] = q i := by simp
    rw [e]
    exact (hq i hi').2
  · obtain ⟨i, hi, rfl⟩ := List.mem_map.1 hf
    exact (hq i (List.mem_range.1 hi)).1
set_option maxRecDepth 100000 in
set_option maxHeartbeats 2000000 in
theorem open_blank {H : Type} {enc : TypeId × Value → H} {W : World} {r : Reach} {b0 : Nat} {v : Value} {d : DataW H} {p : List MemPlace} (hv : Value.okWide Tryz.prog W r b0 27 v)
    (h : DataW.Trod enc Tryz.prog W 0 (fun _ => true) true 27 v d p) (hw : ∀ z ∈ d.weights Tryz.prog 27, z ≤ reachBytes) :
    ∃ (q : Qd) (cv lv : Value) (l : List Int), v = .agg #[.string q.table, cv, .string q.order, .bool q.falling, .int .i64 q.limit, lv] ∧ CsAt W anyB cv q.cs ∧ InsAt W lv l ∧ q.table.size ≤ 140737488351232 ∧ q.order.size ≤ 140737488351232 ∧ q.limit ≤ 9223372036854775807 := by
  obtain ⟨cs, rfl, hsz⟩ := okWide_struct Tryz.underlying27 hv
  rw [cellsBlank] at hsz
  obtain ⟨fuel, hf0⟩ := h
  obtain ⟨xs, k', _, hxy, hcl, hxl, hf⟩ := DataW.trod_struct Tryz.underlying27 hf0
  obtain ⟨cl⟩ := cs
  simp only [Value.cells] at hf
  simp only [Prod.mk.injEq] at hxy
  match xs, hxl, cl, hsz with
  | [y0, y1], _, [v0, v1, v2, v3, v4, v5], _ =>
    have g0 := hf 0 _ rfl
    have g1 := hf 1 _ rfl
    simp [cellsQueryB, cellsInts] at g0 g1
    rw [hxy.1] at hw
    have w0 : ∀ z ∈ y0.1.weights Tryz.prog 24, z ≤ reachBytes := fun z hz => hw z (by
      simp only [DataW.weights, Tryz.underlying27, List.map_cons, List.map_nil, DataW.weightsEach]
      simp [hz])
    have w1 : ∀ z ∈ y1.1.weights Tryz.prog 25, z ≤ reachBytes := fun z hz => hw z (by
      simp only [DataW.weights, Tryz.underlying27, List.map_cons, List.map_nil, DataW.weightsEach]
      simp [hz])
    obtain ⟨q, rfl, rfl, rfl, rfl, hcs, hq1, hq2, _, hq4⟩ := open_q k' _ _ _ _ _ y0 g0 w0
    obtain ⟨l, hl, _⟩ := open_ints k' _ y1 g1 w1
    exact ⟨q, v1, v5, l, rfl, hcs, hl, hq1, hq2, hq4⟩
end Go.Proofs.YtageokjobbjddaaGreatDoor

namespace Go.Proofs.YtageokjobbjddaaGreatDoor
open Go.ChangeShapes Go.WideShapes Go.ChangeAt Go.WideMaps Go.WideElems Go.RowKit Go.Joins

theorem own : ownKnob Tryz.prog.godebug = none := by kernel_rfl
theorem laidOut : laidOutB Tryz.prog = true := by kernel_rfl
def err13L : List (String × List UInt8) := [("copse/api.ErrArg", errText Rows.laid_copse_api_ErrArg), ("copse/api.ErrText", errText Rows.laid_copse_api_ErrText), ("copse/api.ErrMany", errText Rows.laid_copse_api_ErrMany), ("copse/api.ErrShort", errText Rows.laid_copse_api_ErrShort), ("copse/api.ErrTwice", errText Rows.laid_copse_api_ErrTwice), ("copse/api.ErrLost", errText Rows.laid_copse_api_ErrLost), ("copse/api.ErrFull", errText Rows.laid_copse_api_ErrFull), ("copse/api.ErrDead", errText Rows.laid_copse_api_ErrDead), ("copse/api.ErrCorrupt", errText Rows.laid_copse_api_ErrCorrupt), ("copse/api.ErrStatus", errText Rows.laid_copse_api_ErrStatus), ("copse/api.ErrTxid", errText Rows.laid_copse_api_ErrTxid), ("copse/api.ErrOrder", errText Rows.laid_copse_api_ErrOrder), ("copse/api.ErrKind", errText Rows.laid_copse_api_ErrKind)]
theorem err13L_eq : err13L.map mkErr ++ [] = [("copse/api.ErrArg", Rows.laid_copse_api_ErrArg), ("copse/api.ErrText", Rows.laid_copse_api_ErrText), ("copse/api.ErrMany", Rows.laid_copse_api_ErrMany), ("copse/api.ErrShort", Rows.laid_copse_api_ErrShort), ("copse/api.ErrTwice", Rows.laid_copse_api_ErrTwice), ("copse/api.ErrLost", Rows.laid_copse_api_ErrLost), ("copse/api.ErrFull", Rows.laid_copse_api_ErrFull), ("copse/api.ErrDead", Rows.laid_copse_api_ErrDead), ("copse/api.ErrCorrupt", Rows.laid_copse_api_ErrCorrupt), ("copse/api.ErrStatus", Rows.laid_copse_api_ErrStatus), ("copse/api.ErrTxid", Rows.laid_copse_api_ErrTxid), ("copse/api.ErrOrder", Rows.laid_copse_api_ErrOrder), ("copse/api.ErrKind", Rows.laid_copse_api_ErrKind)] := rfl
theorem err13L_all : ((List.range 13).all fun i => match err13L[i]? with
    | some x => (Tryz.prog.globalNamed x.1 == some (gAll i)) && ((Tryz.prog.globals[gAll i]?).map (·.type) == some 36)
    | none => false) = true := by kernel_rfl
theorem err13L_glob : ∀ i x, err13L[i]? = some x → Tryz.prog.globalNamed x.1 = some (gAll i) ∧ (Tryz.prog.globals[gAll i]?).map (·.type) = some 36 := by
  intro i x hx
  have hi : i < 13 := by
    rcases Nat.lt_or_ge i 13 with h | h
    · exact h
    · rw [List.getElem?_eq_none (by exact h)] at hx; cases hx
  have h := List.all_eq_true.1 err13L_all i (List.mem_range.2 hi)
  rw [hx] at h
  simpa using h
def isErr13 (x : String × DataW Unit) : Bool := x.1 == "copse/api.ErrArg" || x.1 == "copse/api.ErrText" || x.1 == "copse/api.ErrMany" || x.1 == "copse/api.ErrShort" || x.1 == "copse/api.ErrTwice" || x.1 == "copse/api.ErrLost" || x.1 == "copse/api.ErrFull" || x.1 == "copse/api.ErrDead" || x.1 == "copse/api.ErrCorrupt" || x.1 == "copse/api.ErrStatus" || x.1 == "copse/api.ErrTxid" || x.1 == "copse/api.ErrOrder" || x.1 == "copse/api.ErrKind"
set_option maxRecDepth 100000 in
theorem err13_of_laid {W : World} (h : laidMet Tryz.prog [("copse/api.ErrArg", Rows.laid_copse_api_ErrArg), ("copse/api.ErrText", Rows.laid_copse_api_ErrText), ("copse/api.ErrMany", Rows.laid_copse_api_ErrMany), ("copse/api.ErrShort", Rows.laid_copse_api_ErrShort), ("copse/api.ErrTwice", Rows.laid_copse_api_ErrTwice), ("copse/api.ErrLost", Rows.laid_copse_api_ErrLost), ("copse/api.ErrFull", Rows.laid_copse_api_ErrFull), ("copse/api.ErrDead", Rows.laid_copse_api_ErrDead), ("copse/api.ErrCorrupt", Rows.laid_copse_api_ErrCorrupt), ("copse/api.ErrStatus", Rows.laid_copse_api_ErrStatus), ("copse/api.ErrTxid", Rows.laid_copse_api_ErrTxid), ("copse/api.ErrOrder", Rows.laid_copse_api_ErrOrder), ("copse/api.ErrKind", Rows.laid_copse_api_ErrKind)] W) : ∃ A, ErrsAt 13 gAll A W := by
  exact errs_of (rest := []) gAll (show err13L.length = 13 from rfl) err13L_glob (by rw [err13L_eq]; exact h)

end Go.Proofs.YtageokjobbjddaaGreatDoor

namespace Go.Proofs.YtageokjobbjddaaGreatDoor
open Go.ChangeShapes Go.WideShapes Go.ChangeAt Go.WideMaps Go.WideElems Go.RowKit Go.Joins

theorem gPowR : Tryz.prog.globalNamed "internal/strconv.uint64pow10" = some 13 := by kernel_rfl
theorem tPowR : (Tryz.prog.globals[(13 : Nat)]?).map (·.type) = some 135 := by kernel_rfl
theorem cellsU64R : Tryz.prog.cellsOf 98 = 1 := by kernel_rfl
theorem cellsPowR : Tryz.prog.cellsOf 135 = 20 := by kernel_rfl
def isPowR (x : String × DataW Unit) : Bool := x.1 == "internal/strconv.uint64pow10"
set_option maxRecDepth 100000 in
theorem powR_of_laid {W : World} (h : laidMet Tryz.prog [("internal/strconv.uint64pow10", Rows.laid_internal_strconv_uint64pow10)] W) : Lib.TabIs Tryz.prog W "internal/strconv.uint64pow10" .u64 Lib.pow10Tab := by
  have e : (Rows.laid_internal_strconv_uint64pow10 : DataW Unit) = Lib.tabData .u64 Lib.pow10Tab := by rfl
  rw [e] at h
  exact Lib.tabIs_of_head gPowR tPowR Tryz.underlying135 Tryz.underlying98 cellsU64R cellsPowR h
theorem below_growR (W : World) (k : Nat) (os : Array Obj) : Below W.heap.size W (Sort.grow (W.drewN k) os) := by
  refine ⟨rfl, rfl, rfl, ?_, fun j hj => ?_⟩
  · show W.heap.size ≤ (W.heap ++ os).size
    simp
  · show (W.heap ++ os)[j]? = W.heap[j]?
    exact Array.getElem?_append_left hj
theorem itoR_of {w : World} (hp : Lib.TabIs Tryz.prog w "internal/strconv.uint64pow10" .u64 Lib.pow10Tab) : ItoAt w := fun W n hW h1 h2 => by
  refine (Any.strconv_Itoa Tryz.lays171 n h1 h2 W (Lib.tabBelow_of_tabIs hp W hW)).mono ?_
  rintro e w' ⟨rfl, k, os, rfl⟩
  exact ⟨rfl, below_growR W k os⟩
/-! strconv's two refusals. -/
def gTwoS (i : Nat) : Nat := ([20, 19] : List Nat).getD i 0
def err2L : List (String × List UInt8) := [("strconv.ErrRange", errText Rows.laid_strconv_ErrRange), ("strconv.ErrSyntax", errText Rows.laid_strconv_ErrSyntax)]
theorem err2L_eq : err2L.map mkErr ++ [] = [("strconv.ErrRange", Rows.laid_strconv_ErrRange), ("strconv.ErrSyntax", Rows.laid_strconv_ErrSyntax)] := rfl
theorem err2L_all : ((List.range 2).all fun i => match err2L[i]? with
    | some x => (Tryz.prog.globalNamed x.1 == some (gTwoS i)) && ((Tryz.prog.globals[gTwoS i]?).map (·.type) == some 36)
    | none => false) = true := by kernel_rfl
theorem err2L_glob : ∀ i x, err2L[i]? = some x → Tryz.prog.globalNamed x.1 = some (gTwoS i) ∧ (Tryz.prog.globals[gTwoS i]?).map (·.type) = some 36 := by
  intro i x hx
  have hi : i < 2 := by
    rcases Nat.lt_or_ge i 2 with h | h
    · exact h
    · rw [List.getElem?_eq_none (by exact h)] at hx; cases hx
  have h := List.all_eq_true.1 err2L_all i (List.mem_range.2 hi)
  rw [hx] at h
  simpa using h
def isErr2S (x : String × DataW Unit) : Bool := x.1 == "strconv.ErrRange" || x.1 == "strconv.ErrSyntax"
set_option maxRecDepth 100000 in
theorem synAt_of_laid {W : World} (h : laidMet Tryz.prog [("strconv.ErrRange", Rows.laid_strconv_ErrRange), ("strconv.ErrSyntax", Rows.laid_strconv_ErrSyntax)] W) : SynAt W := by
  obtain ⟨A, hA⟩ := errs_of (rest := []) gTwoS (show err2L.length = 2 from rfl) err2L_glob (by rw [err2L_eq]; exact h)
  exact ⟨⟨_, _, (hA.1 1 (by decide)).1⟩, ⟨_, _, (hA.1 0 (by decide)).1⟩⟩
/-! internal/bytealg.MaxLen holds an int. -/
theorem max_of {W : World} (h : W.ShapedOpen Tryz.prog) : ∃ m : Int, W.cell? ⟨14, 0, none⟩ = some (.int .i64 m) :=
  cell_of_shapedOpen_int (g := 14) (t := 3) (zero := #[.int .i64 0]) (k := .i64) h (of_decide_eq_true (by kernel_rfl)) (by kernel_rfl) (by kernel_rfl) (by kernel_rfl) (by kernel_rfl) Tryz.underlying3
/-- The wrap of a row with laid variables, the world's shape kept. -/
theorem wrap_shaped {H : Type} {enc : TypeId × Value → H} {a : Assume} {C : Checked} {os : Os} {f : FuncId} {fn : Func} {s : ChangeSpec} {conds : List PathCond} {apart fresh handsOn again : Bool} {X : World → Array Value → Prop}
    (hX : ∀ (w w' : World) (args : Array Value), w.heap = w'.heap → X w args → X w' args)
    (own : ownKnob C.prog.godebug = none) (started : os.Started) (noInit : C.prog.inits.idxOf? f = none) (hfn : C.prog.funcs[f]? = some fn)
    (witness : ∃ (w : World) (tape : Tape) (i : Input), w.os = os ∧ (w.forCall tape i).Shaped C.prog ∧ i.vars = [] ∧ Input.okWide C.prog (w.forCall tape i) .any w.heap.size f i ∧
      ((s.pre enc C.prog fn conds apart (w.forCall tape i).memory i.args ∧ X (w.forCall tape i).memory i.args) ∧ sizedMet enc C.prog fn (OpenSpec.ofChange s) apart (w.forCall tape i).memory i.args) ∧ a.holds C.prog (lone (Frame.enter C.prog f i.args .normal) [] (w.forCall tape i)))
    (contract : ∀ (W : World) (base : Nat) (args : Array Value) (ds gs : List (DataW H)) (before : List MemPlace),
      (∀ (j : Nat) t v, fn.params[j]? = some t → args[j]? = some v → Value.okWide C.prog W .any base t v) →
      DataW.Whole enc C.prog fn.params.toList s.vars apart W args.toList ds gs before →
      (DataW.weightsEach C.prog (fn.params.toList ++ s.plain.varTypes C.prog) (ds ++ gs)).all (· ≤ reachBytes) = true → X W args → W.ShapedOpen C.prog →
      Calls C.prog f args W fun e W' => ∃ v, e = .returned v ∧ s.post enc C.prog fn apart fresh handsOn again W args v W') :
    ReturnsInHanded a C os f .any (fun w args => (s.pre enc C.prog fn conds apart w args ∧ X w args) ∧ sizedMet enc C.prog fn (OpenSpec.ofChange s) apart w args) (s.post enc C.prog fn apart fresh handsOn again) := by
  refine returnsInHanded_of_calls own started noInit witness ?_
  intro w tape i _ hsh _ hok hpre _
  obtain ⟨_, _, _, fn', hfn', _, _, _, _, hval⟩ := hok
  obtain rfl : fn' = fn := Option.some.inj (hfn'.symm.trans hfn)
  obtain ⟨⟨⟨ds, gs, before, hw, _⟩, hx⟩, hz⟩ := hpre
  have hw' := DataW.Whole.of_heap (w' := w.forCall tape i) (by rfl) hw
  refine (contract (w.forCall tape i) w.heap.size i.args ds gs before hval hw' (hz.weights hw) (hX _ _ _ (by rfl) hx) hsh).mono fun e W' ⟨v, he, hp⟩ => ?_
  subst he
  exact ChangeSpec.post_blind hp
end Go.Proofs.YtageokjobbjddaaGreatDoor

namespace Go.Proofs.YtageokjobbjddaaGreatDoor
open Go.ChangeShapes Go.WideShapes Go.ChangeAt Go.WideMaps Go.WideElems Go.RowKit Go.Joins

set_option maxRecDepth 100000 in
theorem blk_errs {W : World} (h : laidMetH Tryz.prog Rows.queryBlanksRow.laid W) : (∃ A, ErrsAt 13 gAll A W) ∧ Lib.TabIs Tryz.prog W "internal/strconv.uint64pow10" .u64 Lib.pow10Tab ∧ SynAt W := by
  rw [MakeChecks.laidMetH_plain _ _ _ (by kernel_rfl)] at h
  exact ⟨err13_of_laid (h.filter isErr13), powR_of_laid (h.filter isPowR), synAt_of_laid (h.filter isErr2S)⟩
set_option maxRecDepth 100000 in
theorem blk_lifted (os : Os) (started : os.Started) (H : Type) (enc : TypeId × Value → H) :
    ReturnsInHanded {} Tryz.checked os 3 .any (fun w args => (Rows.queryBlanksSpec.pre enc Tryz.prog Tryz.f3 [] false w args ∧ laidMetH Tryz.prog Rows.queryBlanksRow.laid w) ∧ sizedMet enc Tryz.prog Tryz.f3 (OpenSpec.ofChange Rows.queryBlanksSpec) false w args)
      (Rows.queryBlanksSpec.post enc Tryz.prog Tryz.f3 false true false false) := by
  refine wrap_shaped (C := Tryz.checked) (X := fun w _ => laidMetH Tryz.prog Rows.queryBlanksRow.laid w) (fun _ _ _ hh h => h.of_heap hh) own started (by kernel_rfl) Tryz.func3
    (ChangeSpec.witness_shaped (enc := enc) (C := Tryz.checked) (os := os) (X := fun w _ => laidMetH Tryz.prog Rows.queryBlanksRow.laid w) false (World.laidAll Tryz.prog os Rows.queryBlanksRow.laid) #[.agg #[.string ByteArray.empty, .slice none 0 0, .string ByteArray.empty, .bool false, .int .i64 0, .slice none 0 0]] 8 (World.laidAll_os _ _ _)
      (World.shaped_of_ZipB (by kernel_rfl) (by kernel_rfl)) (by kernel_rfl) (by kernel_rfl) (by kernel_rfl)
      (by rw [MakeChecks.laidMetH_plain _ _ _ (by kernel_rfl)]; exact laidMet_laidAll _ (by kernel_rfl) (by kernel_rfl))) ?_
  intro W base args ds gs before hval0 hW hsz0 hL hsh
  have hval : ∀ (j : Nat) t v, Tryz.f3.params[j]? = some t → args[j]? = some v → Value.okWide Tryz.prog W .any base t v := hval0
  have hsz : (DataW.weightsEach Tryz.prog (Tryz.f3.params.toList ++ Rows.queryBlanksSpec.plain.varTypes Tryz.prog) (ds ++ gs)).all (· ≤ reachBytes) = true := hsz0
  have hW' := hW
  obtain ⟨p, q, hA0, hV, rfl, hfz, hnd⟩ := hW
  have hA : DataW.TrodAll enc Tryz.prog W 0 (fun _ => true) true Tryz.f3.params.toList args.toList ds p := hA0
  rw [Tryz.params3] at hA hval hsz
  obtain ⟨v0, d0, rfl, rfl, h0⟩ := trodAll_one hA
  obtain ⟨rfl, rfl⟩ := trodVars_none hV
  have h0k := h0
  have hlt := hA.lt
  have hall : (DataW.weightsEach Tryz.prog [27] [d0]).all (· ≤ reachBytes) = true := hsz
  obtain ⟨q, cv, lv, l, rfl, hcs, hli, hq1, hq2, hq4⟩ := open_blank (hval 0 27 v0 rfl rfl) h0 (fun z hz => of_decide_eq_true (List.all_eq_true.1 hall z (by simp [DataW.weightsEach, hz])))
  clear hA0 hval0 hsz0
  simp only [List.append_nil] at hW'
  obtain ⟨⟨A, hE⟩, hP, hS⟩ := blk_errs hL
  refine (lblanks_any A q cv lv l W hcs hli (by omega) (by omega) hq4 ⟨hE.three, ⟨hS, itoR_of hP, max_of hsh⟩, hP⟩ hE).mono fun e W' ⟨he, hb⟩ => ?_
  subst he
  refine ⟨_, rfl, _, _, _, [], p, [], hW', ?_, ?_, rfl, hb.frame _, fun h => by cases h⟩
  · exact trodAll_mk1 (shut_bool Tryz.underlying4 _)
  · exact trodAll_mk1 (Below.trod laidOut (by kernel_rfl) (of_decide_eq_true (by kernel_rfl)) h0k hb hlt)
theorem blk_holds : Rows.QueryBlanksSaid :=
  OpenClaim.holds_of_wide 3 Tryz.f3 rfl rfl rfl rfl rfl rfl rfl ⟨rfl, rfl, rfl, rfl, rfl⟩ rfl rfl rfl rfl rfl (by kernel_rfl) Tryz.func3 (by kernel_rfl)
    (of_decide_eq_true (by kernel_rfl)) (by unfold Func.isWrapper; first | (rw [if_pos (by decide +kernel)]; kernel_rfl) | (rw [if_neg (by decide +kernel)]; exact ⟨rfl, rfl⟩))
    (fun os started H enc _ => blk_lifted os started H enc)

theorem blk_card_holds : Rows.QueryBlanksCardSaid :=
  Claim7.holds_tied_plain_at .later [] _ _ _ _
    blk_holds (fun _ h => by cases h) (by kernel_rfl) (fun _ h => by cases h) queryBlanks_row_tie rfl ⟨rfl, rfl⟩ (by kernel_rfl) rfl
    (fun f fn hf hfn => by
      obtain rfl : f = 3 := Option.some.inj ((show Tryz.prog.funcNamed "copse/copselaw18.QueryBlanks" = some 3 by kernel_rfl).symm.trans hf) |>.symm
      obtain rfl : fn = Tryz.f3 := (Option.some.inj (Tryz.func3.symm.trans hfn)).symm
      exact ⟨by kernel_rfl, fun j t ht => by
        rw [Tryz.params3] at ht
        have hm : t ∈ [27] := by simpa using Array.mem_of_getElem? ht
        have hall : ([27].all fun u => !Tryz.prog.wantsStandIn u) = true := by kernel_rfl
        exact (show Tryz.prog.wantsStandIn t = false by simpa using List.all_eq_true.1 hall t hm)⟩)
    (by kernel_rfl)
#print axioms blk_card_holds

end Go.Proofs.YtageokjobbjddaaGreatDoor
