import Derived.Test.YtddhjnfcbpookaaDoorOwn
import Derived.ProofKit
import Derived.SizedLaws
import Derived.OpenShut
import Derived.Deep.Slices
import Derived.Lib.SmallJoins
namespace Go.Proofs.YtddhjnfcbpookaaDoor
open Go.RowKit

theorem cells3 : Tryd.prog.cellsOf 3 = 1 := by kernel_rfl
theorem cells9 : Tryd.prog.cellsOf 9 = 1 := by kernel_rfl
theorem cellsIts : Tryd.prog.cellsOf 26 = 1 := by kernel_rfl
theorem cellsIt : Tryd.prog.cellsOf 59 = 4 := by kernel_rfl
theorem bytesIt : Tryd.prog.bytesOf 59 = 56 := by kernel_rfl

theorem mem_weightsAll {H : Type} (P : Program) (e : TypeId) : ∀ (l : List (DataW H)) (d : DataW H) (z : Nat), d ∈ l → z ∈ d.weights P e → z ∈ DataW.weightsAll P e l
  | [], d, z, h, _ => by simp at h
  | x :: r, d, z, h, hz => by
    simp only [DataW.weightsAll, List.mem_append]
    rcases List.mem_cons.1 h with rfl | h
    · exact .inl hz
    · exact .inr (mem_weightsAll P e r d z h hz)

set_option maxRecDepth 100000 in
set_option maxHeartbeats 1000000 in
theorem open_its {H : Type} {enc : TypeId × Value → H} {W : World} : ∀ (fuel : Nat) (v : Value) (x : DataW H × List MemPlace),
    DataW.trod enc Tryd.prog W 0 (fun _ => true) true fuel 26 [v] = some x → (∀ z ∈ x.1.weights Tryd.prog 26, z ≤ reachBytes) → ∃ l, ItsAt W anyB v l := by
  intro fuel
  induction fuel using Nat.strongRecOn with
  | _ fuel ih =>
    intro v x h hw
    rcases DataW.trod_slice Tryd.underlying26 h with ⟨h0, _⟩ | ⟨a, len, cap, elems, rest, n, hn, hv, hx, hb, hl, hm, hlen, hel, _⟩
    · simp only [List.cons.injEq, and_true] at h0
      subst h0
      exact ⟨[], its_nil W anyB none 0⟩
    · simp only [List.cons.injEq, and_true] at hv
      subst hv hx hn
      have hwt : (elems.length + rest.length) * 56 ≤ reachBytes := hw _ (by
        simp only [DataW.weights, Tryd.underlying26, bytesIt, List.length_map]
        exact List.mem_cons_self)
      have hlen2 : len ≤ 2513169434843 := by
        have : reachBytes = 140737488351232 := rfl
        omega
      have each : ∀ i, i < len → ∃ q : It × Value, q.1.Ok ∧ W.cell? (a.add (i * 4)) = some (.int .i64 q.1.kind) ∧ W.cell? ((a.add (i * 4)).add 1) = some (.int .i64 q.1.num) ∧ W.cell? ((a.add (i * 4)).add 2) = some (.string q.1.text) ∧ W.cell? ((a.add (i * 4)).add 3) = some q.2 ∧ ItsAt W anyB q.2 q.1.list := by
        intro i hi
        have h1 := hel i hi
        rw [cellsIt, List.getElem?_eq_getElem (by omega)] at h1
        obtain ⟨cs', h2, h3⟩ := Option.bind_eq_some_iff.1 h1
        obtain ⟨_, hcl, hcell⟩ := World.cells?_some h2
        obtain ⟨xs, k, hk, hxy, _, hxl, hf⟩ := DataW.trod_struct Tryd.underlying59 h3
        have hk' : k < n + 1 := by omega
        match xs, hxl, cs', hcl with
        | [y0, y1, y2, y3], _, [v0, v1, v2, v3], _ =>
          have g0 := hf 0 _ rfl
          have g1 := hf 1 _ rfl
          have g2 := hf 2 _ rfl
          have g3 := hf 3 _ rfl
          simp [cells3, cells9, cellsIts] at g0 g1 g2 g3
          have e0 := hcell 0 (by omega)
          have e1 := hcell 1 (by omega)
          have e2 := hcell 2 (by omega)
          have e3 := hcell 3 (by omega)
          obtain ⟨k0, d0, rfl, w0⟩ := DataW.trod_int Tryd.underlying3 g0
          obtain ⟨n0, d1, rfl, w1⟩ := DataW.trod_int Tryd.underlying3 g1
          obtain ⟨t0, d2, rfl, w2⟩ := DataW.trod_string Tryd.underlying9 g2
          simp only [List.cons.injEq, and_true] at d0 d1 d2
          subst d0 d1 d2
          have hmem : ∀ z ∈ (elems[i]'(by omega)).1.weights Tryd.prog 59, z ≤ reachBytes := fun z hz => hw z (by
            simp only [DataW.weights, Tryd.underlying26]
            refine List.mem_cons_of_mem _ (List.mem_append_left _ (mem_weightsAll _ _ _ _ z (List.mem_map.2 ⟨_, List.getElem_mem (by omega), rfl⟩) hz)))
          rw [hxy] at hmem
          obtain ⟨li, hli⟩ := ih k hk' v3 y3 g3 (fun z hz => hmem z (by
            simp only [DataW.weights, Tryd.underlying59, List.map_cons, List.map_nil, DataW.weightsEach]
            simp [hz]))
          have ht : t0.size ≤ reachBytes := hmem t0.size (by
            simp only [DataW.weights, Tryd.underlying59, List.map_cons, List.map_nil, DataW.weightsEach]
            simp)
          obtain ⟨ka, kb⟩ := bounds_i64 w0
          obtain ⟨na, nb⟩ := bounds_i64 w1
          exact ⟨(.mk k0 n0 t0 li, v3), ⟨ka, kb, na, nb, ht⟩, by simpa [Addr.add, It.kind] using e0, by simpa [It.num] using e1, by simpa [It.text] using e2, by simpa using e3, hli⟩
      obtain ⟨q, hq⟩ := Deep.choose_lt (α := It × Value) each
      refine ⟨(List.range len).map fun i => (q i).1, ?_⟩
      have hll : ((List.range len).map fun i => (q i).1).length = len := by simp
      have hget : ∀ i (h : i < ((List.range len).map fun i => (q i).1).length), ((List.range len).map fun i => (q i).1)[i] = (q i).1 := fun i h => by simp
      generalize (List.range len).map (fun i => (q i).1) = L at *
      have hadd : ∀ i, i < len → a = ⟨a.block, a.off, none⟩ ∧ a.add (i * 4) = ⟨a.block, a.off + i * 4, none⟩ := fun i hi => by
        have hz := (hq 0 (by omega)).2.1
        have hsp : a.spot = none := by
          rw [Nat.zero_mul] at hz
          have e : a.add 0 = a := rfl
          rw [e] at hz
          unfold World.cell? at hz
          split at hz
          · split at hz
            · cases hz
            · rename_i hs; simpa using hs
          · cases hz
        have ea : a = ⟨a.block, a.off, none⟩ := by cases a; simp at hsp; rw [hsp]
        refine ⟨ea, ?_⟩
        unfold Addr.add
        split
        · rename_i h0; rw [h0, Nat.add_zero]; exact ea
        · rfl
      have hplus : ∀ (b o c : Nat), 0 < c → (⟨b, o, none⟩ : Addr).add c = ⟨b, o + c, none⟩ := fun b o c hc => by
        unfold Addr.add; rw [if_neg (by omega)]
      have res : ItsAt W anyB (.slice (some a) L.length cap) L := by
        refine .mk (some a) a.block a.off cap L (fun i => (q i).2) (by omega) (fun h => ⟨by rw [← (hadd 0 (by omega)).1], trivial⟩) (fun i h => ?_) (fun i h => ?_) (fun i h => ?_) (fun i h => ?_) (fun i h => ?_) (fun i h => ?_)
        · rw [hget i h]; exact (hq i (by omega)).1
        · rw [hget i h, ← (hadd i (by omega)).2]; exact (hq i (by omega)).2.1
        · rw [hget i h]
          have := (hq i (by omega)).2.2.1
          rw [(hadd i (by omega)).2, hplus _ _ _ (by omega)] at this
          exact this
        · rw [hget i h]
          have := (hq i (by omega)).2.2.2.1
          rw [(hadd i (by omega)).2, hplus _ _ _ (by omega)] at this
          exact this
        · have := (hq i (by omega)).2.2.2.2.1
          rw [(hadd i (by omega)).2, hplus _ _ _ (by omega)] at this
          exact this
        · rw [hget i h]; exact (hq i (by omega)).2.2.2.2.2
      rw [hll] at res
      exact res

end Go.Proofs.YtddhjnfcbpookaaDoor
