import Derived.Test.YtlopimdnjookeaaDoorMtRead
import Derived.BigRegion
namespace Go.Proofs.YtlopimdnjookeaaDoor
open Go.RowKit

theorem read_any (v : Value) (l : List UInt8) (pages slot : Int) (w : World) (hv : RdA w v l) (hm : l.length ≤ 140737488355328) (hT : Tab w) :
    Calls Tryd.prog 40 #[v, .int .i64 pages, .int .i64 slot] w fun e w' => e = .returned (.tuple (readV l pages slot)) ∧ Below w.heap.size w w' := by
  obtain ⟨a, cap, rfl, hc⟩ := hv
  by_cases hl : l.length = 512
  · obtain ⟨g, o, rfl, _⟩ := hc 0 (by omega)
    rw [hl]
    exact read_long g o cap l pages slot w hl hT (fun j hj => by obtain ⟨g', o', he, h⟩ := hc j hj; cases he; exact h)
  · have h := read_short a l.length cap pages slot w hl hm
    have e : readV l pages slot = #[.agg #[.int .i64 0, .int .i64 0, .int .u64 0], .bool false] := by
      unfold readV
      rw [if_neg (fun h => hl h.1)]
    rw [e]
    exact h
theorem RdA.below {w w' : World} {v : Value} {l : List UInt8} (h : RdA w v l) (hb : Below w.heap.size w w') : RdA w' v l := by
  obtain ⟨a, cap, hv, hc⟩ := h
  refine ⟨a, cap, hv, fun j hj => ?_⟩
  obtain ⟨g, o, ha, h⟩ := hc j hj
  exact ⟨g, o, ha, (hb.cell (World.block_lt_of_cell? w _ h)).trans h⟩
theorem RdA.slice {w : World} {v : Value} {l : List UInt8} (h : RdA w v l) : ∃ a cap, v = .slice a l.length cap := by
  obtain ⟨a, cap, hv, _⟩ := h
  exact ⟨a, cap, hv⟩

abbrev zMt : Value := .agg #[.int .i64 0, .int .i64 0, .int .u64 0]
def decV (a0 a1 : Addr) (l : List UInt8) (pages slot : Int) : Array Value :=
  if ¬ PagesOk pages ∨ ¬ (0 ≤ slot ∧ slot < 2) then #[zMt, .iface 108 (.pointer (some a0))]
  else if okM l pages slot then #[.agg (parseM l).cells.toArray, .nilIface] else #[zMt, .iface 108 (.pointer (some a1))]

set_option maxRecDepth 100000 in
set_option maxHeartbeats 4000000 in
theorem decode_any (a0 a1 : Addr) (v : Value) (l : List UInt8) (pages slot : Int) (w : World) (hv : RdA w v l) (hm : l.length ≤ 140737488355328) (hT : Tab w)
    (hc0 : w.cell? ⟨0, 0, none⟩ = some (.iface 108 (.pointer (some a0)))) (hc1 : w.cell? ⟨3, 0, none⟩ = some (.iface 108 (.pointer (some a1)))) :
    Calls Tryd.prog 19 #[v, .int .i64 pages, .int .i64 slot] w fun e w' => e = .returned (.tuple (decV a0 a1 l pages slot)) ∧ Below w.heap.size w w' := by
  have HZ0 : Hid ((w.alloc (.cells #[.int .i64 0, .int .i64 0, .int .u64 0] 31)).heap[w.heap.size]? = some (.cells #[.int .i64 0, .int .i64 0, .int .u64 0] 31 (0, 0))) := heap_alloc_new w _
  have hb0 := below_new w (.cells #[.int .i64 0, .int .i64 0, .int .u64 0] 31)
  have HB0 := hide hb0
  have g0 : 0 < w.heap.size := World.block_lt_of_cell? w _ hc0
  have g1 : 3 < w.heap.size := World.block_lt_of_cell? w _ hc1
  have HG : Hid (0 < w.heap.size ∧ 3 < w.heap.size ∧ ¬ 0 = w.heap.size ∧ ¬ 3 = w.heap.size) := ⟨g0, g1, by omega, by omega⟩
  have HLT : Hid (w.heap.size < (w.alloc (.cells #[.int .i64 0, .int .i64 0, .int .u64 0] 31)).heap.size) := by show _ < _; simp
  have k0 := (hb0.cell (p := ⟨0, 0, none⟩) g0).trans hc0
  have k1 := (hb0.cell (p := ⟨3, 0, none⟩) g1).trans hc1
  have HV := hide (hv.below hb0)
  have HT := hide (hT.below hb0)
  have HPM : Hid (∀ w, Calls Tryd.prog 35 #[.int .i64 pages] w fun e w' => e = .returned (.bool (decide (PagesOk pages))) ∧ w = w') := fun w => pmay_any pages w
  have HSM : Hid (∀ w, Calls Tryd.prog 39 #[.int .i64 slot] w fun e w' => e = .returned (.bool (decide (0 ≤ slot ∧ slot < 2))) ∧ w = w') := fun w => isSlot_any slot w
  have HRD : Hid (∀ w, RdA w v l → Tab w → Calls Tryd.prog 40 #[v, .int .i64 pages, .int .i64 slot] w fun e w' => e = .returned (.tuple (readV l pages slot)) ∧ Below w.heap.size w w') := fun w h1 h2 => read_any v l pages slot w h1 hm h2
  have ng0 := HG.out.2.2.1
  have ng1 := HG.out.2.2.2
  obtain ⟨va, vc, rfl⟩ := hv.slice
  clear hv hT hc0 hc1 hb0 g0 g1 hm
  by_cases hp : PagesOk pages
  · rw [decide_eq_true hp] at HPM
    by_cases hs : 0 ≤ slot ∧ slot < 2
    · rw [decide_eq_true hs] at HSM
      have HDV : Hid (decV a0 a1 l pages slot = if okM l pages slot then #[.agg (parseM l).cells.toArray, .nilIface] else #[zMt, .iface 108 (.pointer (some a1))]) := by
        show _ = _
        unfold decV
        rw [if_neg (by rintro (h | h); exact h hp; exact h hs)]
      clear hp hs
      by_cases hok : okM l pages slot
      · rw [if_pos hok] at HDV
        have hrv : readV l pages slot = #[.agg (parseM l).cells.toArray, .bool true] := by unfold readV; rw [if_pos hok]
        rw [hrv] at HRD
        rw [HDV.out]
        clear hok hrv HDV
        obtain ⟨mt, hmt⟩ : ∃ mt, mt = parseM l := ⟨_, rfl⟩
        rw [← hmt] at HRD ⊢
        clear hmt
        obtain ⟨P, R, T⟩ := mt
        simp only [Mt.cells] at HRD ⊢
        go_enter Tryd.func19, Tryd.ntmps19
        go_wp2_with fail
        generalize w.alloc (.cells #[.int .i64 0, .int .i64 0, .int .u64 0] 31) = W0 at *
        refine (HPM.out _).mono ?_
        rintro e w' ⟨rfl, rfl⟩
        go_wp2_with fail
        refine (HSM.out _).mono ?_
        rintro e w' ⟨rfl, rfl⟩
        go_wp2_with fail
        refine (HRD.out _ HV.out HT.out).mono ?_
        rintro e w1 ⟨rfl, hb1⟩
        have hb2 := Below.next hb1 (below_new w1 (.cells #[.int .i64 P, .int .i64 R, .int .u64 (T : Int)] 31))
        obtain ⟨z0, z1, z2, y0, y1, y2⟩ := zero_cells ((hb2.block _ HLT.out).trans HZ0.out)
        have HZ2 := hide ((hb2.block _ HLT.out).trans HZ0.out)
        have HB2 := hide (Below.next HB0.out hb2)
        clear hb1 hb2
        go_wp2_with fail
        refine bodyPost_ret (results_row_tmp rfl _ _ w.heap.size 31 #[.int .i64 P, .int .i64 R, .int .u64 (T : Int)] (0, 0) _ rfl (set_three HZ2.out) Tryd.underlying31 rfl (by kernel_rfl)) rfl ⟨rfl, below_three HB2.out (Nat.le_refl _)⟩
      · rw [if_neg hok] at HDV
        have hrv : readV l pages slot = #[zMt, .bool false] := by unfold readV; rw [if_neg hok]
        rw [hrv] at HRD
        rw [HDV.out]
        clear hok hrv HDV
        go_enter Tryd.func19, Tryd.ntmps19
        go_wp2_with fail
        generalize w.alloc (.cells #[.int .i64 0, .int .i64 0, .int .u64 0] 31) = W0 at *
        refine (HPM.out _).mono ?_
        rintro e w' ⟨rfl, rfl⟩
        go_wp2_with fail
        refine (HSM.out _).mono ?_
        rintro e w' ⟨rfl, rfl⟩
        go_wp2_with fail
        refine (HRD.out _ HV.out HT.out).mono ?_
        rintro e w1 ⟨rfl, hb1⟩
        have hb2 := Below.next hb1 (below_new w1 (.cells #[.int .i64 0, .int .i64 0, .int .u64 0] 31))
        obtain ⟨z0, z1, z2, y0, y1, y2⟩ := zero_cells ((hb2.block _ HLT.out).trans HZ0.out)
        have HZ2 := hide ((hb2.block _ HLT.out).trans HZ0.out)
        have HB2 := hide (Below.next HB0.out hb2)
        have q1 := (hb2.cell (p := ⟨3, 0, none⟩) (Nat.lt_of_lt_of_le HG.out.2.1 HB0.out.size)).trans k1
        clear hb1 hb2
        go_wp2_with fail
        go_region
        all_goals
          go_wp2_with fail
          refine bodyPost_ret (results_row_tmp rfl _ _ w.heap.size 31 #[.int .i64 0, .int .i64 0, .int .u64 0] (0, 0) _ rfl (by first | exact set_three HZ2.out | exact drew_heap (set_three HZ2.out)) Tryd.underlying31 rfl (by kernel_rfl)) rfl ⟨rfl, by first | exact below_three HB2.out (Nat.le_refl _) | exact (below_three HB2.out (Nat.le_refl _)).drew⟩
    · rw [decide_eq_false hs] at HSM
      have HDV : Hid (decV a0 a1 l pages slot = #[zMt, .iface 108 (.pointer (some a0))]) := by
        show _ = _
        unfold decV
        rw [if_pos (.inr hs)]
      rw [HDV.out]
      clear hp hs HDV
      go_enter Tryd.func19, Tryd.ntmps19
      go_wp2_with fail
      generalize w.alloc (.cells #[.int .i64 0, .int .i64 0, .int .u64 0] 31) = W0 at *
      refine (HPM.out _).mono ?_
      rintro e w' ⟨rfl, rfl⟩
      go_wp2_with fail
      refine (HSM.out _).mono ?_
      rintro e w' ⟨rfl, rfl⟩
      obtain ⟨z0, z1, z2, y0, y1, y2⟩ := zero_cells HZ0.out
      go_wp2_with fail
      go_region
      all_goals
        go_wp2_with fail
        refine bodyPost_ret (results_row_tmp rfl _ _ w.heap.size 31 #[.int .i64 0, .int .i64 0, .int .u64 0] (0, 0) _ rfl (by first | exact set_three HZ0.out | exact drew_heap (set_three HZ0.out)) Tryd.underlying31 rfl (by kernel_rfl)) rfl ⟨rfl, by first | exact below_three HB0.out (Nat.le_refl _) | exact (below_three HB0.out (Nat.le_refl _)).drew⟩
  · rw [decide_eq_false hp] at HPM
    have HDV : Hid (decV a0 a1 l pages slot = #[zMt, .iface 108 (.pointer (some a0))]) := by
      show _ = _
      unfold decV
      rw [if_pos (.inl hp)]
    rw [HDV.out]
    clear hp HDV
    go_enter Tryd.func19, Tryd.ntmps19
    go_wp2_with fail
    generalize w.alloc (.cells #[.int .i64 0, .int .i64 0, .int .u64 0] 31) = W0 at *
    refine (HPM.out _).mono ?_
    rintro e w' ⟨rfl, rfl⟩
    obtain ⟨z0, z1, z2, y0, y1, y2⟩ := zero_cells HZ0.out
    go_wp2_with fail
    go_region
    all_goals
      go_wp2_with fail
      refine bodyPost_ret (results_row_tmp rfl _ _ w.heap.size 31 #[.int .i64 0, .int .i64 0, .int .u64 0] (0, 0) _ rfl (by first | exact set_three HZ0.out | exact drew_heap (set_three HZ0.out)) Tryd.underlying31 rfl (by kernel_rfl)) rfl ⟨rfl, by first | exact below_three HB0.out (Nat.le_refl _) | exact (below_three HB0.out (Nat.le_refl _)).drew⟩

end Go.Proofs.YtlopimdnjookeaaDoor
