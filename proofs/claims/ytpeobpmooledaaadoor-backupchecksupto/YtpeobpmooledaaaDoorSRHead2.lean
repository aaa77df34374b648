import Derived.Test.YtpeobpmooledaaaDoorSRHead
namespace Go.Proofs.YtpeobpmooledaaaDoor.S
open Go.RowKit

theorem set_five {w : World} {b : Nat} {t : TypeId} {v0 v1 v2 v3 v4 u0 u1 u2 u3 u4 : Value} (h : w.heap[b]? = some (.cells #[v0, v1, v2, v3, v4] t (0, 0))) :
    (((((w.setCell ⟨b, 0, none⟩ u0).setCell ⟨b, 1, none⟩ u1).setCell ⟨b, 2, none⟩ u2).setCell ⟨b, 3, none⟩ u3).setCell ⟨b, 4, none⟩ u4).heap[b]? = some (.cells #[u0, u1, u2, u3, u4] t (0, 0)) :=
  heap_setCell_same _ b 4 _ t u4 (heap_setCell_same _ b 3 _ t u3 (heap_setCell_same _ b 2 _ t u2 (heap_setCell_same _ b 1 _ t u1 (heap_setCell_same w b 0 _ t u0 h))))

set_option maxHeartbeats 1000000 in
theorem readHead_any (g cap : Nat) (l : List UInt8) (w : World) (hl : l.length = 4096) (hcap : 4096 ≤ cap) (hcm : cap ≤ 9223372036854775807) (hL : Lay w)
    (hc : ∀ j (h : j < l.length), w.cell? ⟨g, j, none⟩ = some (.int .u8 (l[j].toNat : Int))) :
    Calls Tryd.prog 51 #[.slice (some ⟨g, 0, none⟩) 4096 cap] w fun e w' => e = .returned (.agg #[.int .u64 (nums l 0 : Int), .int .u64 (nums l 1 : Int), .int .u64 (nums l 2 : Int), .int .u64 (nums l 3 : Int), .int .u64 (nums l 4 : Int)]) ∧ Below w.heap.size w w' := by
  have hgl : g < w.heap.size := World.block_lt_of_cell? w _ (hc 0 (by omega))
  have hb0 : Below w.heap.size w ((w.alloc (.cells #[.int .u64 0, .int .u64 0, .int .u64 0, .int .u64 0, .int .u64 0] 83)).alloc (.cells #[.int .u64 0, .int .u64 0, .int .u64 0, .int .u64 0, .int .u64 0] 83)) := Below.next (below_new w _) (below_new _ _)
  have C := eachR_any g (w.heap.size + 1) cap l ((w.alloc (.cells #[.int .u64 0, .int .u64 0, .int .u64 0, .int .u64 0, .int .u64 0] 83)).alloc (.cells #[.int .u64 0, .int .u64 0, .int .u64 0, .int .u64 0, .int .u64 0] 83)) hl hcap hcm (by omega) (hL.below hb0)
    (by
      have h := heap_alloc_new (w.alloc (.cells #[.int .u64 0, .int .u64 0, .int .u64 0, .int .u64 0, .int .u64 0] 83)) (.cells #[.int .u64 0, .int .u64 0, .int .u64 0, .int .u64 0, .int .u64 0] 83)
      rw [show (w.alloc (.cells #[.int .u64 0, .int .u64 0, .int .u64 0, .int .u64 0, .int .u64 0] 83)).heap.size = w.heap.size + 1 by simp] at h
      exact h)
    (fun j hj => (hb0.cell (p := ⟨g, j, none⟩) hgl).trans (hc j hj))
  have HC : Hid (Calls Tryd.prog 60 #[.slice (some ⟨g, 0, none⟩) 4096 cap, .func (.func 61) #[] #[.pointer (some ⟨w.heap.size + 1, 0, none⟩)]] ((w.alloc (.cells #[.int .u64 0, .int .u64 0, .int .u64 0, .int .u64 0, .int .u64 0] 83)).alloc (.cells #[.int .u64 0, .int .u64 0, .int .u64 0, .int .u64 0, .int .u64 0] 83)) fun e w' => e = .returned (.tuple #[]) ∧ HeadAt w' (w.heap.size + 1) (numsTo l 5) ∧ Sole (w.heap.size + 1) ((w.alloc (.cells #[.int .u64 0, .int .u64 0, .int .u64 0, .int .u64 0, .int .u64 0] 83)).alloc (.cells #[.int .u64 0, .int .u64 0, .int .u64 0, .int .u64 0, .int .u64 0] 83)) w') := C
  have HB0 := hide hb0
  have HR0 : Hid (((w.alloc (.cells #[.int .u64 0, .int .u64 0, .int .u64 0, .int .u64 0, .int .u64 0] 83)).alloc (.cells #[.int .u64 0, .int .u64 0, .int .u64 0, .int .u64 0, .int .u64 0] 83)).heap[w.heap.size]? = some (.cells #[.int .u64 0, .int .u64 0, .int .u64 0, .int .u64 0, .int .u64 0] 83 (0, 0))) := by
    show _ = _
    rw [(below_new (w.alloc (.cells #[.int .u64 0, .int .u64 0, .int .u64 0, .int .u64 0, .int .u64 0] 83)) _).block w.heap.size (by simp)]
    exact heap_alloc_new w _
  clear C hb0 hc hL hl
  go_enter Tryd.func51, Tryd.ntmps51
  go_wp2_with fail
  have HSZ : Hid (w.heap.size + 1 < ((w.alloc (.cells #[.int .u64 0, .int .u64 0, .int .u64 0, .int .u64 0, .int .u64 0] 83)).alloc (.cells #[.int .u64 0, .int .u64 0, .int .u64 0, .int .u64 0, .int .u64 0] 83)).heap.size) := by show _ < _; simp
  generalize ((w.alloc (.cells #[.int .u64 0, .int .u64 0, .int .u64 0, .int .u64 0, .int .u64 0] 83)).alloc (.cells #[.int .u64 0, .int .u64 0, .int .u64 0, .int .u64 0, .int .u64 0] 83)) = W0 at *
  refine Calls.mono HC.out ?_
  rintro e w1 ⟨rfl, hh, hs⟩
  have d0 : w1.cell? ⟨w.heap.size + 1, 0, none⟩ = some (.int .u64 (nums l 0 : Int)) := by rw [hh.cell 0 (by decide), numsTo_five _ _ (by decide)]
  have d1 : w1.cell? ⟨w.heap.size + 1, 1, none⟩ = some (.int .u64 (nums l 1 : Int)) := by rw [hh.cell 1 (by decide), numsTo_five _ _ (by decide)]
  have d2 : w1.cell? ⟨w.heap.size + 1, 2, none⟩ = some (.int .u64 (nums l 2 : Int)) := by rw [hh.cell 2 (by decide), numsTo_five _ _ (by decide)]
  have d3 : w1.cell? ⟨w.heap.size + 1, 3, none⟩ = some (.int .u64 (nums l 3 : Int)) := by rw [hh.cell 3 (by decide), numsTo_five _ _ (by decide)]
  have d4 : w1.cell? ⟨w.heap.size + 1, 4, none⟩ = some (.int .u64 (nums l 4 : Int)) := by rw [hh.cell 4 (by decide), numsTo_five _ _ (by decide)]
  have hr1 : w1.heap[w.heap.size]? = some (.cells #[.int .u64 0, .int .u64 0, .int .u64 0, .int .u64 0, .int .u64 0] 83 (0, 0)) := by rw [hs.block w.heap.size (by have := HSZ.out; omega) (by omega)]; exact HR0.out
  have HR1 := hide hr1
  have HB1 : Hid (Below w.heap.size w w1) := hs.below HB0.out (by omega)
  have f0 : w1.frozen? ⟨w.heap.size, 0, none⟩ = false := frozen_of_row _ _ _ _ _ hr1
  have f1 : w1.frozen? ⟨w.heap.size, 1, none⟩ = false := frozen_of_row _ _ _ _ _ hr1
  have f2 : w1.frozen? ⟨w.heap.size, 2, none⟩ = false := frozen_of_row _ _ _ _ _ hr1
  have f3 : w1.frozen? ⟨w.heap.size, 3, none⟩ = false := frozen_of_row _ _ _ _ _ hr1
  have f4 : w1.frozen? ⟨w.heap.size, 4, none⟩ = false := frozen_of_row _ _ _ _ _ hr1
  have g0 : w1.cell? ⟨w.heap.size, 0, none⟩ = some (.int .u64 0) := by rw [cell_of_row _ _ _ _ _ _ hr1]; rfl
  have g1 : w1.cell? ⟨w.heap.size, 1, none⟩ = some (.int .u64 0) := by rw [cell_of_row _ _ _ _ _ _ hr1]; rfl
  have g2 : w1.cell? ⟨w.heap.size, 2, none⟩ = some (.int .u64 0) := by rw [cell_of_row _ _ _ _ _ _ hr1]; rfl
  have g3 : w1.cell? ⟨w.heap.size, 3, none⟩ = some (.int .u64 0) := by rw [cell_of_row _ _ _ _ _ _ hr1]; rfl
  have g4 : w1.cell? ⟨w.heap.size, 4, none⟩ = some (.int .u64 0) := by rw [cell_of_row _ _ _ _ _ _ hr1]; rfl
  clear hh hs hr1 HC HB0 HR0
  go_wp2_with fail
  refine bodyPost_ret (results_cell_row rfl _ _ w.heap.size 83 #[.int .u64 (nums l 0 : Int), .int .u64 (nums l 1 : Int), .int .u64 (nums l 2 : Int), .int .u64 (nums l 3 : Int), .int .u64 (nums l 4 : Int)] (0, 0) _ rfl (set_five HR1.out) Tryd.underlying83 rfl (by kernel_rfl)) rfl ⟨rfl, ?_⟩
  exact ((((HB1.out.setCell (Nat.le_refl _) _).setCell (Nat.le_refl _) _).setCell (Nat.le_refl _) _).setCell (Nat.le_refl _) _).setCell (Nat.le_refl _) _

end Go.Proofs.YtpeobpmooledaaaDoor.S
