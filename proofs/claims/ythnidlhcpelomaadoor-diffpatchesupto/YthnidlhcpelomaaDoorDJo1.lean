import Derived.Test.YthnidlhcpelomaaDoorDFit
import Derived.Test.YthnidlhcpelomaaDoorDAny
namespace Go.Proofs.YthnidlhcpelomaaDoor
open Go.RowKit
attribute [local go_sem ↓] Go.wp_at_zero Go.wp_at_succ

theorem ChAt.al {w : World} {g o : Nat} {c : Ch} (h : ChAt w g o c) (x : Obj) : ChAt (w.alloc x) g o c := h.block (Below.heap_alloc w x g h.lt)
set_option maxHeartbeats 4000000 in
theorem joined_n (k : ByteArray) (y : ChV) (h2 o2 : Nat) (w : World) (hy : ChAt w h2 o2 (k, y)) : Calls Tryd.prog 38 #[.pointer none, .pointer (some ⟨h2, o2, none⟩)] w fun e w' => e = .returned (chA k y) ∧ Below w.heap.size w w' := by
  obtain ⟨W1, hW1⟩ : ∃ W1, w.alloc (.cells #[.string ⟨#[]⟩, .bool false, .bool false, .string ⟨#[]⟩, .string ⟨#[]⟩] 44) = W1 := ⟨_, rfl⟩
  have x2 : Bx5 W1 w.heap.size ⟨#[]⟩ ⟨false, false, ⟨#[]⟩, ⟨#[]⟩⟩ := by rw [← hW1]; exact World.alloc_heap_new w _
  have HB : Hid (Below w.heap.size w W1) := by rw [← hW1]; exact (Below.refl _ w).alloc (Nat.le_refl _) _
  have HW := hide hW1
  have HX2 := hide x2
  have f0 := x2.frz 0
  have f1 := x2.frz 1
  have f2 := x2.frz 2
  have f3 := x2.frz 3
  have f4 := x2.frz 4
  obtain ⟨e0, e1, e2, e3, e4⟩ := x2.cells
  clear x2
  have hy' : ChAt W1 h2 o2 (k, y) := by rw [← hW1]; exact hy.al _
  obtain ⟨d0, d1, d2, d3, d4⟩ := hy'
  simp only at d0 d1 d2 d3 d4
  clear hy hW1
  unfold chA
  go_enter Tryd.func38, Tryd.ntmps38
  go_upto_region 2 with fail
  rw [HW.out]
  go_wp2
  refine bodyPost_ret (results_cell_row rfl _ _ w.heap.size 44 _ (0, 0) _ rfl (HX2.out.all k y) Tryd.underlying44 rfl (by kernel_rfl)) rfl ?_
  refine ⟨rfl, ?_⟩
  exact ((((HB.out.setCell (p := ⟨w.heap.size, 0, none⟩) (Nat.le_refl _) _).setCell (p := ⟨w.heap.size, 1, none⟩) (Nat.le_refl _) _).setCell (p := ⟨w.heap.size, 2, none⟩) (Nat.le_refl _) _).setCell (p := ⟨w.heap.size, 3, none⟩) (Nat.le_refl _) _).setCell (p := ⟨w.heap.size, 4, none⟩) (Nat.le_refl _) _
set_option maxHeartbeats 4000000 in
theorem joined_o (k : ByteArray) (x : ChV) (h1 o1 : Nat) (w : World) (hx1 : ChAt w h1 o1 (k, x)) : Calls Tryd.prog 38 #[.pointer (some ⟨h1, o1, none⟩), .pointer none] w fun e w' => e = .returned (chA k x) ∧ Below w.heap.size w w' := by
  obtain ⟨W1, hW1⟩ : ∃ W1, w.alloc (.cells #[.string ⟨#[]⟩, .bool false, .bool false, .string ⟨#[]⟩, .string ⟨#[]⟩] 44) = W1 := ⟨_, rfl⟩
  have x2 : Bx5 W1 w.heap.size ⟨#[]⟩ ⟨false, false, ⟨#[]⟩, ⟨#[]⟩⟩ := by rw [← hW1]; exact World.alloc_heap_new w _
  have HB : Hid (Below w.heap.size w W1) := by rw [← hW1]; exact (Below.refl _ w).alloc (Nat.le_refl _) _
  have HW := hide hW1
  have HX2 := hide x2
  have f0 := x2.frz 0
  have f1 := x2.frz 1
  have f2 := x2.frz 2
  have f3 := x2.frz 3
  have f4 := x2.frz 4
  obtain ⟨e0, e1, e2, e3, e4⟩ := x2.cells
  clear x2
  have hx' : ChAt W1 h1 o1 (k, x) := by rw [← hW1]; exact hx1.al _
  obtain ⟨c0, c1, c2, c3, c4⟩ := hx'
  simp only at c0 c1 c2 c3 c4
  clear hx1 hW1
  unfold chA
  go_enter Tryd.func38, Tryd.ntmps38
  go_upto_region 4 with fail
  rw [HW.out]
  go_wp2
  refine bodyPost_ret (results_cell_row rfl _ _ w.heap.size 44 _ (0, 0) _ rfl (HX2.out.all k x) Tryd.underlying44 rfl (by kernel_rfl)) rfl ?_
  refine ⟨rfl, ?_⟩
  exact ((((HB.out.setCell (p := ⟨w.heap.size, 0, none⟩) (Nat.le_refl _) _).setCell (p := ⟨w.heap.size, 1, none⟩) (Nat.le_refl _) _).setCell (p := ⟨w.heap.size, 2, none⟩) (Nat.le_refl _) _).setCell (p := ⟨w.heap.size, 3, none⟩) (Nat.le_refl _) _).setCell (p := ⟨w.heap.size, 4, none⟩) (Nat.le_refl _) _
end Go.Proofs.YthnidlhcpelomaaDoor
