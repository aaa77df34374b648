import Derived.Test.YthnidlhcpelomaaDoorDSm
import Derived.Deep.CutBlock
namespace Go.Proofs.YthnidlhcpelomaaDoor
open Go.RowKit
attribute [local go_sem ↓] Go.wp_at_zero Go.wp_at_succ
theorem Bx5.oth {w : World} {b : Nat} {k : ByteArray} {x : ChV} (h : Bx5 w b k x) {c : Nat} (hne : b ≠ c) (o : Nat) (v : Value) : Bx5 (w.setCell ⟨c, o, none⟩ v) b k x := (Below.heap_setCell w _ v b hne).trans h
theorem Bx5.all {w : World} {b : Nat} {k : ByteArray} {x : ChV} (h : Bx5 w b k x) (k' : ByteArray) (y : ChV) : Bx5 (((((w.setCell ⟨b, 0, none⟩ (.string k')).setCell ⟨b, 1, none⟩ (.bool y.had)).setCell ⟨b, 2, none⟩ (.bool y.has)).setCell ⟨b, 3, none⟩ (.string y.old)).setCell ⟨b, 4, none⟩ (.string y.new)) b k' y :=
  Go.heap_setCell_same _ b 4 _ 44 _ (Go.heap_setCell_same _ b 3 _ 44 _ (Go.heap_setCell_same _ b 2 _ 44 _ (Go.heap_setCell_same _ b 1 _ 44 _ (Go.heap_setCell_same w b 0 _ 44 _ h))))
set_option maxHeartbeats 4000000 in
theorem copyof_any (k : ByteArray) (x : ChV) (w : World) (h1 : k.size ≤ 140737488355328) (h2 : x.old.size ≤ 140737488355328) (h3 : x.new.size ≤ 140737488355328) : Calls Tryd.prog 39 #[chA k x] w fun e w' => e = .returned (chA k x) ∧ Below w.heap.size w w' := by
  obtain ⟨had, has, old, new⟩ := x
  simp only at h2 h3
  have HC1 := hide (fun W => sclone_any k W (by omega))
  have HC2 := hide (fun W => sclone_any old W (by omega))
  have HC3 := hide (fun W => sclone_any new W (by omega))
  obtain ⟨W1, hW1⟩ : ∃ W1, (w.alloc (.cells #[.string k, .bool had, .bool has, .string old, .string new] 44)).alloc (.cells #[.string ⟨#[]⟩, .bool false, .bool false, .string ⟨#[]⟩, .string ⟨#[]⟩] 44) = W1 := ⟨_, rfl⟩
  have x1 : Bx5 W1 w.heap.size k ⟨had, has, old, new⟩ := by rw [← hW1]; exact (Below.heap_alloc _ _ _ (by simp)).trans (World.alloc_heap_new w _)
  have x2 : Bx5 W1 (w.heap.size + 1) ⟨#[]⟩ ⟨false, false, ⟨#[]⟩, ⟨#[]⟩⟩ := by
    rw [← hW1]
    have := World.alloc_heap_new (w.alloc (.cells #[.string k, .bool had, .bool has, .string old, .string new] 44)) (.cells #[.string ⟨#[]⟩, .bool false, .bool false, .string ⟨#[]⟩, .string ⟨#[]⟩] 44)
    rwa [World.size_alloc] at this
  have HB : Hid (Below w.heap.size w W1) := by rw [← hW1]; exact ((Below.refl _ w).alloc (Nat.le_refl _) _).alloc (by simp) _
  have HW := hide hW1
  have HX1 := hide x1
  have HX2 := hide x2
  obtain ⟨c0, c1, c2, c3, c4⟩ := x1.cells
  clear hW1 x1 x2 h1 h2 h3
  unfold chA
  go_enter Tryd.func39, Tryd.ntmps39
  go_wp2_with fail
  rw [HW.out]
  go_wp2_with fail
  go_region_with (first
    | (go_at_call_of 59 (Value.string k); refine (HC1.out _).mono ?_; rintro e w6 ⟨rfl, hg⟩; have HB6 : Hid (Below W1.heap.size W1 w6) := (by (first | exact Below.next HB6.out hg | exact ⟨hg.os, hg.tape, hg.output, hg.size, hg.block⟩)); obtain ⟨c0, c1, c2, c3, c4⟩ := (HX1.out.bel HB6.out).cells; have f0 := (HX1.out.bel HB6.out).frz 0; have f3 := (HX1.out.bel HB6.out).frz 3; have f4 := (HX1.out.bel HB6.out).frz 4; clear hg)
    | (go_at_call_of 59 (Value.string old); refine (HC2.out _).mono ?_; rintro e w6 ⟨rfl, hg⟩; have HB6 : Hid (Below W1.heap.size W1 w6) := (by (first | exact Below.next HB6.out hg | exact ⟨hg.os, hg.tape, hg.output, hg.size, hg.block⟩)); obtain ⟨c0, c1, c2, c3, c4⟩ := (HX1.out.bel HB6.out).cells; have f0 := (HX1.out.bel HB6.out).frz 0; have f3 := (HX1.out.bel HB6.out).frz 3; have f4 := (HX1.out.bel HB6.out).frz 4; clear hg)
    | (go_at_call_of 59 (Value.string new); refine (HC3.out _).mono ?_; rintro e w6 ⟨rfl, hg⟩; have HB6 : Hid (Below W1.heap.size W1 w6) := (by (first | exact Below.next HB6.out hg | exact ⟨hg.os, hg.tape, hg.output, hg.size, hg.block⟩)); obtain ⟨c0, c1, c2, c3, c4⟩ := (HX1.out.bel HB6.out).cells; have f0 := (HX1.out.bel HB6.out).frz 0; have f3 := (HX1.out.bel HB6.out).frz 3; have f4 := (HX1.out.bel HB6.out).frz 4; clear hg))
  all_goals
    have q1 := (HX1.out.bel HB6.out).set
    have q2 := (((HX2.out.bel HB6.out).oth (c := w.heap.size) (by omega) 0 (.string k)).oth (c := w.heap.size) (by omega) 3 (.string old)).oth (c := w.heap.size) (by omega) 4 (.string new)
    have HB7 := hide ((((Below.next HB.out HB6.out).setCell (p := ⟨w.heap.size, 0, none⟩) (Nat.le_refl _) (.string k)).setCell (p := ⟨w.heap.size, 3, none⟩) (Nat.le_refl _) (.string old)).setCell (p := ⟨w.heap.size, 4, none⟩) (Nat.le_refl _) (.string new))
    clear c0 c1 c2 c3 c4 f0 f3 f4
    simp only at q1
    generalize ((w6.setCell ⟨w.heap.size, 0, none⟩ (Value.string k)).setCell ⟨w.heap.size, 3, none⟩ (Value.string old)).setCell ⟨w.heap.size, 4, none⟩ (Value.string new) = V at *
    obtain ⟨c0, c1, c2, c3, c4⟩ := q1.cells
    obtain ⟨d0, d1, d2, d3, d4⟩ := q2.cells
    have f0 := q2.frz 0
    have f1 := q2.frz 1
    have f2 := q2.frz 2
    have f3 := q2.frz 3
    have f4 := q2.frz 4
    have HQ2 := hide q2
    clear q1 q2 HX1 HX2 HC1 HC2 HC3 HW HB HB6
    go_wp2
    refine bodyPost_ret (results_cell_row rfl _ _ (w.heap.size + 1) 44 _ (0, 0) _ rfl (HQ2.out.all k ⟨had, has, old, new⟩) Tryd.underlying44 rfl (by kernel_rfl)) rfl ?_
    exact ⟨rfl, ((((HB7.out.setCell (p := ⟨w.heap.size + 1, 0, none⟩) (Nat.le_succ _) _).setCell (p := ⟨w.heap.size + 1, 1, none⟩) (Nat.le_succ _) _).setCell (p := ⟨w.heap.size + 1, 2, none⟩) (Nat.le_succ _) _).setCell (p := ⟨w.heap.size + 1, 3, none⟩) (Nat.le_succ _) _).setCell (p := ⟨w.heap.size + 1, 4, none⟩) (Nat.le_succ _) _⟩
end Go.Proofs.YthnidlhcpelomaaDoor
