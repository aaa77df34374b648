import Derived.Test.YthnidlhcpelomaaDoorDCh
import Derived.Test.YthnidlhcpelomaaDoorPClone
import Derived.Test.YthnidlhcpelomaaDoorBX
import Derived.Deep.RegionHeld3
import Derived.Laws.EntriesVeiled
import Derived.Deep.DrawnRows
import Derived.Laws.ResultCell
namespace Go.Proofs.YthnidlhcpelomaaDoor
open Go.RowKit
attribute [local go_sem ↓] Go.wp_at_zero Go.wp_at_succ

abbrev keyPF : Value := .func (.func 47) #[] #[]
abbrev keyCF : Value := .func (.func 53) #[] #[]
theorem below_drewN2 {B : Nat} {a w : World} (h : Below B a w) (n : Nat) : Below B a (w.drewN n) := ⟨h.os, h.tape, h.output, h.size, h.block⟩
theorem cell_bel {w w' : World} {a : Addr} {v : Value} (hb : Below w.heap.size w w') (h : w.cell? a = some v) : w'.cell? a = some v := (hb.cell (p := a) (World.block_lt_of_cell? w _ h)).trans h
theorem box2 (w : World) (x y : Value) (t : TypeId) : (w.alloc (.cells #[x, y] t)).cell? ⟨w.heap.size, 0, none⟩ = some x ∧ (w.alloc (.cells #[x, y] t)).cell? ⟨w.heap.size, 1, none⟩ = some y := by
  have hb := boxed_new w #[x, y] t
  exact ⟨hb.2 0 (by simp), hb.2 1 (by simp)⟩

theorem key_p (g o : Nat) (k : ByteArray) (w : World) (hc : w.cell? ⟨g, o, none⟩ = some (.string k)) : Calls Tryd.prog 47 #[.pointer (some ⟨g, o, none⟩)] w fun e w' => e = .returned (.string k) ∧ w' = w := by
  go_enter Tryd.func47, Tryd.ntmps47
  go_wp2
  go_ret
  exact ⟨rfl, rfl⟩
theorem key_c (g o : Nat) (k : ByteArray) (w : World) (hc : w.cell? ⟨g, o, none⟩ = some (.string k)) : Calls Tryd.prog 53 #[.pointer (some ⟨g, o, none⟩)] w fun e w' => e = .returned (.string k) ∧ w' = w := by
  go_enter Tryd.func53, Tryd.ntmps53
  go_wp2
  go_ret
  exact ⟨rfl, rfl⟩
theorem ofp_any (n c : Nat) (a : Option Addr) (w : World) : Calls Tryd.prog 27 #[.slice a n c] w fun e w' => e = .returned (.agg #[.slice a n c, keyPF]) ∧ Below w.heap.size w w' := by
  go_enter Tryd.func27, Tryd.ntmps27
  go_wp2
  refine bodyPost_ret (results_cell_row rfl _ _ w.heap.size 56 _ (0, 0) _ rfl (heap_alloc_new w _) Tryd.underlying56 rfl (by kernel_rfl)) rfl ⟨rfl, below_new w _⟩
theorem ofc_any (n c : Nat) (a : Option Addr) (w : World) : Calls Tryd.prog 34 #[.slice a n c] w fun e w' => e = .returned (.agg #[.slice a n c, keyCF]) ∧ Below w.heap.size w w' := by
  go_enter Tryd.func34, Tryd.ntmps34
  go_wp2
  refine bodyPost_ret (results_cell_row rfl _ _ w.heap.size 69 _ (0, 0) _ rfl (heap_alloc_new w _) Tryd.underlying69 rfl (by kernel_rfl)) rfl ⟨rfl, below_new w _⟩
set_option maxHeartbeats 400000 in
theorem kat_p (g o n c i : Nat) (k : ByteArray) (w : World) (hi : i < n) (hc : w.cell? ⟨g, o + i * 2, none⟩ = some (.string k)) : Calls Tryd.prog 48 #[.agg #[.slice (some ⟨g, o, none⟩) n c, keyPF], .int .i64 (i : Int)] w fun e w' => e = .returned (.string k) ∧ Below w.heap.size w w' := by
  have j0 : (0 : Int) ≤ (i : Int) := Int.natCast_nonneg i
  have j1 : (i : Int) < (n : Int) := by omega
  have hb := below_new w (.cells #[.slice (some ⟨g, o, none⟩) n c, keyPF] 56)
  have HC := hide (cell_bel hb hc)
  have HB := hide hb
  obtain ⟨b0, b1⟩ := box2 w (.slice (some ⟨g, o, none⟩) n c) keyPF 56
  clear hc hb
  go_enter Tryd.func48, Tryd.ntmps48
  go_wp2
  go_quiet ((refine Calls.quiet_of_same (key_p g (o + i * 2) k _ ?_); exact HC.out))
  go_wp2
  go_ret
  exact ⟨rfl, below_drewN2 HB.out _⟩
set_option maxHeartbeats 400000 in
theorem kat_c (g o n c i : Nat) (k : ByteArray) (w : World) (hi : i < n) (hc : w.cell? ⟨g, o + i * 5, none⟩ = some (.string k)) : Calls Tryd.prog 54 #[.agg #[.slice (some ⟨g, o, none⟩) n c, keyCF], .int .i64 (i : Int)] w fun e w' => e = .returned (.string k) ∧ Below w.heap.size w w' := by
  have j0 : (0 : Int) ≤ (i : Int) := Int.natCast_nonneg i
  have j1 : (i : Int) < (n : Int) := by omega
  have hb := below_new w (.cells #[.slice (some ⟨g, o, none⟩) n c, keyCF] 69)
  have HC := hide (cell_bel hb hc)
  have HB := hide hb
  obtain ⟨b0, b1⟩ := box2 w (.slice (some ⟨g, o, none⟩) n c) keyCF 69
  clear hc hb
  go_enter Tryd.func54, Tryd.ntmps54
  go_wp2
  go_quiet ((refine Calls.quiet_of_same (key_c g (o + i * 5) k _ ?_); exact HC.out))
  go_wp2
  go_ret
  exact ⟨rfl, below_drewN2 HB.out _⟩

end Go.Proofs.YthnidlhcpelomaaDoor
