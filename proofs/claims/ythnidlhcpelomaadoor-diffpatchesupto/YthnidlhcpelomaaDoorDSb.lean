import Derived.Test.YthnidlhcpelomaaDoorDIt
namespace Go.Proofs.YthnidlhcpelomaaDoor
open Go.RowKit
attribute [local go_sem ↓] Go.wp_at_zero Go.wp_at_succ
theorem sb_pp (v1 v2 : Value) (w : World) : Calls Tryd.prog 29 #[.agg #[v1, keyPF], .agg #[v2, keyPF]] w fun e w' => e = .returned (.func (.func 49) #[] #[.pointer (some ⟨w.heap.size, 0, none⟩), .pointer (some ⟨w.heap.size + 1, 0, none⟩)]) ∧ row2 w' w.heap.size v1 keyPF 56 ∧ row2 w' (w.heap.size + 1) v2 keyPF 56 ∧ Below w.heap.size w w' := by
  go_enter Tryd.func29, Tryd.ntmps29
  go_wp2
  go_ret
  refine ⟨rfl, (Below.heap_alloc _ _ _ (by simp)).trans (World.alloc_heap_new w _), ?_, ((Below.refl _ w).alloc (Nat.le_refl _) _).alloc (by simp) _⟩
  have := World.alloc_heap_new (w.alloc (.cells #[v1, keyPF] 56)) (.cells #[v2, keyPF] 56)
  rwa [World.size_alloc] at this
theorem sb_cc (v1 v2 : Value) (w : World) : Calls Tryd.prog 36 #[.agg #[v1, keyCF], .agg #[v2, keyCF]] w fun e w' => e = .returned (.func (.func 55) #[] #[.pointer (some ⟨w.heap.size, 0, none⟩), .pointer (some ⟨w.heap.size + 1, 0, none⟩)]) ∧ row2 w' w.heap.size v1 keyCF 69 ∧ row2 w' (w.heap.size + 1) v2 keyCF 69 ∧ Below w.heap.size w w' := by
  go_enter Tryd.func36, Tryd.ntmps36
  go_wp2
  go_ret
  refine ⟨rfl, (Below.heap_alloc _ _ _ (by simp)).trans (World.alloc_heap_new w _), ?_, ((Below.refl _ w).alloc (Nat.le_refl _) _).alloc (by simp) _⟩
  have := World.alloc_heap_new (w.alloc (.cells #[v1, keyCF] 69)) (.cells #[v2, keyCF] 69)
  rwa [World.size_alloc] at this
theorem sb_pc (v1 v2 : Value) (w : World) : Calls Tryd.prog 42 #[.agg #[v1, keyPF], .agg #[v2, keyCF]] w fun e w' => e = .returned (.func (.func 60) #[] #[.pointer (some ⟨w.heap.size, 0, none⟩), .pointer (some ⟨w.heap.size + 1, 0, none⟩)]) ∧ row2 w' w.heap.size v1 keyPF 56 ∧ row2 w' (w.heap.size + 1) v2 keyCF 69 ∧ Below w.heap.size w w' := by
  go_enter Tryd.func42, Tryd.ntmps42
  go_wp2
  go_ret
  refine ⟨rfl, (Below.heap_alloc _ _ _ (by simp)).trans (World.alloc_heap_new w _), ?_, ((Below.refl _ w).alloc (Nat.le_refl _) _).alloc (by simp) _⟩
  have := World.alloc_heap_new (w.alloc (.cells #[v1, keyPF] 56)) (.cells #[v2, keyCF] 69)
  rwa [World.size_alloc] at this
end Go.Proofs.YthnidlhcpelomaaDoor
