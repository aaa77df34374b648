import Derived.Test.YthnidlhcpelomaaDoorDTurn
namespace Go.Proofs.YthnidlhcpelomaaDoor
open Go.RowKit
attribute [local go_sem ↓] Go.wp_at_zero Go.wp_at_succ
/-- Where a list begins behind its first element. -/
def nxA (st g o c : Nat) : Option Addr := if c = 1 then some ⟨g, o, none⟩ else some ⟨g, o + st, none⟩
set_option maxRecDepth 20000 in
theorem slice_one_p (g o n c : Nat) (hn : 1 ≤ n) (w : World) : (Instr.sliceAt 22 (.slice (some ⟨g, o, none⟩) n c) (some (.int .i64 1)) none none).run Tryd.prog w = .ok (.slice (nxA 2 g o c) (n - 1) (c - 1)) w := by
  rw [run_sliceAt_slice (h := Tryd.underlying22), run_slice_l (ht := Tryd.underlying22) (h0 := by omega) (h1 := by omega)]
  have hz : (sizeOf (Tryd.prog.elem 22)).run Tryd.prog w = .ok 2 w := by kernel_rfl
  rw [hz]
  simp only [Result.andThen, sliced, nxA]
  by_cases h : c = 1
  · simp [h]
  · simp [h, add_plain']
theorem take_p (B g o n c : Nat) (hn : 1 ≤ n) (w : World) (hr : w.heap[B]? = some (.cells #[.slice (some ⟨g, o, none⟩) n c, keyPF] 56 (0, 0))) :
    Calls Tryd.prog 51 #[.pointer (some ⟨B, 0, none⟩), .bool true] w fun e w' => e = .returned (.pointer (some ⟨g, o, none⟩)) ∧ w' = w.setCell ⟨B, 0, none⟩ (.slice (nxA 2 g o c) (n - 1) (c - 1)) := by
  have hsl := slice_one_p g o n c hn
  have h0 : w.cell? ⟨B, 0, none⟩ = some (.slice (some ⟨g, o, none⟩) n c) := by rw [cell_of_row w B 0 _ _ _ hr]; rfl
  have hf : w.frozen? ⟨B, 0, none⟩ = false := frozen_of_row _ _ _ _ _ hr
  have hpos : (0 : Int) < (n : Int) := by omega
  generalize nxA 2 g o c = a' at *
  generalize n - 1 = n' at *
  generalize c - 1 = c' at *
  clear hr hn
  go_enter Tryd.func51, Tryd.ntmps51
  go_wp2
  go_ret
  exact ⟨rfl, rfl⟩
theorem take_p_no (B : Nat) (w : World) :
    Calls Tryd.prog 51 #[.pointer (some ⟨B, 0, none⟩), .bool false] w fun e w' => e = .returned (.pointer none) ∧ w' = w := by
  go_enter Tryd.func51, Tryd.ntmps51
  go_wp2
  go_ret
  exact ⟨rfl, rfl⟩
set_option maxRecDepth 20000 in
theorem slice_one_c (g o n c : Nat) (hn : 1 ≤ n) (w : World) : (Instr.sliceAt 23 (.slice (some ⟨g, o, none⟩) n c) (some (.int .i64 1)) none none).run Tryd.prog w = .ok (.slice (nxA 5 g o c) (n - 1) (c - 1)) w := by
  rw [run_sliceAt_slice (h := Tryd.underlying23), run_slice_l (ht := Tryd.underlying23) (h0 := by omega) (h1 := by omega)]
  have hz : (sizeOf (Tryd.prog.elem 23)).run Tryd.prog w = .ok 5 w := by kernel_rfl
  rw [hz]
  simp only [Result.andThen, sliced, nxA]
  by_cases h : c = 1
  · simp [h]
  · simp [h, add_plain']
theorem take_c (B g o n c : Nat) (hn : 1 ≤ n) (w : World) (hr : w.heap[B]? = some (.cells #[.slice (some ⟨g, o, none⟩) n c, keyCF] 69 (0, 0))) :
    Calls Tryd.prog 57 #[.pointer (some ⟨B, 0, none⟩), .bool true] w fun e w' => e = .returned (.pointer (some ⟨g, o, none⟩)) ∧ w' = w.setCell ⟨B, 0, none⟩ (.slice (nxA 5 g o c) (n - 1) (c - 1)) := by
  have hsl := slice_one_c g o n c hn
  have h0 : w.cell? ⟨B, 0, none⟩ = some (.slice (some ⟨g, o, none⟩) n c) := by rw [cell_of_row w B 0 _ _ _ hr]; rfl
  have hf : w.frozen? ⟨B, 0, none⟩ = false := frozen_of_row _ _ _ _ _ hr
  have hpos : (0 : Int) < (n : Int) := by omega
  generalize nxA 5 g o c = a' at *
  generalize n - 1 = n' at *
  generalize c - 1 = c' at *
  clear hr hn
  go_enter Tryd.func57, Tryd.ntmps57
  go_wp2
  go_ret
  exact ⟨rfl, rfl⟩
theorem take_c_no (B : Nat) (w : World) :
    Calls Tryd.prog 57 #[.pointer (some ⟨B, 0, none⟩), .bool false] w fun e w' => e = .returned (.pointer none) ∧ w' = w := by
  go_enter Tryd.func57, Tryd.ntmps57
  go_wp2
  go_ret
  exact ⟨rfl, rfl⟩
end Go.Proofs.YthnidlhcpelomaaDoor
