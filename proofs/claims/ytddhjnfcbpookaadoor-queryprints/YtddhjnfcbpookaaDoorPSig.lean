import Derived.Test.YtddhjnfcbpookaaDoorPFault
import Derived.Test.YtddhjnfcbpookaaDoorQMatch2
import Derived.Test.YtddhjnfcbpookaaDoorComp
namespace Go.Proofs.YtddhjnfcbpookaaDoor
open Go.RowKit

/-! The signs: a table of functions. -/
def sgnFn (s : Int) : Nat := if s = 1 then 57 else if s = 2 then 58 else if s = 3 then 59 else if s = 4 then 60 else 61
def sgnT (s : Int) : ByteArray := if s = 1 then ⟨#[61]⟩ else if s = 2 then ⟨#[60]⟩ else if s = 3 then ⟨#[60, 61]⟩ else if s = 4 then ⟨#[62]⟩ else ⟨#[62, 61]⟩
abbrev sgnV (n : Nat) : Value := .func (.func n) #[] #[]
set_option maxRecDepth 100000 in
theorem sgnA_any (n : Int) (w : World) : Calls Tryd.prog 57 #[.int .i64 n] w fun e w' => e = .returned (.bool (n == 0)) ∧ w = w' := by
  go_enter Tryd.func57, Tryd.ntmps57
  go_wp2
  go_ret
  exact ⟨rfl, rfl⟩
set_option maxRecDepth 100000 in
theorem sgnB_any (n : Int) (w : World) : Calls Tryd.prog 58 #[.int .i64 n] w fun e w' => e = .returned (.bool (decide (n < 0))) ∧ w = w' := by
  go_enter Tryd.func58, Tryd.ntmps58
  go_wp2
  go_ret
  exact ⟨rfl, rfl⟩
set_option maxRecDepth 100000 in
theorem sgnC_any (n : Int) (w : World) : Calls Tryd.prog 59 #[.int .i64 n] w fun e w' => e = .returned (.bool (decide (n ≤ 0))) ∧ w = w' := by
  go_enter Tryd.func59, Tryd.ntmps59
  go_wp2
  go_ret
  exact ⟨rfl, rfl⟩
set_option maxRecDepth 100000 in
theorem sgnD_any (n : Int) (w : World) : Calls Tryd.prog 60 #[.int .i64 n] w fun e w' => e = .returned (.bool (decide (0 < n))) ∧ w = w' := by
  go_enter Tryd.func60, Tryd.ntmps60
  go_wp2
  go_ret
  exact ⟨rfl, rfl⟩
set_option maxRecDepth 100000 in
theorem sgnE_any (n : Int) (w : World) : Calls Tryd.prog 61 #[.int .i64 n] w fun e w' => e = .returned (.bool (decide (0 ≤ n))) ∧ w = w' := by
  go_enter Tryd.func61, Tryd.ntmps61
  go_wp2
  go_ret
  exact ⟨rfl, rfl⟩
theorem sgn_any (s n : Int) (w : World) : Calls Tryd.prog (sgnFn s) #[.int .i64 n] w fun e w' => e = .returned (.bool (signB s n)) ∧ w = w' := by
  unfold sgnFn signB
  by_cases h1 : s = 1
  · rw [if_pos h1, if_pos h1]; exact sgnA_any n w
  rw [if_neg h1, if_neg h1]
  by_cases h2 : s = 2
  · rw [if_pos h2, if_pos h2]; exact sgnB_any n w
  rw [if_neg h2, if_neg h2]
  by_cases h3 : s = 3
  · rw [if_pos h3, if_pos h3]; exact sgnC_any n w
  rw [if_neg h3, if_neg h3]
  by_cases h4 : s = 4
  · rw [if_pos h4, if_pos h4]; exact sgnD_any n w
  rw [if_neg h4, if_neg h4]
  exact sgnE_any n w
theorem sgn_call (s : Int) : ∀ args w, Sem.run Tryd.prog (callFunc (sgnFn s) args) w = .ok (.enter (sgnFn s) args) w := by
  unfold sgnFn
  split
  · exact Tryd.call57
  split
  · exact Tryd.call58
  split
  · exact Tryd.call59
  split
  · exact Tryd.call60
  exact Tryd.call61
def sgnCells : Array Value := #[.string ⟨#[]⟩, .nilFunc, .string ⟨#[61]⟩, sgnV 57, .string ⟨#[60]⟩, sgnV 58, .string ⟨#[60, 61]⟩, sgnV 59, .string ⟨#[62]⟩, sgnV 60, .string ⟨#[62, 61]⟩, sgnV 61]
set_option maxHeartbeats 2000000 in
set_option maxRecDepth 100000 in
theorem psigns_any (w : World) : Calls Tryd.prog 42 #[] w fun e w' => e = .returned (.slice (some ⟨w.heap.size, 0, none⟩) 6 6) ∧ RowAt w' w.heap.size sgnCells 99 ∧ Below w.heap.size w w' := by
  have HB := hide (below_new w (.cells sgnCells 99))
  have HR := hide (RowAt.new w sgnCells 99)
  go_enter Tryd.func42, Tryd.ntmps42
  go_wp2
  go_ret
  exact ⟨rfl, HR.out, HB.out⟩
theorem sgn_cell {w : World} {b : Nat} (h : RowAt w b sgnCells 99) {s : Int} (h1 : 1 ≤ s) (h5 : s ≤ 5) (k : Nat) (hk : s = (k : Int)) : w.cell? ⟨b, k * 2, none⟩ = some (.string (sgnT s)) ∧ w.cell? ⟨b, k * 2 + 1, none⟩ = some (sgnV (sgnFn s)) := by
  subst hk
  have hk1 : 1 ≤ k := by omega
  have hk5 : k ≤ 5 := by omega
  rcases (show k = 1 ∨ k = 2 ∨ k = 3 ∨ k = 4 ∨ k = 5 by omega) with rfl | rfl | rfl | rfl | rfl
  · exact ⟨h.cell 2 (by decide), h.cell 3 (by decide)⟩
  · exact ⟨h.cell 4 (by decide), h.cell 5 (by decide)⟩
  · exact ⟨h.cell 6 (by decide), h.cell 7 (by decide)⟩
  · exact ⟨h.cell 8 (by decide), h.cell 9 (by decide)⟩
  · exact ⟨h.cell 10 (by decide), h.cell 11 (by decide)⟩
theorem comp_one (x y : It) (hx : packF [x] = 0) (hy : packF [y] = 0) (ox : OkR 4 [x]) (oy : OkR 4 [y]) : compV [x] [y] = cmpOne (cmpR 3) x y := by
  have fx : faultR 4 [x] = 0 := by
    by_cases e : faultR 4 [x] = 0
    · exact e
    · unfold packF at hx; rw [if_neg e] at hx; exact absurd hx e
  have fy : faultR 4 [y] = 0 := by
    by_cases e : faultR 4 [y] = 0
    · exact e
    · unfold packF at hy; rw [if_neg e] at hy; exact absurd hy e
  unfold compV
  rw [if_pos ⟨hx, hy⟩, order_texts [x] [y] fx fy ox oy]
  show cmpFirst (cmpOne (cmpR 3)) [x] [y] = _
  simp only [cmpFirst]
  split
  · rename_i h; exact h.symm
  · rfl
end Go.Proofs.YtddhjnfcbpookaaDoor
