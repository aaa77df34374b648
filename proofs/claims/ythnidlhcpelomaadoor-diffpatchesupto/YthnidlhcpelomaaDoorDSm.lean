import Derived.Test.YthnidlhcpelomaaDoorDIt
import Derived.Test.YthnidlhcpelomaaDoorPClone
namespace Go.Proofs.YthnidlhcpelomaaDoor
open Go.RowKit
attribute [local go_sem ↓] Go.wp_at_zero Go.wp_at_succ

theorem list_eq (a b : ByteArray) : (a.toList == b.toList) = decide (a = b) := by
  by_cases h : a = b
  · subst h; simp
  · have h2 : ¬ a.toList = b.toList := fun e => h (by
      cases h1 : ltK a b with
      | true => exact absurd h1 (by unfold ltK; rw [e, bless_irrefl]; simp)
      | false =>
        cases h3 : ltK b a with
        | true => exact absurd h3 (by unfold ltK; rw [e, bless_irrefl]; simp)
        | false => exact ltK_total h1 h3)
    simp [h, h2]
/-- A change as a value. -/
def chA (k : ByteArray) (x : ChV) : Value := .agg #[.string k, .bool x.had, .bool x.has, .string x.old, .string x.new]
set_option maxHeartbeats 1000000 in
theorem isidle_any (k : ByteArray) (x : ChV) (w : World) : Calls Tryd.prog 52 #[chA k x] w fun e w' => e = .returned (.bool (idleV x)) ∧ Below w.heap.size w w' := by
  obtain ⟨had, has, old, new⟩ := x
  unfold chA idleV
  have HE := hide (list_eq old new)
  have HB := hide (below_new w (.cells #[.string k, .bool had, .bool has, .string old, .string new] 44))
  cases had <;> cases has <;>
    (go_enter Tryd.func52, Tryd.ntmps52
     go_wp2
     go_ret
     refine ⟨?_, HB.out⟩
     first | rfl | (rw [HE.out]; rfl))
/-- A block that holds a change. -/
def Bx5 (w : World) (b : Nat) (k : ByteArray) (x : ChV) : Prop := w.heap[b]? = some (.cells #[.string k, .bool x.had, .bool x.has, .string x.old, .string x.new] 44 (0, 0))
theorem Bx5.bel {w w' : World} {b : Nat} {k : ByteArray} {x : ChV} (h : Bx5 w b k x) (hb : Below w.heap.size w w') : Bx5 w' b k x := (hb.block b (Array.getElem?_eq_some_iff.1 h).1).trans h
theorem Bx5.cells {w : World} {b : Nat} {k : ByteArray} {x : ChV} (h : Bx5 w b k x) : w.cell? ⟨b, 0, none⟩ = some (.string k) ∧ w.cell? ⟨b, 1, none⟩ = some (.bool x.had) ∧ w.cell? ⟨b, 2, none⟩ = some (.bool x.has) ∧ w.cell? ⟨b, 3, none⟩ = some (.string x.old) ∧ w.cell? ⟨b, 4, none⟩ = some (.string x.new) := by
  refine ⟨?_, ?_, ?_, ?_, ?_⟩ <;> (rw [cell_of_row w b _ _ _ _ h]; rfl)
theorem Bx5.frz {w : World} {b : Nat} {k : ByteArray} {x : ChV} (h : Bx5 w b k x) (o : Nat) : w.frozen? ⟨b, o, none⟩ = false := frozen_of_row _ _ _ _ _ h
theorem Bx5.set {w : World} {b : Nat} {k : ByteArray} {x : ChV} (h : Bx5 w b k x) : Bx5 (((w.setCell ⟨b, 0, none⟩ (.string k)).setCell ⟨b, 3, none⟩ (.string x.old)).setCell ⟨b, 4, none⟩ (.string x.new)) b k x :=
  Go.heap_setCell_same _ b 4 _ 44 _ (Go.heap_setCell_same _ b 3 _ 44 _ (Go.heap_setCell_same w b 0 _ 44 _ h))
end Go.Proofs.YthnidlhcpelomaaDoor
