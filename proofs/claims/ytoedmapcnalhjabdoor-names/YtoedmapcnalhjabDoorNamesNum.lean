import Derived.Test.YtoedmapcnalhjabDoorNum
import Derived.Deep.RegionHeld3
namespace Go.Proofs.YtoedmapcnalhjabDoor
open Go.RowKit

/-- The answers of '==' against each refusal, at refusal i, in every world that has the same blocks. -/
theorem eqs (A : Nat → Addr) (i : Nat) (w : World) (h : ErrsAt A w) (hi : i < 13) : ∀ k, k < 13 → (binOp .eql 33 (.iface 47 (.pointer (some (A i)))) (.iface 47 (.pointer (some (A k))))).run Tryd.prog w = .ok (.bool (i == k)) w := by
  intro k hk
  by_cases he : i = k
  · subst he
    rw [eq_same]; simp
  · rw [eq_other A i k w h hi hk he]
    simp [he]

set_option maxHeartbeats 1000000 in
theorem num_any (A : Nat → Addr) (i : Nat) (w : World) (h : ErrsAt A w) (hi : i < 13) :
    Calls Tryd.prog 15 #[.iface 47 (.pointer (some (A i)))] w fun e w' => e = .returned (.int .i64 ((i : Int) + 1)) ∧ w = w' := by
  have e0 := eqs A i w h hi 0 (by decide)
  have e1 := eqs A i w h hi 1 (by decide)
  have e2 := eqs A i w h hi 2 (by decide)
  have e3 := eqs A i w h hi 3 (by decide)
  have e4 := eqs A i w h hi 4 (by decide)
  have e5 := eqs A i w h hi 5 (by decide)
  have e6 := eqs A i w h hi 6 (by decide)
  have e7 := eqs A i w h hi 7 (by decide)
  have e8 := eqs A i w h hi 8 (by decide)
  have e9 := eqs A i w h hi 9 (by decide)
  have e10 := eqs A i w h hi 10 (by decide)
  have e11 := eqs A i w h hi 11 (by decide)
  have e12 := eqs A i w h hi 12 (by decide)
  have c0 := (h.1 0 (by decide)).1
  have c1 := (h.1 1 (by decide)).1
  have c2 := (h.1 2 (by decide)).1
  have c3 := (h.1 3 (by decide)).1
  have c4 := (h.1 4 (by decide)).1
  have c5 := (h.1 5 (by decide)).1
  have c6 := (h.1 6 (by decide)).1
  have c7 := (h.1 7 (by decide)).1
  have c8 := (h.1 8 (by decide)).1
  have c9 := (h.1 9 (by decide)).1
  have c10 := (h.1 10 (by decide)).1
  have c11 := (h.1 11 (by decide)).1
  have c12 := (h.1 12 (by decide)).1
  simp only [Nat.add_zero, Nat.reduceAdd] at c0 c1 c2 c3 c4 c5 c6 c7 c8 c9 c10 c11 c12
  clear h
  obtain rfl | rfl | rfl | rfl | rfl | rfl | rfl | rfl | rfl | rfl | rfl | rfl | rfl : i = 0 ∨ i = 1 ∨ i = 2 ∨ i = 3 ∨ i = 4 ∨ i = 5 ∨ i = 6 ∨ i = 7 ∨ i = 8 ∨ i = 9 ∨ i = 10 ∨ i = 11 ∨ i = 12 := by omega
  all_goals
    simp only [Nat.reduceBEq, beq_self_eq_true] at e0 e1 e2 e3 e4 e5 e6 e7 e8 e9 e10 e11 e12
    go_enter Tryd.func15, Tryd.ntmps15
    go_wp2
    go_ret
    exact ⟨rfl, rfl⟩

end Go.Proofs.YtoedmapcnalhjabDoor
