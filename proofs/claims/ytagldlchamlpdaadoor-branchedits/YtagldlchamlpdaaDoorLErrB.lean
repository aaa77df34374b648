import Derived.Test.YtagldlchamlpdaaDoorLErr13
namespace Go.Proofs.YtagldlchamlpdaaDoor
open Go.RowKit

set_option maxHeartbeats 1600000 in
theorem num_twice (A : Nat → Addr) (w : World) (h : ErrsG 13 gAll A w) : Calls Tryd.prog 19 #[.iface 177 (.pointer (some (A 4)))] w fun e w' => e = .returned (.int .i64 5) ∧ w = w' := by
  have c0 : w.cell? ⟨0, 0, none⟩ = some (.iface 177 (.pointer (some (A 0)))) := (h.1 0 (by decide)).1
  have c1 : w.cell? ⟨1, 0, none⟩ = some (.iface 177 (.pointer (some (A 1)))) := (h.1 1 (by decide)).1
  have c2 : w.cell? ⟨2, 0, none⟩ = some (.iface 177 (.pointer (some (A 2)))) := (h.1 2 (by decide)).1
  have c3 : w.cell? ⟨3, 0, none⟩ = some (.iface 177 (.pointer (some (A 3)))) := (h.1 3 (by decide)).1
  have c4 : w.cell? ⟨4, 0, none⟩ = some (.iface 177 (.pointer (some (A 4)))) := (h.1 4 (by decide)).1
  have e0 := eq_other A 4 0 w h (by decide) (by decide) (by decide)
  have e1 := eq_other A 4 1 w h (by decide) (by decide) (by decide)
  have e2 := eq_other A 4 2 w h (by decide) (by decide) (by decide)
  have e3 := eq_other A 4 3 w h (by decide) (by decide) (by decide)
  have e4 := eq_same A 4
  clear h
  go_enter Tryd.func19, Tryd.ntmps19
  go_wp2
  go_ret
  exact ⟨rfl, rfl⟩

/-- Num of a refusal that the branch knows. -/
theorem num_errK (A : Nat → Addr) (o : Option Nat) (w : World) (h : ErrsG 13 gAll A w) (ho : o = none ∨ o = some 0 ∨ o = some 2 ∨ o = some 3 ∨ o = some 4 ∨ o = some 11) : Calls Tryd.prog 19 #[errV A o] w fun e w' => e = .returned (.int .i64 (numE o : Int)) ∧ w = w' := by
  rcases ho with rfl | rfl | rfl | rfl | rfl | rfl
  · exact num_nil w
  · exact num_arg A w (h.weak (by decide))
  · exact num_many A w (h.weak (by decide))
  · exact num_short A w (h.weak (by decide))
  · exact num_twice A w h
  · exact num_order A w h

end Go.Proofs.YtagldlchamlpdaaDoor
