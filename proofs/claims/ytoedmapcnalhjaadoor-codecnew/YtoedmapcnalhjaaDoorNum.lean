import Derived.Test.YtoedmapcnalhjaaDoorErrs
namespace Go.Proofs.YtoedmapcnalhjaaDoor
open Go.RowKit

set_option maxHeartbeats 400000 in
theorem num_nil (w : World) : Calls Tryd.prog 16 #[.nilIface] w fun e w' => e = .returned (.int .i64 0) ∧ w = w' := by
  go_enter Tryd.func16, Tryd.ntmps16
  go_wp2
  go_ret
  exact ⟨rfl, rfl⟩

set_option maxHeartbeats 400000 in
theorem num_arg (A : Nat → Addr) (w : World) (h : ErrsAt A w) : Calls Tryd.prog 16 #[.iface 61 (.pointer (some (A 0)))] w fun e w' => e = .returned (.int .i64 1) ∧ w = w' := by
  have c0 := (h.1 0 (by decide)).1
  have e0 := eq_same A 0
  clear h
  go_enter Tryd.func16, Tryd.ntmps16
  go_wp2
  go_ret
  exact ⟨rfl, rfl⟩

end Go.Proofs.YtoedmapcnalhjaaDoor
