import Derived.Test.YtlopimdnjookeaaDoorErrs
namespace Go.Proofs.YtlopimdnjookeaaDoor
open Go.RowKit

set_option maxHeartbeats 400000 in
theorem num_nil (w : World) : Calls Tryd.prog 21 #[.nilIface] w fun e w' => e = .returned (.int .i64 0) ∧ w = w' := by
  go_enter Tryd.func21, Tryd.ntmps21
  go_wp2
  go_ret
  exact ⟨rfl, rfl⟩

set_option maxHeartbeats 400000 in
theorem num_arg (A : Nat → Addr) (w : World) (h : ErrsAt A w) : Calls Tryd.prog 21 #[.iface 108 (.pointer (some (A 0)))] w fun e w' => e = .returned (.int .i64 1) ∧ w = w' := by
  have c0 : w.cell? ⟨0, 0, none⟩ = some (.iface 108 (.pointer (some (A 0)))) := (h.1 0 (by decide)).1
  have e0 := eq_same A 0
  clear h
  go_enter Tryd.func21, Tryd.ntmps21
  go_wp2
  go_ret
  exact ⟨rfl, rfl⟩

end Go.Proofs.YtlopimdnjookeaaDoor
