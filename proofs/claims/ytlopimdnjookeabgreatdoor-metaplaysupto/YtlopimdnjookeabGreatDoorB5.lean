import Derived.Test.YtlopimdnjookeabGreatDoorErrs
namespace Go.Proofs.YtlopimdnjookeabGreatDoor
open Go.RowKit

set_option maxHeartbeats 400000 in
theorem num_nil (w : World) : Calls Tryz.prog 17 #[.nilIface] w fun e w' => e = .returned (.int .i64 0) ∧ w = w' := by
  go_enter Tryz.func17, Tryz.ntmps17
  go_wp2
  go_ret
  exact ⟨rfl, rfl⟩

set_option maxHeartbeats 400000 in
theorem num_arg (A : Nat → Addr) (w : World) (h : ErrsAt A w) : Calls Tryz.prog 17 #[.iface 153 (.pointer (some (A 0)))] w fun e w' => e = .returned (.int .i64 1) ∧ w = w' := by
  have c0 : w.cell? ⟨1, 0, none⟩ = some (.iface 153 (.pointer (some (A 0)))) := (h.1 0 (by decide)).1
  have e0 := eq_same A 0
  clear h
  go_enter Tryz.func17, Tryz.ntmps17
  go_wp2
  go_ret
  exact ⟨rfl, rfl⟩

end Go.Proofs.YtlopimdnjookeabGreatDoor

namespace Go.Proofs.YtlopimdnjookeabGreatDoor
open Go.RowKit

set_option maxHeartbeats 400000 in
theorem num_text (A : Nat → Addr) (w : World) (h : ErrsAt A w) : Calls Tryz.prog 17 #[.iface 153 (.pointer (some (A 1)))] w fun e w' => e = .returned (.int .i64 2) ∧ w = w' := by
  have c0 : w.cell? ⟨1, 0, none⟩ = some (.iface 153 (.pointer (some (A 0)))) := (h.1 0 (by decide)).1
  have c1 : w.cell? ⟨2, 0, none⟩ = some (.iface 153 (.pointer (some (A 1)))) := (h.1 1 (by decide)).1
  have e0 := eq_other A 1 0 w h (by decide) (by decide) (by decide)
  have e1 := eq_same A 1
  clear h
  go_enter Tryz.func17, Tryz.ntmps17
  go_wp2
  go_ret
  exact ⟨rfl, rfl⟩

end Go.Proofs.YtlopimdnjookeabGreatDoor
