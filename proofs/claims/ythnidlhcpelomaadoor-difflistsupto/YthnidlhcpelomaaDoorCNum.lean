import Derived.Test.YthnidlhcpelomaaDoorErrs
import Derived.Test.YthnidlhcpelomaaDoorHide
namespace Go.Proofs.YthnidlhcpelomaaDoor
open Go.RowKit

set_option maxHeartbeats 400000 in
theorem num_nil (w : World) : Calls Tryd.prog 10 #[.nilIface] w fun e w' => e = .returned (.int .i64 0) ∧ w = w' := by
  go_enter Tryd.func10, Tryd.ntmps10
  go_wp2
  go_ret
  exact ⟨rfl, rfl⟩

set_option maxHeartbeats 400000 in
theorem num_arg (A : Nat → Addr) (w : World) (h : ErrsG 4 gAll A w) : Calls Tryd.prog 10 #[.iface 102 (.pointer (some (A 0)))] w fun e w' => e = .returned (.int .i64 1) ∧ w = w' := by
  have c0 : w.cell? ⟨1, 0, none⟩ = some (.iface 102 (.pointer (some (A 0)))) := (h.1 0 (by decide)).1
  have e0 := eq_same A 0
  clear h
  go_enter Tryd.func10, Tryd.ntmps10
  go_wp2
  go_ret
  exact ⟨rfl, rfl⟩

set_option maxHeartbeats 400000 in
theorem num_text (A : Nat → Addr) (w : World) (h : ErrsG 4 gAll A w) : Calls Tryd.prog 10 #[.iface 102 (.pointer (some (A 1)))] w fun e w' => e = .returned (.int .i64 2) ∧ w = w' := by
  have c0 : w.cell? ⟨1, 0, none⟩ = some (.iface 102 (.pointer (some (A 0)))) := (h.1 0 (by decide)).1
  have c1 : w.cell? ⟨2, 0, none⟩ = some (.iface 102 (.pointer (some (A 1)))) := (h.1 1 (by decide)).1
  have e0 := eq_other A 1 0 w h (by decide) (by decide) (by decide)
  have e1 := eq_same A 1
  clear h
  go_enter Tryd.func10, Tryd.ntmps10
  go_wp2
  go_ret
  exact ⟨rfl, rfl⟩

set_option maxHeartbeats 400000 in
theorem num_many (A : Nat → Addr) (w : World) (h : ErrsG 4 gAll A w) : Calls Tryd.prog 10 #[.iface 102 (.pointer (some (A 2)))] w fun e w' => e = .returned (.int .i64 3) ∧ w = w' := by
  have c0 : w.cell? ⟨1, 0, none⟩ = some (.iface 102 (.pointer (some (A 0)))) := (h.1 0 (by decide)).1
  have c1 : w.cell? ⟨2, 0, none⟩ = some (.iface 102 (.pointer (some (A 1)))) := (h.1 1 (by decide)).1
  have c2 : w.cell? ⟨3, 0, none⟩ = some (.iface 102 (.pointer (some (A 2)))) := (h.1 2 (by decide)).1
  have e0 := eq_other A 2 0 w h (by decide) (by decide) (by decide)
  have e1 := eq_other A 2 1 w h (by decide) (by decide) (by decide)
  have e2 := eq_same A 2
  clear h
  go_enter Tryd.func10, Tryd.ntmps10
  go_wp2
  go_ret
  exact ⟨rfl, rfl⟩

set_option maxHeartbeats 400000 in
theorem num_short (A : Nat → Addr) (w : World) (h : ErrsG 4 gAll A w) : Calls Tryd.prog 10 #[.iface 102 (.pointer (some (A 3)))] w fun e w' => e = .returned (.int .i64 4) ∧ w = w' := by
  have c0 : w.cell? ⟨1, 0, none⟩ = some (.iface 102 (.pointer (some (A 0)))) := (h.1 0 (by decide)).1
  have c1 : w.cell? ⟨2, 0, none⟩ = some (.iface 102 (.pointer (some (A 1)))) := (h.1 1 (by decide)).1
  have c2 : w.cell? ⟨3, 0, none⟩ = some (.iface 102 (.pointer (some (A 2)))) := (h.1 2 (by decide)).1
  have c3 : w.cell? ⟨4, 0, none⟩ = some (.iface 102 (.pointer (some (A 3)))) := (h.1 3 (by decide)).1
  have e0 := eq_other A 3 0 w h (by decide) (by decide) (by decide)
  have e1 := eq_other A 3 1 w h (by decide) (by decide) (by decide)
  have e2 := eq_other A 3 2 w h (by decide) (by decide) (by decide)
  have e3 := eq_same A 3
  clear h
  go_enter Tryd.func10, Tryd.ntmps10
  go_wp2
  go_ret
  exact ⟨rfl, rfl⟩

end Go.Proofs.YthnidlhcpelomaaDoor
