import Derived.Test.YtlopimdnjookeabGreatDoorB5
import Derived.Test.YtlopimdnjookeabGreatDoorB1
namespace Go.Proofs.YtlopimdnjookeabGreatDoor
open Go.RowKit

set_option maxHeartbeats 800000 in
theorem more_corrupt (A : Nat → Addr) (w : World) (h : ErrsAt A w) : Calls Tryz.prog 44 #[.iface 153 (.pointer (some (A 8)))] w fun e w' => e = .returned (.int .i64 9) ∧ w = w' := by
  have c7 : w.cell? ⟨8, 0, none⟩ = some (.iface 153 (.pointer (some (A 7)))) := (h.1 7 (by decide)).1
  have c8 : w.cell? ⟨0, 0, none⟩ = some (.iface 153 (.pointer (some (A 8)))) := (h.1 8 (by decide)).1
  have e0 := eq_other A 8 7 w h (by decide) (by decide) (by decide)
  have e1 := eq_same A 8
  clear h
  go_enter Tryz.func44, Tryz.ntmps44
  go_wp2
  go_ret
  exact ⟨rfl, rfl⟩

set_option maxHeartbeats 1600000 in
theorem num_corrupt (A : Nat → Addr) (w : World) (h : ErrsAt A w) : Calls Tryz.prog 17 #[.iface 153 (.pointer (some (A 8)))] w fun e w' => e = .returned (.int .i64 9) ∧ w = w' := by
  have HM := hide (more_corrupt A w h)
  have c0 : w.cell? ⟨1, 0, none⟩ = some (.iface 153 (.pointer (some (A 0)))) := (h.1 0 (by decide)).1
  have c1 : w.cell? ⟨2, 0, none⟩ = some (.iface 153 (.pointer (some (A 1)))) := (h.1 1 (by decide)).1
  have c2 : w.cell? ⟨3, 0, none⟩ = some (.iface 153 (.pointer (some (A 2)))) := (h.1 2 (by decide)).1
  have c3 : w.cell? ⟨4, 0, none⟩ = some (.iface 153 (.pointer (some (A 3)))) := (h.1 3 (by decide)).1
  have c4 : w.cell? ⟨5, 0, none⟩ = some (.iface 153 (.pointer (some (A 4)))) := (h.1 4 (by decide)).1
  have c5 : w.cell? ⟨6, 0, none⟩ = some (.iface 153 (.pointer (some (A 5)))) := (h.1 5 (by decide)).1
  have c6 : w.cell? ⟨7, 0, none⟩ = some (.iface 153 (.pointer (some (A 6)))) := (h.1 6 (by decide)).1
  have e0 := eq_other A 8 0 w h (by decide) (by decide) (by decide)
  have e1 := eq_other A 8 1 w h (by decide) (by decide) (by decide)
  have e2 := eq_other A 8 2 w h (by decide) (by decide) (by decide)
  have e3 := eq_other A 8 3 w h (by decide) (by decide) (by decide)
  have e4 := eq_other A 8 4 w h (by decide) (by decide) (by decide)
  have e5 := eq_other A 8 5 w h (by decide) (by decide) (by decide)
  have e6 := eq_other A 8 6 w h (by decide) (by decide) (by decide)
  clear h
  go_enter Tryz.func17, Tryz.ntmps17
  go_wp2_with fail
  refine HM.out.mono ?_
  rintro e w' ⟨rfl, rfl⟩
  go_wp2
  go_ret
  exact ⟨rfl, rfl⟩

end Go.Proofs.YtlopimdnjookeabGreatDoor
