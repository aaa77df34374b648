import Derived.Test.YtdghlblgmihbpaaDoorLErr
import Derived.Test.YtdghlblgmihbpaaDoorFBits
namespace Go.Proofs.YtdghlblgmihbpaaDoor
open Go.RowKit

set_option maxHeartbeats 800000 in
theorem num_twice (A : Nat → Addr) (w : World) (h : ErrsG 13 gAll A w) : Calls Tryd.prog 27 #[.iface 86 (.pointer (some (A 4)))] w fun e w' => e = .returned (.int .i64 5) ∧ w = w' := by
  have c0 : w.cell? ⟨1, 0, none⟩ = some (.iface 86 (.pointer (some (A 0)))) := (h.1 0 (by decide)).1
  have c1 : w.cell? ⟨4, 0, none⟩ = some (.iface 86 (.pointer (some (A 1)))) := (h.1 1 (by decide)).1
  have c2 : w.cell? ⟨5, 0, none⟩ = some (.iface 86 (.pointer (some (A 2)))) := (h.1 2 (by decide)).1
  have c3 : w.cell? ⟨6, 0, none⟩ = some (.iface 86 (.pointer (some (A 3)))) := (h.1 3 (by decide)).1
  have c4 : w.cell? ⟨2, 0, none⟩ = some (.iface 86 (.pointer (some (A 4)))) := (h.1 4 (by decide)).1
  have e0 := eq_other A 4 0 w h (by decide) (by decide) (by decide)
  have e1 := eq_other A 4 1 w h (by decide) (by decide) (by decide)
  have e2 := eq_other A 4 2 w h (by decide) (by decide) (by decide)
  have e3 := eq_other A 4 3 w h (by decide) (by decide) (by decide)
  have e4 := eq_same A 4
  clear h
  go_enter Tryd.func27, Tryd.ntmps27
  go_wp2
  go_ret
  exact ⟨rfl, rfl⟩
set_option maxHeartbeats 800000 in
theorem num_lost (A : Nat → Addr) (w : World) (h : ErrsG 13 gAll A w) : Calls Tryd.prog 27 #[.iface 86 (.pointer (some (A 5)))] w fun e w' => e = .returned (.int .i64 6) ∧ w = w' := by
  have c0 : w.cell? ⟨1, 0, none⟩ = some (.iface 86 (.pointer (some (A 0)))) := (h.1 0 (by decide)).1
  have c1 : w.cell? ⟨4, 0, none⟩ = some (.iface 86 (.pointer (some (A 1)))) := (h.1 1 (by decide)).1
  have c2 : w.cell? ⟨5, 0, none⟩ = some (.iface 86 (.pointer (some (A 2)))) := (h.1 2 (by decide)).1
  have c3 : w.cell? ⟨6, 0, none⟩ = some (.iface 86 (.pointer (some (A 3)))) := (h.1 3 (by decide)).1
  have c4 : w.cell? ⟨2, 0, none⟩ = some (.iface 86 (.pointer (some (A 4)))) := (h.1 4 (by decide)).1
  have c5 : w.cell? ⟨3, 0, none⟩ = some (.iface 86 (.pointer (some (A 5)))) := (h.1 5 (by decide)).1
  have e0 := eq_other A 5 0 w h (by decide) (by decide) (by decide)
  have e1 := eq_other A 5 1 w h (by decide) (by decide) (by decide)
  have e2 := eq_other A 5 2 w h (by decide) (by decide) (by decide)
  have e3 := eq_other A 5 3 w h (by decide) (by decide) (by decide)
  have e4 := eq_other A 5 4 w h (by decide) (by decide) (by decide)
  have e5 := eq_same A 5
  clear h
  go_enter Tryd.func27, Tryd.ntmps27
  go_wp2
  go_ret
  exact ⟨rfl, rfl⟩
set_option maxHeartbeats 800000 in
theorem num_full (A : Nat → Addr) (w : World) (h : ErrsG 13 gAll A w) : Calls Tryd.prog 27 #[.iface 86 (.pointer (some (A 6)))] w fun e w' => e = .returned (.int .i64 7) ∧ w = w' := by
  have c0 : w.cell? ⟨1, 0, none⟩ = some (.iface 86 (.pointer (some (A 0)))) := (h.1 0 (by decide)).1
  have c1 : w.cell? ⟨4, 0, none⟩ = some (.iface 86 (.pointer (some (A 1)))) := (h.1 1 (by decide)).1
  have c2 : w.cell? ⟨5, 0, none⟩ = some (.iface 86 (.pointer (some (A 2)))) := (h.1 2 (by decide)).1
  have c3 : w.cell? ⟨6, 0, none⟩ = some (.iface 86 (.pointer (some (A 3)))) := (h.1 3 (by decide)).1
  have c4 : w.cell? ⟨2, 0, none⟩ = some (.iface 86 (.pointer (some (A 4)))) := (h.1 4 (by decide)).1
  have c5 : w.cell? ⟨3, 0, none⟩ = some (.iface 86 (.pointer (some (A 5)))) := (h.1 5 (by decide)).1
  have c6 : w.cell? ⟨0, 0, none⟩ = some (.iface 86 (.pointer (some (A 6)))) := (h.1 6 (by decide)).1
  have e0 := eq_other A 6 0 w h (by decide) (by decide) (by decide)
  have e1 := eq_other A 6 1 w h (by decide) (by decide) (by decide)
  have e2 := eq_other A 6 2 w h (by decide) (by decide) (by decide)
  have e3 := eq_other A 6 3 w h (by decide) (by decide) (by decide)
  have e4 := eq_other A 6 4 w h (by decide) (by decide) (by decide)
  have e5 := eq_other A 6 5 w h (by decide) (by decide) (by decide)
  have e6 := eq_same A 6
  clear h
  go_enter Tryd.func27, Tryd.ntmps27
  go_wp2
  go_ret
  exact ⟨rfl, rfl⟩

/-- The refusals that a map knows. -/
def IsE (o : Option Nat) : Prop := o = none ∨ o = some 0 ∨ o = some 4 ∨ o = some 5 ∨ o = some 6
theorem num_e (A : Nat → Addr) (o : Option Nat) (w : World) (h : ErrsG 13 gAll A w) (ho : IsE o) : Calls Tryd.prog 27 #[errV A o] w fun e w' => e = .returned (.int .i64 (numE o : Int)) ∧ w = w' := by
  rcases ho with rfl | rfl | rfl | rfl | rfl
  · exact num_nil w
  · exact num_arg A w (h.weak (by decide))
  · exact num_twice A w h
  · exact num_lost A w h
  · exact num_full A w h
/-- The refusals in their variables and the table of bits, all below base. -/
structure Env (base : Nat) (A : Nat → Addr) (w : World) : Prop where
  errs : ErrsG 13 gAll A w
  tab : tabOk w
  lo : ∀ i, i < 13 → gAll i < base ∧ (A i).block < base
  lt : 13 < base
  size : base ≤ w.heap.size
theorem Env.keep {base : Nat} {A : Nat → Addr} {w w' : World} (h : Env base A w) (hb : Below base w w') : Env base A w' := by
  refine ⟨⟨fun i hi => ?_, h.errs.2⟩, fun j hj => ?_, h.lo, h.lt, Nat.le_trans h.size hb.size⟩
  · obtain ⟨h1, c, t, h2⟩ := h.errs.1 i hi
    obtain ⟨l1, l2⟩ := h.lo i hi
    exact ⟨(World.cell?_of_block (a := ⟨gAll i, 0, none⟩) (hb.block _ l1)).trans h1, c, t, (hb.block _ l2).trans h2⟩
  · exact (World.cell?_of_block (a := ⟨13, j, none⟩) (hb.block _ h.lt)).trans (h.tab j hj)
theorem Env.only {base : Nat} {A : Nat → Addr} {w w' : World} {F : Nat → Prop} (h : Env base A w) (hs : Only F w w') (hF : ∀ k, F k → base ≤ k) : Env base A w' := h.keep (hs.below hF h.size)
theorem Env.up {base : Nat} {A : Nat → Addr} {w w' : World} (h : Env base A w) (hb : Below w.heap.size w w') : Env base A w' := h.keep (hb.mono h.size)
theorem Env.e {base : Nat} {A : Nat → Addr} {w : World} (h : Env base A w) (i : Nat) (hi : i < 13) : w.cell? ⟨gAll i, 0, none⟩ = some (.iface 86 (.pointer (some (A i)))) := (h.errs.1 i hi).1

end Go.Proofs.YtdghlblgmihbpaaDoor
