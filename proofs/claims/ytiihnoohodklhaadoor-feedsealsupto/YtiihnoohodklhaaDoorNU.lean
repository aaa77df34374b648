import Derived.Test.YtiihnoohodklhaaDoorErrs
import Derived.Test.YtiihnoohodklhaaDoorBX
namespace Go.Proofs.YtiihnoohodklhaaDoor
open Go.RowKit

set_option maxHeartbeats 400000 in
theorem num_nil (w : World) : Calls Tryd.prog 9 #[.nilIface] w fun e w' => e = .returned (.int .i64 0) ∧ w = w' := by
  go_enter Tryd.func9, Tryd.ntmps9
  go_wp2
  go_ret
  exact ⟨rfl, rfl⟩

set_option maxHeartbeats 400000 in
theorem num_arg (A : Nat → Addr) (w : World) (h : ErrsG 4 gAll A w) : Calls Tryd.prog 9 #[.iface 70 (.pointer (some (A 0)))] w fun e w' => e = .returned (.int .i64 1) ∧ w = w' := by
  have c0 : w.cell? ⟨0, 0, none⟩ = some (.iface 70 (.pointer (some (A 0)))) := (h.1 0 (by decide)).1
  have e0 := eq_same A 0
  clear h
  go_enter Tryd.func9, Tryd.ntmps9
  go_wp2
  go_ret
  exact ⟨rfl, rfl⟩

set_option maxHeartbeats 400000 in
theorem num_text (A : Nat → Addr) (w : World) (h : ErrsG 4 gAll A w) : Calls Tryd.prog 9 #[.iface 70 (.pointer (some (A 1)))] w fun e w' => e = .returned (.int .i64 2) ∧ w = w' := by
  have c0 : w.cell? ⟨0, 0, none⟩ = some (.iface 70 (.pointer (some (A 0)))) := (h.1 0 (by decide)).1
  have c1 : w.cell? ⟨1, 0, none⟩ = some (.iface 70 (.pointer (some (A 1)))) := (h.1 1 (by decide)).1
  have e0 := eq_other A 1 0 w h (by decide) (by decide) (by decide)
  have e1 := eq_same A 1
  clear h
  go_enter Tryd.func9, Tryd.ntmps9
  go_wp2
  go_ret
  exact ⟨rfl, rfl⟩

set_option maxHeartbeats 400000 in
theorem num_many (A : Nat → Addr) (w : World) (h : ErrsG 4 gAll A w) : Calls Tryd.prog 9 #[.iface 70 (.pointer (some (A 2)))] w fun e w' => e = .returned (.int .i64 3) ∧ w = w' := by
  have c0 : w.cell? ⟨0, 0, none⟩ = some (.iface 70 (.pointer (some (A 0)))) := (h.1 0 (by decide)).1
  have c1 : w.cell? ⟨1, 0, none⟩ = some (.iface 70 (.pointer (some (A 1)))) := (h.1 1 (by decide)).1
  have c2 : w.cell? ⟨2, 0, none⟩ = some (.iface 70 (.pointer (some (A 2)))) := (h.1 2 (by decide)).1
  have e0 := eq_other A 2 0 w h (by decide) (by decide) (by decide)
  have e1 := eq_other A 2 1 w h (by decide) (by decide) (by decide)
  have e2 := eq_same A 2
  clear h
  go_enter Tryd.func9, Tryd.ntmps9
  go_wp2
  go_ret
  exact ⟨rfl, rfl⟩

set_option maxHeartbeats 400000 in
theorem num_short (A : Nat → Addr) (w : World) (h : ErrsG 4 gAll A w) : Calls Tryd.prog 9 #[.iface 70 (.pointer (some (A 3)))] w fun e w' => e = .returned (.int .i64 4) ∧ w = w' := by
  have c0 : w.cell? ⟨0, 0, none⟩ = some (.iface 70 (.pointer (some (A 0)))) := (h.1 0 (by decide)).1
  have c1 : w.cell? ⟨1, 0, none⟩ = some (.iface 70 (.pointer (some (A 1)))) := (h.1 1 (by decide)).1
  have c2 : w.cell? ⟨2, 0, none⟩ = some (.iface 70 (.pointer (some (A 2)))) := (h.1 2 (by decide)).1
  have c3 : w.cell? ⟨3, 0, none⟩ = some (.iface 70 (.pointer (some (A 3)))) := (h.1 3 (by decide)).1
  have e0 := eq_other A 3 0 w h (by decide) (by decide) (by decide)
  have e1 := eq_other A 3 1 w h (by decide) (by decide) (by decide)
  have e2 := eq_other A 3 2 w h (by decide) (by decide) (by decide)
  have e3 := eq_same A 3
  clear h
  go_enter Tryd.func9, Tryd.ntmps9
  go_wp2
  go_ret
  exact ⟨rfl, rfl⟩

end Go.Proofs.YtiihnoohodklhaaDoor

namespace Go.Proofs.YtiihnoohodklhaaDoor
open Go.RowKit

/-- The refusals that the leaf knows lie in their variables. -/
def ErrC (A : Nat → Addr) (w : World) : Prop := ErrsG 4 gAll A w ∧ w.cell? ⟨7, 0, none⟩ = some (.iface 70 (.pointer (some (A 11))))
theorem ErrC.below {A : Nat → Addr} {w w' : World} (h : ErrC A w) (hb : Below w.heap.size w w') : ErrC A w' :=
  ⟨h.1.keep hb, (hb.cell (p := ⟨7, 0, none⟩) (World.block_lt_of_cell? w _ h.2)).trans h.2⟩
theorem ErrsG.weak {n m : Nat} {G : Nat → Nat} {A : Nat → Addr} {w : World} (h : ErrsG n G A w) (hm : m ≤ n) : ErrsG m G A w :=
  ⟨fun i hi => h.1 i (by omega), fun i j hi hj he => h.2 i j (by omega) (by omega) he⟩
theorem errC_all {A : Nat → Addr} {w : World} (h : ErrsG 13 gAll A w) : ErrC A w := ⟨h.weak (by decide), (h.1 11 (by decide)).1⟩
theorem iface_ne_nil (p : Option Addr) (w : World) : (binOp .neq 31 (.iface 70 (.pointer p)) .nilIface).run Tryd.prog w = .ok (.bool true) w := by
  have h2 : ∀ d : Nat, (Op.equalIn (d + 1) 31 (.iface 70 (.pointer p)) .nilIface).run Tryd.prog w = .ok false w := fun d => by
    simp [Op.equalIn, run_underlying Tryd.underlying31]
  simp only [binOp]
  simp [Op.equal, Op.maxDepth, h2 9999]
/-- A refusal, or none. -/
def errV (A : Nat → Addr) : Option Nat → Value
  | none => .nilIface
  | some k => .iface 70 (.pointer (some (A k)))
def numE : Option Nat → Nat
  | none => 0
  | some k => k + 1

end Go.Proofs.YtiihnoohodklhaaDoor

namespace Go.Proofs.YtiihnoohodklhaaDoor
open Go.RowKit

set_option maxHeartbeats 800000 in
theorem more_order (A : Nat → Addr) (w : World) (h : ErrsG 13 gAll A w) : Calls Tryd.prog 16 #[.iface 70 (.pointer (some (A 11)))] w fun e w' => e = .returned (.int .i64 12) ∧ w = w' := by
  have c7 : w.cell? ⟨9, 0, none⟩ = some (.iface 70 (.pointer (some (A 7)))) := (h.1 7 (by decide)).1
  have c8 : w.cell? ⟨10, 0, none⟩ = some (.iface 70 (.pointer (some (A 8)))) := (h.1 8 (by decide)).1
  have c9 : w.cell? ⟨11, 0, none⟩ = some (.iface 70 (.pointer (some (A 9)))) := (h.1 9 (by decide)).1
  have c10 : w.cell? ⟨12, 0, none⟩ = some (.iface 70 (.pointer (some (A 10)))) := (h.1 10 (by decide)).1
  have c11 : w.cell? ⟨7, 0, none⟩ = some (.iface 70 (.pointer (some (A 11)))) := (h.1 11 (by decide)).1
  have e7 := eq_other A 11 7 w h (by decide) (by decide) (by decide)
  have e8 := eq_other A 11 8 w h (by decide) (by decide) (by decide)
  have e9 := eq_other A 11 9 w h (by decide) (by decide) (by decide)
  have e10 := eq_other A 11 10 w h (by decide) (by decide) (by decide)
  have e11 := eq_same A 11
  clear h
  go_enter Tryd.func16, Tryd.ntmps16
  go_wp2
  go_ret
  exact ⟨rfl, rfl⟩

set_option maxHeartbeats 1600000 in
theorem num_order (A : Nat → Addr) (w : World) (h : ErrsG 13 gAll A w) : Calls Tryd.prog 9 #[.iface 70 (.pointer (some (A 11)))] w fun e w' => e = .returned (.int .i64 12) ∧ w = w' := by
  have HM := hide (more_order A w h)
  have c0 : w.cell? ⟨0, 0, none⟩ = some (.iface 70 (.pointer (some (A 0)))) := (h.1 0 (by decide)).1
  have c1 : w.cell? ⟨1, 0, none⟩ = some (.iface 70 (.pointer (some (A 1)))) := (h.1 1 (by decide)).1
  have c2 : w.cell? ⟨2, 0, none⟩ = some (.iface 70 (.pointer (some (A 2)))) := (h.1 2 (by decide)).1
  have c3 : w.cell? ⟨3, 0, none⟩ = some (.iface 70 (.pointer (some (A 3)))) := (h.1 3 (by decide)).1
  have c4 : w.cell? ⟨4, 0, none⟩ = some (.iface 70 (.pointer (some (A 4)))) := (h.1 4 (by decide)).1
  have c5 : w.cell? ⟨5, 0, none⟩ = some (.iface 70 (.pointer (some (A 5)))) := (h.1 5 (by decide)).1
  have c6 : w.cell? ⟨6, 0, none⟩ = some (.iface 70 (.pointer (some (A 6)))) := (h.1 6 (by decide)).1
  have e0 := eq_other A 11 0 w h (by decide) (by decide) (by decide)
  have e1 := eq_other A 11 1 w h (by decide) (by decide) (by decide)
  have e2 := eq_other A 11 2 w h (by decide) (by decide) (by decide)
  have e3 := eq_other A 11 3 w h (by decide) (by decide) (by decide)
  have e4 := eq_other A 11 4 w h (by decide) (by decide) (by decide)
  have e5 := eq_other A 11 5 w h (by decide) (by decide) (by decide)
  have e6 := eq_other A 11 6 w h (by decide) (by decide) (by decide)
  clear h
  go_enter Tryd.func9, Tryd.ntmps9
  go_wp2_with fail
  refine HM.out.mono ?_
  rintro e w' ⟨rfl, rfl⟩
  go_wp2
  go_ret
  exact ⟨rfl, rfl⟩

/-- Num of a refusal that the leaf knows. -/
theorem num_err (A : Nat → Addr) (o : Option Nat) (w : World) (h : ErrsG 13 gAll A w) (ho : o = none ∨ o = some 0 ∨ o = some 1 ∨ o = some 2 ∨ o = some 3 ∨ o = some 11) : Calls Tryd.prog 9 #[errV A o] w fun e w' => e = .returned (.int .i64 (numE o : Int)) ∧ w = w' := by
  rcases ho with rfl | rfl | rfl | rfl | rfl | rfl
  · exact num_nil w
  · exact num_arg A w (h.weak (by decide))
  · exact num_text A w (h.weak (by decide))
  · exact num_many A w (h.weak (by decide))
  · exact num_short A w (h.weak (by decide))
  · exact num_order A w h

end Go.Proofs.YtiihnoohodklhaaDoor
