import Derived.Test.YthnidlhcpelomaaDoorCNum
import Derived.Test.YthnidlhcpelomaaDoorErrs
namespace Go.Proofs.YthnidlhcpelomaaDoor
open Go.RowKit

/-- The refusals that the leaf knows lie in their variables. -/
def ErrC (A : Nat → Addr) (w : World) : Prop := ErrsG 4 gAll A w ∧ w.cell? ⟨0, 0, none⟩ = some (.iface 102 (.pointer (some (A 11))))
theorem ErrC.below {A : Nat → Addr} {w w' : World} (h : ErrC A w) (hb : Below w.heap.size w w') : ErrC A w' :=
  ⟨h.1.keep hb, (hb.cell (p := ⟨0, 0, none⟩) (World.block_lt_of_cell? w _ h.2)).trans h.2⟩
theorem ErrsG.weak {n m : Nat} {G : Nat → Nat} {A : Nat → Addr} {w : World} (h : ErrsG n G A w) (hm : m ≤ n) : ErrsG m G A w :=
  ⟨fun i hi => h.1 i (by omega), fun i j hi hj he => h.2 i j (by omega) (by omega) he⟩
theorem errC_all {A : Nat → Addr} {w : World} (h : ErrsG 13 gAll A w) : ErrC A w := ⟨h.weak (by decide), (h.1 11 (by decide)).1⟩
theorem iface_ne_nil (p : Option Addr) (w : World) : (binOp .neq 31 (.iface 102 (.pointer p)) .nilIface).run Tryd.prog w = .ok (.bool true) w := by
  have h2 : ∀ d : Nat, (Op.equalIn (d + 1) 31 (.iface 102 (.pointer p)) .nilIface).run Tryd.prog w = .ok false w := fun d => by
    simp [Op.equalIn, run_underlying Tryd.underlying31]
  simp only [binOp]
  simp [Op.equal, Op.maxDepth, h2 9999]
/-- A refusal, or none. -/
def errV (A : Nat → Addr) : Option Nat → Value
  | none => .nilIface
  | some k => .iface 102 (.pointer (some (A k)))
def numE : Option Nat → Nat
  | none => 0
  | some k => k + 1

end Go.Proofs.YthnidlhcpelomaaDoor
