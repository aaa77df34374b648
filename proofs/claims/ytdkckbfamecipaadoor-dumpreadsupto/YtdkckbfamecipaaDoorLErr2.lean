import Derived.Test.YtdkckbfamecipaaDoorLErr
namespace Go.Proofs.YtdkckbfamecipaaDoor
open Go.RowKit

theorem iface_eq_nil (p : Option Addr) (w : World) : (binOp .eql 26 (.iface 107 (.pointer p)) .nilIface).run Tryd.prog w = .ok (.bool false) w := by
  have h2 : ∀ d : Nat, (Op.equalIn (d + 1) 26 (.iface 107 (.pointer p)) .nilIface).run Tryd.prog w = .ok false w := fun d => by
    simp [Op.equalIn, run_underlying Tryd.underlying26]
  simp only [binOp]
  simp [Op.equal, Op.maxDepth, h2 9999]

end Go.Proofs.YtdkckbfamecipaaDoor
