import Derived.Test.YtlopimdnjookeaaDoorVAall
namespace Go.Proofs.YtlopimdnjookeaaDoor.V
open Go.RowKit

/-- A refusal by its number; 0: none. -/
def errV (A : Nat → Addr) (n : Nat) : Value := if n = 0 then .nilIface else .iface 108 (.pointer (some (A (n - 1))))

end Go.Proofs.YtlopimdnjookeaaDoor.V
