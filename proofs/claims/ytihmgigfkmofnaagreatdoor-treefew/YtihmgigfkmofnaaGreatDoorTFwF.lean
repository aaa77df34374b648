import Derived.Test.YtihmgigfkmofnaaGreatDoorRows
import Derived.JoinedOf
import Derived.KernelRfl
import Derived.Test.YtihmgigfkmofnaaGreatDoorA0
set_option maxRecDepth 100000
open Go.Proofs.Tryz
namespace Go.Proofs.YtihmgigfkmofnaaGreatDoor
theorem Lh:joinedFacts prog 5 Tryz.f5 Rows.treeFewSpec Rows.treeFewRow=true:=by kernel_rfl
end Go.Proofs.YtihmgigfkmofnaaGreatDoor
