import Derived.Test.YtihmgigfkmofnaaGreatDoorRows
import Derived.JoinedOf
import Derived.KernelRfl
import Derived.Test.YtihmgigfkmofnaaGreatDoorA0
set_option maxRecDepth 100000
open Go.Proofs.Tryz
namespace Go.Proofs.YtihmgigfkmofnaaGreatDoor
theorem DK:joinedFacts prog 4 Tryz.f4 Rows.treeModelSpec Rows.treeModelRow=true:=by kernel_rfl
end Go.Proofs.YtihmgigfkmofnaaGreatDoor
