import Derived.Test.YtihmgigfkmofnaaGreatDoorRows
import Derived.JoinedOf
import Derived.KernelRfl
import Derived.Test.YtihmgigfkmofnaaGreatDoorA0
set_option maxRecDepth 100000
open Go.Proofs.Tryz
namespace Go.Proofs.YtihmgigfkmofnaaGreatDoor
theorem Hg:joinedFacts prog 7 Tryz.f7 Rows.treeFullSpec Rows.treeFullRow=true:=by kernel_rfl
end Go.Proofs.YtihmgigfkmofnaaGreatDoor
