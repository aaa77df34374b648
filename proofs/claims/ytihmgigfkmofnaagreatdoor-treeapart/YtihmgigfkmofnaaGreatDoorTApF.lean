import Derived.Test.YtihmgigfkmofnaaGreatDoorRows
import Derived.JoinedOf
import Derived.KernelRfl
import Derived.Test.YtihmgigfkmofnaaGreatDoorA0
set_option maxRecDepth 100000
open Go.Proofs.Tryz
namespace Go.Proofs.YtihmgigfkmofnaaGreatDoor
theorem EU:joinedFacts prog 6 Tryz.f6 Rows.treeApartSpec Rows.treeApartRow=true:=by kernel_rfl
end Go.Proofs.YtihmgigfkmofnaaGreatDoor
