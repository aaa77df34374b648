import Derived.Test.YtihmgigfkmofnaaGreatDoorRows
import Derived.JoinedOf
import Derived.KernelRfl
import Derived.Test.YtihmgigfkmofnaaGreatDoorA0
set_option maxRecDepth 100000
open Go.Proofs.Tryz
namespace Go.Proofs.YtihmgigfkmofnaaGreatDoor
theorem Dt:joinedFacts prog 8 Tryz.f8 Rows.treeSoundSpec Rows.treeSoundRow=true:=by kernel_rfl
end Go.Proofs.YtihmgigfkmofnaaGreatDoor
