import Derived.Test.YtdghlblgmihbpaaDoorProg
import Derived.WalkKit
import Derived.WalkSpells
import Derived.WalkLawsBesides
import Derived.Deep.AppendLies
import Derived.BigQuiet
import Derived.KernelRfl
namespace Go.Proofs.YtdghlblgmihbpaaDoor
open Go.RowKit

def u8s (l : List UInt8) : List Value := l.map (fun c => Value.int .u8 (c.toNat : Int))

end Go.Proofs.YtdghlblgmihbpaaDoor
