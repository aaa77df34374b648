import Derived.Test.YtdghlblgmihbpaaDoorKit
namespace Go.Proofs.YtdghlblgmihbpaaDoor
open Go.RowKit

theorem hide {p : Prop} (h : p) : Hid p := h

end Go.Proofs.YtdghlblgmihbpaaDoor
