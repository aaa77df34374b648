import Derived.Test.YtmifadjgmjnkgaaDoorKit
namespace Go.Proofs.YtmifadjgmjnkgaaDoor
open Go.RowKit

theorem hide {p : Prop} (h : p) : Hid p := h

end Go.Proofs.YtmifadjgmjnkgaaDoor
