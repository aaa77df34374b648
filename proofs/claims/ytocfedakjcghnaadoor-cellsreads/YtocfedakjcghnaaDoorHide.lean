import Derived.Test.YtocfedakjcghnaaDoorKit
namespace Go.Proofs.YtocfedakjcghnaaDoor
open Go.RowKit

theorem hide {p : Prop} (h : p) : Hid p := h

end Go.Proofs.YtocfedakjcghnaaDoor
