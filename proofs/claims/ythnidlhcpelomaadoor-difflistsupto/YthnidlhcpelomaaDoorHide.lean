import Derived.Test.YthnidlhcpelomaaDoorKit
namespace Go.Proofs.YthnidlhcpelomaaDoor
open Go.RowKit

theorem hide {p : Prop} (h : p) : Hid p := h

end Go.Proofs.YthnidlhcpelomaaDoor
