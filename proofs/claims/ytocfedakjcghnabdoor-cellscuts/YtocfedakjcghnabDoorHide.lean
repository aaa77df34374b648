import Derived.Test.YtocfedakjcghnabDoorKit
namespace Go.Proofs.YtocfedakjcghnabDoor
open Go.RowKit

theorem hide {p : Prop} (h : p) : Hid p := h

end Go.Proofs.YtocfedakjcghnabDoor
