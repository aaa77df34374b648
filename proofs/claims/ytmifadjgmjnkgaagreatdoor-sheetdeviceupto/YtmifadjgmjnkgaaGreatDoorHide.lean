import Derived.Test.YtmifadjgmjnkgaaGreatDoorKit
namespace Go.Proofs.YtmifadjgmjnkgaaGreatDoor
open Go.RowKit

theorem hide {p : Prop} (h : p) : Hid p := h

end Go.Proofs.YtmifadjgmjnkgaaGreatDoor
