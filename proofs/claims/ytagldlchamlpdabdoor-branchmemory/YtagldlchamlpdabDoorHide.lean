import Derived.Test.YtagldlchamlpdabDoorBase
namespace Go.Proofs.YtagldlchamlpdabDoor
open Go.RowKit

theorem hide {p : Prop} (h : p) : Hid p := h

end Go.Proofs.YtagldlchamlpdabDoor
