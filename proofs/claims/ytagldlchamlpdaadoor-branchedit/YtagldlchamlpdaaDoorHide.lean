import Derived.Test.YtagldlchamlpdaaDoorKit
namespace Go.Proofs.YtagldlchamlpdaaDoor
open Go.RowKit

theorem hide {p : Prop} (h : p) : Hid p := h

end Go.Proofs.YtagldlchamlpdaaDoor
