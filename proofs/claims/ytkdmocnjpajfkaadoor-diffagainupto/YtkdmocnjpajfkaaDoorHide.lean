import Derived.Test.YtkdmocnjpajfkaaDoorKit
namespace Go.Proofs.YtkdmocnjpajfkaaDoor
open Go.RowKit

theorem hide {p : Prop} (h : p) : Hid p := h

end Go.Proofs.YtkdmocnjpajfkaaDoor
