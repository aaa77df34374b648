import Derived.Test.YtlopimdnjookeaaDoorKit
namespace Go.Proofs.YtlopimdnjookeaaDoor
open Go.RowKit

theorem hide {p : Prop} (h : p) : Hid p := h

end Go.Proofs.YtlopimdnjookeaaDoor
