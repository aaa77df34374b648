import Derived.Test.YtlopimdnjookeabDoorKit
namespace Go.Proofs.YtlopimdnjookeabDoor
open Go.RowKit

theorem hide {p : Prop} (h : p) : Hid p := h

end Go.Proofs.YtlopimdnjookeabDoor
