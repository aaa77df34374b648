import Derived.Test.YtdacbajiapdiiaaDoorKit
namespace Go.Proofs.YtdacbajiapdiiaaDoor
open Go.RowKit

theorem hide {p : Prop} (h : p) : Hid p := h

end Go.Proofs.YtdacbajiapdiiaaDoor
