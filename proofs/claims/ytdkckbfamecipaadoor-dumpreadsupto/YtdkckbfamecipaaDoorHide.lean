import Derived.Test.YtdkckbfamecipaaDoorKit
namespace Go.Proofs.YtdkckbfamecipaaDoor
open Go.RowKit

theorem hide {p : Prop} (h : p) : Hid p := h

end Go.Proofs.YtdkckbfamecipaaDoor
