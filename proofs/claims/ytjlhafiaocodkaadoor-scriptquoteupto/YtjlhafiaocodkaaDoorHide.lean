import Derived.Test.YtjlhafiaocodkaaDoorKit
namespace Go.Proofs.YtjlhafiaocodkaaDoor
open Go.RowKit

theorem hide {p : Prop} (h : p) : Hid p := h

end Go.Proofs.YtjlhafiaocodkaaDoor
