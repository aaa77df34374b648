import Derived.Test.YtdacbajiapdiiaaKit
namespace Go.Proofs.Ytdacbajiapdiiaa
open Go.RowKit

theorem hide {p : Prop} (h : p) : Hid p := h

end Go.Proofs.Ytdacbajiapdiiaa
