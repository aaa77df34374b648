import Derived.Test.YtdacbajiapdiiabDoorKit
namespace Go.Proofs.YtdacbajiapdiiabDoor
open Go.RowKit

theorem hide {p : Prop} (h : p) : Hid p := h

end Go.Proofs.YtdacbajiapdiiabDoor
