import Derived.Test.YtiihnoohodklhaaDoorDI
import Derived.Deep.CutBlock
namespace Go.Proofs.YtiihnoohodklhaaDoor
open Go.RowKit
attribute [local go_sem ↓] Go.wp_at_zero Go.wp_at_succ
theorem Bx5.oth {w : World} {b : Nat} {k : ByteArray} {x : ChV} (h : Bx5 w b k x) {c : Nat} (hne : b ≠ c) (o : Nat) (v : Value) : Bx5 (w.setCell ⟨c, o, none⟩ v) b k x := (Below.heap_setCell w _ v b hne).trans h
theorem Bx5.all {w : World} {b : Nat} {k : ByteArray} {x : ChV} (h : Bx5 w b k x) (k' : ByteArray) (y : ChV) : Bx5 (((((w.setCell ⟨b, 0, none⟩ (.string k')).setCell ⟨b, 1, none⟩ (.bool y.had)).setCell ⟨b, 2, none⟩ (.bool y.has)).setCell ⟨b, 3, none⟩ (.string y.old)).setCell ⟨b, 4, none⟩ (.string y.new)) b k' y :=
  Go.heap_setCell_same _ b 4 _ 39 _ (Go.heap_setCell_same _ b 3 _ 39 _ (Go.heap_setCell_same _ b 2 _ 39 _ (Go.heap_setCell_same _ b 1 _ 39 _ (Go.heap_setCell_same w b 0 _ 39 _ h))))
end Go.Proofs.YtiihnoohodklhaaDoor
