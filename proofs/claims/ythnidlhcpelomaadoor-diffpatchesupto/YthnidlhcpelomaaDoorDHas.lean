import Derived.Test.YthnidlhcpelomaaDoorDSta
namespace Go.Proofs.YthnidlhcpelomaaDoor
open Go.RowKit
attribute [local go_sem ↓] Go.wp_at_zero Go.wp_at_succ

theorem lk_drop_yes (l : List Pr) (key : ByteArray) (q : Nat) (h : q < l.length) (hk : l[q].1 = key) : lk (l.drop q) key = some l[q].2 := by
  rw [List.drop_eq_getElem_cons h, lk, if_pos hk]
theorem lk_drop_no (l : List Pr) (key : ByteArray) (q : Nat) (h : q < l.length) (hk : ¬ l[q].1 = key) : lk (l.drop q) key = lk (l.drop (q + 1)) key := by
  rw [List.drop_eq_getElem_cons h, lk, if_neg hk]
theorem lk_drop_end {α : Type} (l : KL α) (key : ByteArray) (q : Nat) (h : l.length ≤ q) : lk (l.drop q) key = none := by
  rw [List.drop_eq_nil_of_le h]; rfl
end Go.Proofs.YthnidlhcpelomaaDoor
