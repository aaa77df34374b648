import Derived.Test.YtagldlchamlpdaaDoorBPutF
namespace Go.Proofs.YtagldlchamlpdaaDoor
open Go.RowKit

theorem insL_at (l : List Lk) (i : Nat) (p : Lk) (h : i ≤ l.length) : (insL l i p)[i]? = some p := by
  unfold insL
  rw [List.getElem?_append_right (by rw [List.length_take]; omega), List.length_take, Nat.min_eq_left h, Nat.sub_self]
  rfl
theorem childN_ins (f : Int) (l : List Lk) (i : Nat) (p : Lk) (h : i ≤ l.length) : childN f (insL l i p) ((i : Int) + 1) = p.2 := by
  unfold childN
  rw [if_neg (by omega), show ((i : Int) + 1 - 1).toNat = i by omega, List.getD_eq_getElem?_getD, insL_at l i p h]
  rfl
theorem remL_insL (l : List Lk) (i : Nat) (p : Lk) (h : i ≤ l.length) : remL (insL l i p) i = l := by
  unfold remL insL
  have hl : (l.take i).length = i := by rw [List.length_take]; omega
  rw [List.take_append_of_le_length (by omega), List.take_of_length_le (by omega), List.drop_append, hl, List.drop_eq_nil_of_le (by omega), show i + 1 - i = 1 by omega]
  exact List.take_append_drop i l
theorem putL_at (l : List Lk) (i : Nat) (c : Int) (h : i < l.length) : putL l (i + 1) c = l.set i (l[i].1, c) := by
  unfold putL
  rw [dif_pos ⟨by omega, by omega⟩]
  rfl
theorem childN_put_same (f : Int) (l : List Lk) (i : Nat) (c : Int) (h : i ≤ l.length) : childN (putF f i c) (putL l i c) (i : Int) = c := by
  cases i with
  | zero => simp [childN, putF]
  | succ i =>
    unfold childN
    rw [if_neg (by omega), show (((i + 1 : Nat) : Int) - 1).toNat = i by omega, putL_at l i c (by omega), List.getD_eq_getElem?_getD, List.getElem?_set_self (by omega)]
    rfl
theorem childN_put_ne (f : Int) (l : List Lk) (i k : Nat) (c : Int) (h : i ≤ l.length) (hne : k ≠ i) : childN (putF f i c) (putL l i c) (k : Int) = childN f l (k : Int) := by
  cases i with
  | zero =>
    unfold childN
    rw [if_neg (by omega), if_neg (by omega)]
    have : putL l 0 c = l := by simp [putL]
    rw [this]
  | succ i =>
    have e1 : putF f (i + 1) c = f := by unfold putF; rw [if_neg (by omega)]
    rw [e1]
    unfold childN
    by_cases h0 : (k : Int) = 0
    · rw [if_pos h0, if_pos h0]
    · rw [if_neg h0, if_neg h0, putL_at l i c (by omega), List.getD_eq_getElem?_getD, List.getD_eq_getElem?_getD, List.getElem?_set_ne (by omega)]

end Go.Proofs.YtagldlchamlpdaaDoor
