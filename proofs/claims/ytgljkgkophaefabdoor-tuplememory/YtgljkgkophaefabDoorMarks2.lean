import Derived.Test.YtgljkgkophaefabDoorMarks
import Derived.Laws.OwnMore
namespace Go.Proofs.YtgljkgkophaefabDoor
open Go.RowKit

mutual
/-- The item with its numbers from n + 1 on. -/
def It.mkd : It → Nat → It
  | .mk k _ t l, n => .mk k ((n + 1 : Nat) : Int) t (mkdL l (n + 1))
def mkdL : List It → Nat → List It
  | [], _ => []
  | x :: r, n => x.mkd n :: mkdL r (n + x.cnt)
end
theorem It.mkd_eq (x : It) (n : Nat) : x.mkd n = .mk x.kind ((n + 1 : Nat) : Int) x.text (mkdL x.list (n + 1)) := by cases x; simp only [It.mkd, It.kind, It.text, It.list]
mutual
theorem mkd_cnt : ∀ (x : It) (n : Nat), (x.mkd n).cnt = x.cnt
  | .mk k m t l, n => by simp only [It.mkd, It.cnt, mkdL_cnt l (n + 1)]
theorem mkdL_cnt : ∀ (l : List It) (n : Nat), cntL (mkdL l n) = cntL l
  | [], _ => by simp [mkdL]
  | x :: r, n => by simp only [mkdL, cntL, mkd_cnt x n, mkdL_cnt r (n + x.cnt)]
end
mutual
theorem mkd_mrk : ∀ (x : It) (n : Nat), (x.mkd n).mrk n = true
  | .mk k m t l, n => by simp only [It.mkd, It.mrk, mkdL_mrk l (n + 1)]; simp
theorem mkdL_mrk : ∀ (l : List It) (n : Nat), mrkL (mkdL l n) n = true
  | [], _ => by simp [mkdL, mrkL]
  | x :: r, n => by simp only [mkdL, mrkL, mkd_mrk x n, mkd_cnt x n, mkdL_mrk r (n + x.cnt)]; rfl
end
theorem mkdL_len : ∀ (l : List It) (n : Nat), (mkdL l n).length = l.length
  | [], _ => by simp [mkdL]
  | x :: r, n => by simp [mkdL, mkdL_len r (n + x.cnt)]
theorem mkdL_append : ∀ (a b : List It) (n : Nat), mkdL (a ++ b) n = mkdL a n ++ mkdL b (n + cntL a)
  | [], b, n => by simp [mkdL, cntL]
  | x :: r, b, n => by simp only [List.cons_append, mkdL, cntL, mkdL_append r b (n + x.cnt), Nat.add_assoc]
/-- Numbered as far as j. -/
def part (l : List It) (n j : Nat) : List It := mkdL (l.take j) n ++ l.drop j
theorem part_zero (l : List It) (n : Nat) : part l n 0 = l := by simp [part, mkdL]
theorem part_all (l : List It) (n : Nat) : part l n l.length = mkdL l n := by simp [part]
theorem part_len (l : List It) (n j : Nat) (h : j ≤ l.length) : (part l n j).length = l.length := by
  simp [part, mkdL_len]; omega
theorem part_at (l : List It) (n j : Nat) (h : j < l.length) (h' : j < (part l n j).length) : (part l n j)[j] = l[j] := by
  have e : (mkdL (l.take j) n).length = j := by rw [mkdL_len, List.length_take]; omega
  simp only [part]
  rw [List.getElem_append_right (by omega)]
  simp [e]
theorem part_succ (l : List It) (n j : Nat) (h : j < l.length) : part l n (j + 1) = (part l n j).set j (l[j].mkd (n + cntL (l.take j))) := by
  have e : (mkdL (l.take j) n).length = j := by rw [mkdL_len, List.length_take]; omega
  simp only [part]
  rw [List.take_succ_eq_append_getElem h, mkdL_append, List.set_append_right _ _ (by omega), e, Nat.sub_self, List.append_assoc]
  congr 1
  rw [show l.drop j = l[j] :: l.drop (j + 1) from List.drop_eq_getElem_cons h]
  simp only [mkdL, List.cons_append, List.nil_append, List.set_cons_zero]
theorem cells_num : ∀ (l : List It) (us : List Value) (j : Nat) (m : Int) (lst : List It), us.length = l.length → ∀ (h : j < l.length), (cellsOf' l us).set (j * 4 + 1) (.int .i64 m) = cellsOf' (l.set j (.mk l[j].kind m l[j].text lst)) us
  | [], _, j, _, _, _, h => by simp at h
  | _ :: _, [], _, _, _, hus, _ => by simp at hus
  | x :: l, u :: us, 0, m, lst, _, _ => by simp [cellsOf', It.kind, It.num, It.text]
  | x :: l, u :: us, j + 1, m, lst, hus, h => by
    have ih := cells_num l us j m lst (by simpa using hus) (by simpa using h)
    rw [show (j + 1) * 4 + 1 = (j * 4 + 1) + 4 by omega]
    simp only [cellsOf', List.set_cons_succ, List.getElem_cons_succ]
    rw [ih]

end Go.Proofs.YtgljkgkophaefabDoor
