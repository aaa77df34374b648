import Derived.Test.YtageokjobbjddaaGreatDoorOwn
import Derived.Test.YtageokjobbjddaaGreatDoorGRA
namespace Go.Proofs.YtageokjobbjddaaGreatDoor
open Go.RowKit

end Go.Proofs.YtageokjobbjddaaGreatDoor

namespace Go.Proofs.YtageokjobbjddaaGreatDoor
open Go.RowKit

mutual
def It.cnt : It → Nat
  | .mk _ _ t l => 1 + t.size + cntL l
def cntL : List It → Nat
  | [] => 0
  | x :: r => x.cnt + cntL r
end
theorem It.cnt_eq (x : It) : x.cnt = 1 + x.text.size + cntL x.list := by cases x; simp [It.cnt, It.text, It.list]
theorem cntL_append (a b : List It) : cntL (a ++ b) = cntL a + cntL b := by
  induction a with
  | nil => simp [cntL]
  | cons x r ih => simp only [List.cons_append, cntL, ih]; omega
theorem cntL_take_succ (l : List It) (i : Nat) (h : i < l.length) : cntL (l.take (i + 1)) = cntL (l.take i) + (1 + l[i].text.size + cntL l[i].list) := by
  rw [List.take_succ_eq_append_getElem h, cntL_append]
  simp only [cntL, It.cnt_eq, Nat.add_zero]
theorem cntL_take_le (l : List It) (i : Nat) : cntL (l.take i) ≤ cntL l := by
  have := cntL_append (l.take i) (l.drop i)
  rw [List.take_append_drop] at this
  omega

end Go.Proofs.YtageokjobbjddaaGreatDoor
