import Derived.Test.YtddhjnfcbpookaaDoorGA
import Derived.Lib.ItoaLen
namespace Go.Proofs.YtddhjnfcbpookaaDoor
open Go.RowKit

/-! How the document writes an item. -/
def itoaB (n : Int) : ByteArray := ⟨(Lib.itoa n).toArray⟩
/-- strconv.Itoa does what it says, from this world on. -/
def ItoAt (w : World) : Prop := ∀ (W : World) (n : Int), Below w.heap.size w W → -9223372036854775808 ≤ n → n ≤ 9223372036854775807 → Calls Tryd.prog 34 #[.int .i64 n] W fun e w' => e = .returned (.string (itoaB n)) ∧ Below W.heap.size W w'
theorem ItoAt.keep {w w' : World} (h : ItoAt w) (hb : Below w.heap.size w w') : ItoAt w' := fun W n hW h1 h2 => h W n (Below.next hb hW) h1 h2
mutual
def itemL : It → List UInt8
  | .mk k n t l => if k = 2 then (if n = 1 then [116, 114, 117, 101] else [102, 97, 108, 115, 101]) else if k = 3 then Lib.itoa n else if k = 4 then quotedL t else if k = 5 then 91 :: (listL l ++ [93]) else [110, 117, 108, 108]
def listL : List It → List UInt8
  | [] => []
  | x :: l => itemL x ++ tailL l
def tailL : List It → List UInt8
  | [] => []
  | x :: l => 44 :: 32 :: (itemL x ++ tailL l)
end
theorem listL_snoc : ∀ (l : List It) (x : It), listL (l ++ [x]) = listL l ++ (if l = [] then [] else [44, 32]) ++ itemL x
  | [], x => by simp [listL, tailL]
  | y :: l, x => by
    have ht : ∀ (l : List It), tailL (l ++ [x]) = tailL l ++ ([44, 32] ++ itemL x) := by
      intro l
      induction l with
      | nil => simp [tailL]
      | cons z l ih => simp only [List.cons_append, tailL, ih]; simp
    simp only [List.cons_append, listL, ht]
    simp
end Go.Proofs.YtddhjnfcbpookaaDoor
