import Derived.Test.YtagldlchamlpdabDoorBase
import Derived.Test.YtagldlchamlpdabDoorLPut
namespace Go.Proofs.YtagldlchamlpdabDoor

/-! The cells of a branch, as data. -/
def cellC (n : Nat) : ByteArray := ⟨(beBytes n 4).toArray⟩
def cellK (p : Lk) : ByteArray := ⟨([UInt8.ofNat p.1.size] ++ (p.1.data.toList ++ beBytes p.2.toNat 4)).toArray⟩
theorem cellC_list (n : Nat) : (cellC n).data.toList = beBytes n 4 := by simp [cellC]
theorem cellK_list (p : Lk) : (cellK p).data.toList = [UInt8.ofNat p.1.size] ++ (p.1.data.toList ++ beBytes p.2.toNat 4) := by simp [cellK]
theorem cellC_size (n : Nat) : (cellC n).size = 4 := by rw [← bsize, cellC_list, beBytes_len n 4 (by decide)]
theorem cellK_size (p : Lk) : (cellK p).size = 5 + p.1.size := by
  rw [← bsize, cellK_list, List.length_append, List.length_append, beBytes_len _ 4 (by decide), bsize]; simp; omega
def cellsK (f : Int) (l : List Lk) : List ByteArray := cellC f.toNat :: l.map cellK
theorem cellsK_len (f : Int) (l : List Lk) : (cellsK f l).length = l.length + 1 := by simp [cellsK]
theorem flatTo_all (L : List ByteArray) : (flatTo L L.length) = L.flatMap (fun c => c.data.toList) := by
  unfold flatTo; rw [List.take_of_length_le (Nat.le_refl _)]
theorem flat_len : ∀ l : List Lk, ((l.map cellK).flatMap (fun c => c.data.toList)).length + 2 * l.length + 6 = szB l
  | [] => by simp [szB]
  | p :: l => by
    have := flat_len l
    rw [List.map_cons, List.flatMap_cons, List.length_append, bsize, cellK_size, szB_cons, List.length_cons]
    unfold szK; omega
theorem size_cellsK (f : Int) (l : List Lk) : sizeL (cellsK f l) = szB l := by
  have h := flat_len l
  unfold sizeL endL
  rw [cellsK_len, show (l.length + 1) = (cellsK f l).length from (cellsK_len f l).symm, flatTo_all]
  unfold cellsK
  rw [List.flatMap_cons, List.length_append, bsize, cellC_size, List.length_cons, List.length_map]
  omega
def encK (f : Int) (l : List Lk) : ByteArray := ⟨(layL (cellsK f l)).toArray⟩
theorem cellsK_take (f : Int) (l : List Lk) (k : Nat) (h : k < l.length) : cellsK f (l.take (k + 1)) = cellsK f (l.take k) ++ [cellK l[k]] := by
  unfold cellsK
  rw [List.take_succ_eq_append_getElem h, List.map_append]; rfl

end Go.Proofs.YtagldlchamlpdabDoor
