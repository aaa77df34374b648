import Derived.Test.YtdkckbfamecipaaDoorRowR
import Derived.Test.YtdkckbfamecipaaDoorWoMath
import Derived.BigQuiet
import Derived.Deep.QuietTactic
namespace Go.Proofs.YtdkckbfamecipaaDoor
open Go.RowKit

def strs (l : List ByteArray) : List Value := l.map Value.string
theorem strs_length (l : List ByteArray) : (strs l).length = l.length := by simp [strs]
theorem strs_get (l : List ByteArray) (j : Nat) (h : j < l.length) : (strs l)[j]? = some (.string l[j]) := by simp [strs, h]
theorem strs_one (l : List ByteArray) : ∀ u ∈ strs l, u.oneCell' = true := by
  intro u hu
  simp only [strs, List.mem_map] at hu
  obtain ⟨c, _, rfl⟩ := hu
  rfl
theorem strs_append (a b : List ByteArray) : strs (a ++ b) = strs a ++ strs b := by simp [strs]
theorem info9 : (Tryd.prog.info? 9).map (fun i => (i.zero, i.size, i.bytes)) = some (some (.string ByteArray.empty), 1, 16) := by kernel_rfl
/-- The slice value v reads as the texts l. -/
def StrR (w : World) (v : Value) (l : List ByteArray) : Prop := ∃ a cap, v = .slice a l.length cap ∧ l.length ≤ cap ∧ ∀ j (h : j < l.length), ∃ g o, a = some ⟨g, o, none⟩ ∧ w.cell? ⟨g, o + j, none⟩ = some (.string l[j])
theorem RowR.strs {w : World} {v : Value} {l : List ByteArray} (h : RowR w v (strs l)) : StrR w v l := by
  obtain ⟨a, cap, rfl, hle, _, hc⟩ := h
  rw [strs_length] at hle ⊢
  exact ⟨a, cap, rfl, hle, fun j hj => hc j _ (strs_get l j hj)⟩
theorem StrR.below {w w' : World} {v : Value} {l : List ByteArray} (h : StrR w v l) (hb : Below w.heap.size w w') : StrR w' v l := by
  obtain ⟨a, cap, rfl, hle, hc⟩ := h
  refine ⟨a, cap, rfl, hle, fun j hj => ?_⟩
  obtain ⟨g, o, ha, hcell⟩ := hc j hj
  exact ⟨g, o, ha, (hb.cell (p := ⟨g, o + j, none⟩) (World.block_lt_of_cell? w _ hcell)).trans hcell⟩

theorem ext_toList (s : ByteArray) (a b : Nat) : (s.extract a b).data.toList = (s.data.toList.drop a).take (b - a) := by
  rw [ByteArray.data_extract, Array.toList_extract]
theorem ba_ext {x y : ByteArray} (h : x.data.toList = y.data.toList) : x = y := by
  have h2 : x.data = y.data := Array.toList_inj.1 h
  cases x; exact congrArg ByteArray.mk h2
theorem toList_last (x : ByteArray) (k : Nat) (hk : k = x.size - 1) (h : k < x.size) : x.data.toList = x.data.toList.take k ++ [x[k]] := by
  have h1 : k < x.data.toList.length := by rw [bsize]; exact h
  have := List.take_succ_eq_append_getElem h1
  rw [List.take_of_length_le (by rw [bsize]; omega)] at this
  exact this
theorem toList_first (x : ByteArray) (h : 0 < x.size) : x.data.toList = x[0] :: x.data.toList.drop 1 := by
  have h1 : 0 < x.data.toList.length := by rw [bsize]; exact h
  have := List.drop_eq_getElem_cons h1
  rw [List.drop_zero] at this
  exact this
theorem ba_get (s : ByteArray) (j : Nat) (h : j < s.size) : s.data.toList.getD j 0 = s[j] := by
  rw [List.getD_eq_getElem?_getD, List.getElem?_eq_getElem (by simpa using h)]; rfl

theorem empty_iff (s : ByteArray) : s.toList.isEmpty = decide (s = ByteArray.empty) := (decide_eq_emptyBytes s).symm

/-- A list of bytes as a text. -/
def ba (l : List UInt8) : ByteArray := ⟨l.toArray⟩
theorem ba_list (l : List UInt8) : (ba l).data.toList = l := rfl
theorem ba_self (s : ByteArray) : ba s.data.toList = s := ba_ext rfl
theorem ba_size (l : List UInt8) : (ba l).size = l.length := by rw [← bsize, ba_list]
theorem ba_inj {l m : List UInt8} (h : ba l = ba m) : l = m := by rw [← ba_list l, h, ba_list]
theorem ba_eq {s : ByteArray} {l : List UInt8} (h : s.data.toList = l) : s = ba l := ba_ext h
theorem ba_tail (s : ByteArray) (k : Nat) : s.extract k s.size = ba (s.data.toList.drop k) := by
  refine ba_ext ?_
  rw [ext_toList, ba_list, List.take_of_length_le (by rw [List.length_drop, bsize]; exact Nat.le_refl _)]
theorem ba_head (s : ByteArray) (k : Nat) : s.extract 0 k = ba (s.data.toList.take k) := by
  refine ba_ext ?_
  rw [ext_toList, ba_list, List.drop_zero, Nat.sub_zero]
theorem drop_cons (s : ByteArray) (k : Nat) (h : k < s.size) : s.data.toList.drop k = s[k] :: s.data.toList.drop (k + 1) := by
  have h1 : k < s.data.toList.length := by rw [bsize]; exact h
  exact List.drop_eq_getElem_cons h1
end Go.Proofs.YtdkckbfamecipaaDoor
