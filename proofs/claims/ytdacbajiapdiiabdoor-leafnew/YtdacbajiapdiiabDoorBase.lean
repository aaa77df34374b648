import Derived.Test.YtdacbajiapdiiabDoorProg
import Derived.WalkKit
import Derived.WalkSpells
import Derived.WalkLawsBesides
import Derived.Deep.AppendLies
import Derived.BigQuiet
import Derived.KernelRfl
import Derived.Laws.IdiomStrings
import Derived.Lib.AppendZeros
namespace Go.Proofs.YtdacbajiapdiiabDoor
open Go.RowKit

def u8s (l : List UInt8) : List Value := l.map (fun c => Value.int .u8 (c.toNat : Int))
theorem u8s_length (l : List UInt8) : (u8s l).length = l.length := by simp [u8s]
theorem u8s_append (a b : List UInt8) : u8s (a ++ b) = u8s a ++ u8s b := by simp [u8s]
theorem u8s_get (l : List UInt8) (j : Nat) (h : j < l.length) : (u8s l)[j]? = some (.int .u8 (l[j].toNat : Int)) := by simp [u8s, h]
theorem u8s_one (l : List UInt8) : ∀ u ∈ u8s l, u.oneCell' = true := by
  intro u hu
  simp only [u8s, List.mem_map] at hu
  obtain ⟨c, _, rfl⟩ := hu
  rfl
theorem take_snoc (s : ByteArray) (k : Nat) (h : k < s.size) : s.data.toList.take (k + 1) = s.data.toList.take k ++ [s[k]] := by
  rw [List.take_succ_eq_append_getElem (by simpa using h)]; rfl
theorem bsize (s : ByteArray) : s.data.toList.length = s.size := by simp
theorem Tryd.info5 : (Tryd.prog.info? 5).map (fun i => (i.zero, i.size, i.bytes)) = some (some (.int .u8 0), 1, 1) := by kernel_rfl


end Go.Proofs.YtdacbajiapdiiabDoor

namespace Go.Proofs.YtdacbajiapdiiabDoor

/-! The body of some cells, as data. -/
def flatTo (l : List ByteArray) (i : Nat) : List UInt8 := (l.take i).flatMap (fun c => c.data.toList)
def endL (l : List ByteArray) (i : Nat) : Nat := 2 * l.length + (flatTo l i).length
def sizeL (l : List ByteArray) : Nat := endL l l.length
def hi8 (e : Nat) : UInt8 := UInt8.ofNat (e / 256)
def lo8 (e : Nat) : UInt8 := UInt8.ofNat (e % 256)
def slotsTo (l : List ByteArray) : Nat → List UInt8
  | 0 => []
  | i + 1 => slotsTo l i ++ [hi8 (endL l (i + 1)), lo8 (endL l (i + 1))]
def layL (l : List ByteArray) : List UInt8 := slotsTo l l.length ++ flatTo l l.length ++ List.replicate (4072 - sizeL l) 0
/-- What the body holds when i cells are laid. -/
def bodyAt (l : List ByteArray) (i : Nat) : List UInt8 := slotsTo l i ++ List.replicate (2 * (l.length - i)) 0 ++ flatTo l i ++ List.replicate (4072 - endL l i) 0

theorem flatTo_zero (l : List ByteArray) : flatTo l 0 = [] := by simp [flatTo]
theorem flatTo_succ (l : List ByteArray) (i : Nat) (h : i < l.length) : flatTo l (i + 1) = flatTo l i ++ l[i].data.toList := by
  unfold flatTo
  rw [List.take_succ_eq_append_getElem h, List.flatMap_append]; simp
theorem endL_zero (l : List ByteArray) : endL l 0 = 2 * l.length := by simp [endL, flatTo_zero]
theorem endL_succ (l : List ByteArray) (i : Nat) (h : i < l.length) : endL l (i + 1) = endL l i + l[i].size := by
  unfold endL
  rw [flatTo_succ l i h, List.length_append, bsize]; omega
theorem endL_mono (l : List ByteArray) (i : Nat) : ∀ j, i ≤ j → j ≤ l.length → endL l i ≤ endL l j := by
  intro j hij
  induction j with
  | zero => intro _; have : i = 0 := by omega
            subst this; exact Nat.le_refl _
  | succ j ih =>
    intro hj
    by_cases h : i = j + 1
    · subst h; exact Nat.le_refl _
    · have h1 := ih (by omega) (by omega)
      have h2 := endL_succ l j (by omega)
      omega
theorem slotsTo_len (l : List ByteArray) (i : Nat) : (slotsTo l i).length = 2 * i := by
  induction i with
  | zero => rfl
  | succ i ih => simp [slotsTo, ih]; omega
theorem layL_len (l : List ByteArray) (h : sizeL l ≤ 4072) : (layL l).length = 4072 := by
  have e : sizeL l = 2 * l.length + (flatTo l l.length).length := rfl
  simp only [layL, List.length_append, List.length_replicate, slotsTo_len]
  omega
theorem bodyAt_zero (l : List ByteArray) (h : sizeL l ≤ 4072) : bodyAt l 0 = List.replicate 4072 0 := by
  have e : sizeL l = 2 * l.length + (flatTo l l.length).length := rfl
  unfold bodyAt
  rw [flatTo_zero, endL_zero, slotsTo, List.nil_append, List.append_nil, List.replicate_append_replicate]
  congr 1; omega
theorem bodyAt_all (l : List ByteArray) : bodyAt l l.length = layL l := by
  simp [bodyAt, layL, sizeL]
theorem endL_le {l : List ByteArray} (h : sizeL l ≤ 4072) {i : Nat} (hi : i ≤ l.length) : endL l i ≤ 4072 := Nat.le_trans (endL_mono l i l.length hi (Nat.le_refl _)) h
theorem endL_ge (l : List ByteArray) (i : Nat) : 2 * l.length ≤ endL l i := by unfold endL; omega
theorem bodyAt_len (l : List ByteArray) (i : Nat) (h : sizeL l ≤ 4072) (hi : i ≤ l.length) : (bodyAt l i).length = 4072 := by
  have := endL_le h hi
  have e : endL l i = 2 * l.length + (flatTo l i).length := rfl
  simp only [bodyAt, List.length_append, List.length_replicate, slotsTo_len]
  omega

theorem hi8_toNat (e : Nat) (h : e ≤ 4072) : (hi8 e).toNat = e / 256 := by
  simp [hi8]; omega
theorem lo8_toNat (e : Nat) : (lo8 e).toNat = e % 256 := by
  simp [lo8]

/-- The slot of a cell in a body. -/
def slotN (b : List UInt8) (i : Nat) : Nat := (b.getD (2 * i) 0).toNat * 256 + (b.getD (2 * i + 1) 0).toNat
def endB (b : List UInt8) (n : Nat) : Nat → Nat
  | 0 => 2 * n
  | i + 1 => slotN b i
/-- The body of n cells. -/
def OkR (b : List UInt8) (n : Nat) : Prop := (n ≤ 2036 ∧ b.length = 4072) ∧ (∀ i, i < n → endB b n i ≤ endB b n (i + 1) ∧ endB b n (i + 1) ≤ 4072) ∧ ∀ j, endB b n n ≤ j → j < 4072 → b.getD j 0 = 0
def cellB (b : List UInt8) (n i : Nat) : List UInt8 := (b.drop (endB b n i)).take (endB b n (i + 1) - endB b n i)
def cellsB (b : List UInt8) (n : Nat) : List ByteArray := (List.range n).map fun i => ⟨(cellB b n i).toArray⟩
theorem cellsB_len (b : List UInt8) (n : Nat) : (cellsB b n).length = n := by simp [cellsB]
theorem cellsB_get (b : List UInt8) (n i : Nat) (h : i < (cellsB b n).length) : (cellsB b n)[i].data.toList = cellB b n i := by simp [cellsB]

theorem slotsTo_get (l : List ByteArray) (n : Nat) : ∀ i, i < n → (slotsTo l n)[2 * i]? = some (hi8 (endL l (i + 1))) ∧ (slotsTo l n)[2 * i + 1]? = some (lo8 (endL l (i + 1))) := by
  induction n with
  | zero => intro i h; omega
  | succ n ih =>
    intro i h
    simp only [slotsTo]
    by_cases hi : i < n
    · have := ih i hi
      rw [List.getElem?_append_left (by rw [slotsTo_len]; omega), List.getElem?_append_left (by rw [slotsTo_len]; omega)]
      exact this
    · have : i = n := by omega
      subst this
      rw [List.getElem?_append_right (by rw [slotsTo_len]; omega), List.getElem?_append_right (by rw [slotsTo_len]; omega), slotsTo_len]
      simp
theorem slot_lay (l : List ByteArray) (h : sizeL l ≤ 4072) (i : Nat) (hi : i < l.length) : slotN (layL l) i = endL l (i + 1) := by
  have hg := slotsTo_get l l.length i hi
  have hl := slotsTo_len l l.length
  have h1 := endL_le h (show i + 1 ≤ l.length by omega)
  unfold slotN layL
  rw [List.getD_eq_getElem?_getD, List.getD_eq_getElem?_getD, List.append_assoc, List.getElem?_append_left (by omega), List.getElem?_append_left (by omega), hg.1, hg.2]
  simp only [Option.getD_some]
  rw [hi8_toNat _ h1, lo8_toNat]; omega
theorem endB_lay (l : List ByteArray) (h : sizeL l ≤ 4072) : ∀ i, i ≤ l.length → endB (layL l) l.length i = endL l i
  | 0, _ => by rw [endL_zero]; rfl
  | i + 1, hi => slot_lay l h i (by omega)
theorem flat_split (l : List ByteArray) (i : Nat) (h : i < l.length) : flatTo l l.length = flatTo l i ++ (l[i].data.toList ++ (l.drop (i + 1)).flatMap (fun c => c.data.toList)) := by
  unfold flatTo
  rw [List.take_of_length_le (Nat.le_refl _)]
  have hd : l.drop i = l[i] :: l.drop (i + 1) := List.drop_eq_getElem_cons h
  have hs : l.flatMap (fun c => c.data.toList) = (l.take i).flatMap (fun c => c.data.toList) ++ (l.drop i).flatMap (fun c => c.data.toList) := by rw [← List.flatMap_append, List.take_append_drop]
  rw [hs, hd, List.flatMap_cons]
theorem lay_ok (l : List ByteArray) (h : sizeL l ≤ 4072) : OkR (layL l) l.length := by
  have e : sizeL l = 2 * l.length + (flatTo l l.length).length := rfl
  refine ⟨⟨by omega, layL_len l h⟩, fun i hi => ?_, fun j hj h' => ?_⟩
  · rw [endB_lay l h i (by omega), endB_lay l h (i + 1) (by omega)]
    exact ⟨endL_mono l i (i + 1) (by omega) (by omega), endL_le h (by omega)⟩
  · rw [endB_lay l h _ (Nat.le_refl _)] at hj
    have hj' : sizeL l ≤ j := hj
    unfold layL
    rw [List.getD_eq_getElem?_getD, List.getElem?_append_right (by rw [List.length_append, slotsTo_len]; omega)]
    rw [List.getElem?_replicate]
    split <;> rfl
theorem lay_cell (l : List ByteArray) (h : sizeL l ≤ 4072) (i : Nat) (hi : i < l.length) : cellB (layL l) l.length i = l[i].data.toList := by
  unfold cellB
  rw [endB_lay l h i (by omega), endB_lay l h (i + 1) (by omega), endL_succ l i hi]
  unfold layL
  rw [flat_split l i hi, ← List.append_assoc, List.append_assoc (slotsTo l l.length ++ flatTo l i)]
  have e : endL l i = (slotsTo l l.length ++ flatTo l i).length := by rw [List.length_append, slotsTo_len]; rfl
  rw [List.drop_append_of_le_length (by omega), e, List.drop_length, List.nil_append, List.append_assoc]
  rw [List.take_append_of_le_length (by rw [bsize]; omega), List.take_of_length_le (by rw [bsize]; omega)]
theorem cells_lay (l : List ByteArray) (h : sizeL l ≤ 4072) : cellsB (layL l) l.length = l := by
  refine List.ext_getElem (cellsB_len _ _) (fun i h1 h2 => ?_)
  have := cellsB_get (layL l) l.length i h1
  rw [lay_cell l h i h2] at this
  have : (cellsB (layL l) l.length)[i].data = l[i].data := Array.toList_inj.1 this
  exact congrArg ByteArray.mk this

theorem endB_mono {b : List UInt8} {n : Nat} (h : OkR b n) (i : Nat) : ∀ j, i ≤ j → j ≤ n → endB b n i ≤ endB b n j := by
  intro j hij
  induction j with
  | zero => intro _; have : i = 0 := by omega
            subst this; exact Nat.le_refl _
  | succ j ih =>
    intro hj
    by_cases hh : i = j + 1
    · subst hh; exact Nat.le_refl _
    · have h1 := ih (by omega) (by omega)
      have h2 := (h.2.1 j (by omega)).1
      omega
theorem endB_le {b : List UInt8} {n : Nat} (h : OkR b n) : ∀ i, i ≤ n → endB b n i ≤ 4072
  | 0, _ => by have := h.1.1; simp only [endB]; omega
  | i + 1, hi => (h.2.1 i (by omega)).2
theorem cellB_len {b : List UInt8} {n : Nat} (h : OkR b n) (i : Nat) (hi : i < n) : (cellB b n i).length = endB b n (i + 1) - endB b n i := by
  have h1 := endB_le h (i + 1) (by omega)
  unfold cellB
  rw [List.length_take, List.length_drop, h.1.2]; omega
theorem flat_cells {b : List UInt8} {n : Nat} (h : OkR b n) : ∀ i, i ≤ n → flatTo (cellsB b n) i = (b.drop (2 * n)).take (endB b n i - 2 * n)
  | 0, _ => by simp [flatTo_zero, endB]
  | i + 1, hi => by
    have h0 := endB_mono h 0 i (by omega) (by omega)
    have h1 := endB_mono h i (i + 1) (by omega) (by omega)
    have e0 : endB b n 0 = 2 * n := rfl
    rw [flatTo_succ _ i (by rw [cellsB_len]; omega), cellsB_get, flat_cells h i (by omega)]
    unfold cellB
    rw [show endB b n (i + 1) - 2 * n = (endB b n i - 2 * n) + (endB b n (i + 1) - endB b n i) by omega, List.take_add, List.drop_drop, show 2 * n + (endB b n i - 2 * n) = endB b n i by omega]
theorem end_cells {b : List UInt8} {n : Nat} (h : OkR b n) (i : Nat) (hi : i ≤ n) : endL (cellsB b n) i = endB b n i := by
  have h0 := endB_mono h 0 i (by omega) hi
  have e0 : endB b n 0 = 2 * n := rfl
  have h1 := endB_le h i hi
  unfold endL
  rw [flat_cells h i hi, cellsB_len, List.length_take, List.length_drop, h.1.2]; omega
theorem slots_cells {b : List UInt8} {n : Nat} (h : OkR b n) : ∀ i, i ≤ n → slotsTo (cellsB b n) i = b.take (2 * i)
  | 0, _ => by simp [slotsTo]
  | i + 1, hi => by
    have hl := h.1.2
    have hn := h.1.1
    simp only [slotsTo]
    rw [slots_cells h i (by omega), end_cells h (i + 1) hi]
    have a1 : 2 * i < b.length := by omega
    have a2 : 2 * i + 1 < b.length := by omega
    have e : endB b n (i + 1) = b[2 * i].toNat * 256 + b[2 * i + 1].toNat := by
      simp only [endB, slotN, List.getD_eq_getElem?_getD, List.getElem?_eq_getElem a1, List.getElem?_eq_getElem a2, Option.getD_some]
    have x1 := b[2 * i].toNat_lt
    have x2 := b[2 * i + 1].toNat_lt
    have y1 : hi8 (endB b n (i + 1)) = b[2 * i] := by
      rw [e]; unfold hi8; rw [show (b[2 * i].toNat * 256 + b[2 * i + 1].toNat) / 256 = b[2 * i].toNat by omega]; simp
    have y2 : lo8 (endB b n (i + 1)) = b[2 * i + 1] := by
      rw [e]; unfold lo8; rw [show (b[2 * i].toNat * 256 + b[2 * i + 1].toNat) % 256 = b[2 * i + 1].toNat by omega]; simp
    rw [y1, y2, show 2 * (i + 1) = 2 * i + 1 + 1 by omega, List.take_succ_eq_append_getElem a2, List.take_succ_eq_append_getElem a1, List.append_assoc]
    rfl
theorem size_cells {b : List UInt8} {n : Nat} (h : OkR b n) : sizeL (cellsB b n) = endB b n n := by
  unfold sizeL; rw [cellsB_len]; exact end_cells h n (Nat.le_refl _)
theorem lay_cells {b : List UInt8} {n : Nat} (h : OkR b n) : layL (cellsB b n) = b := by
  have h0 := endB_mono h 0 n (by omega) (Nat.le_refl _)
  have e0 : endB b n 0 = 2 * n := rfl
  have h1 := endB_le h n (Nat.le_refl _)
  have hl := h.1.2
  unfold layL
  rw [size_cells h, cellsB_len, slots_cells h n (Nat.le_refl _), flat_cells h n (Nat.le_refl _)]
  have hz : List.replicate (4072 - endB b n n) (0 : UInt8) = b.drop (endB b n n) := by
    refine List.ext_getElem (by simp [hl]) (fun j j1 j2 => ?_)
    rw [List.getElem_replicate, List.getElem_drop]
    rw [List.length_drop] at j2
    have := h.2.2 (endB b n n + j) (by omega) (by omega)
    rw [List.getD_eq_getElem?_getD, List.getElem?_eq_getElem (by omega)] at this
    exact this.symm
  rw [hz]
  have : b.drop (endB b n n) = (b.drop (2 * n)).drop (endB b n n - 2 * n) := by rw [List.drop_drop, show 2 * n + (endB b n n - 2 * n) = endB b n n by omega]
  rw [this, List.append_assoc, List.take_append_drop, List.take_append_drop]

end Go.Proofs.YtdacbajiapdiiabDoor

namespace Go.Proofs.YtdacbajiapdiiabDoor

/-! Pairs, as data. -/
abbrev Pr := ByteArray × ByteArray
def szP (p : Pr) : Nat := 5 + p.1.size + p.2.size
def szL (l : List Pr) : Nat := (l.map szP).sum
def mayP (p : Pr) : Bool := decide (1 ≤ p.1.size ∧ p.1.size ≤ 255 ∧ p.2.size ≤ 700)
theorem may_parts' {p : Pr} (h : mayP p = true) : 1 ≤ p.1.size ∧ p.1.size ≤ 255 ∧ p.2.size ≤ 700 := by simpa [mayP] using h
def ltK (a b : ByteArray) : Bool := Op.bytesLess a.toList b.toList
/-- Each key is below the next one. -/
def Rise (l : List Pr) : Prop := ∀ i (h : i + 1 < l.length), ltK l[i].1 l[i + 1].1 = true

theorem szL_nil : szL [] = 0 := rfl
theorem szL_cons (p : Pr) (l : List Pr) : szL (p :: l) = szP p + szL l := by simp [szL]
theorem szL_append (a b : List Pr) : szL (a ++ b) = szL a + szL b := by simp [szL]
theorem szL_take_succ (l : List Pr) (k : Nat) (h : k < l.length) : szL (l.take (k + 1)) = szL (l.take k) + szP l[k] := by
  rw [List.take_succ_eq_append_getElem h, szL_append]; simp [szL]
theorem szL_take_le (l : List Pr) (k : Nat) : szL (l.take k) ≤ szL l := by
  have h : szL l = szL (l.take k) + szL (l.drop k) := by rw [← szL_append, List.take_append_drop]
  omega
theorem szL_len (l : List Pr) : 5 * l.length ≤ szL l := by
  induction l with
  | nil => simp
  | cons p l ih => rw [szL_cons, List.length_cons]; unfold szP; omega

theorem bless_irrefl (x : List UInt8) : Op.bytesLess x x = false := by
  induction x with
  | nil => rfl
  | cons a x ih => simp [Op.bytesLess, ih]
theorem bless_trans : ∀ (x y z : List UInt8), Op.bytesLess x y = true → Op.bytesLess y z = true → Op.bytesLess x z = true
  | _, [], _, h, _ => by simp [Op.bytesLess] at h
  | _, _ :: _, [], _, h => by simp [Op.bytesLess] at h
  | [], _ :: _, _ :: _, _, _ => by simp [Op.bytesLess]
  | a :: x, b :: y, c :: z, h1, h2 => by
    simp only [Op.bytesLess, Bool.or_eq_true, decide_eq_true_eq, Bool.and_eq_true, beq_iff_eq] at *
    rcases h1 with h1 | ⟨rfl, h1⟩
    · rcases h2 with h2 | ⟨rfl, h2⟩
      · exact .inl (UInt8.lt_trans h1 h2)
      · exact .inl h1
    · rcases h2 with h2 | ⟨rfl, h2⟩
      · exact .inl h2
      · exact .inr ⟨rfl, bless_trans x y z h1 h2⟩
theorem bless_total : ∀ (x y : List UInt8), Op.bytesLess x y = false → Op.bytesLess y x = false → x = y
  | [], [], _, _ => rfl
  | [], _ :: _, h, _ => by simp [Op.bytesLess] at h
  | _ :: _, [], _, h => by simp [Op.bytesLess] at h
  | a :: x, b :: y, h1, h2 => by
    simp only [Op.bytesLess, Bool.or_eq_false_iff, decide_eq_false_iff_not, Bool.and_eq_false_imp, beq_iff_eq] at *
    have hab : a = b := by
      have := UInt8.not_lt.1 h1.1
      have := UInt8.not_lt.1 h2.1
      exact UInt8.le_antisymm ‹_› ‹_›
    subst hab
    rw [bless_total x y (h1.2 rfl) (h2.2 rfl)]
theorem ltK_irrefl (a : ByteArray) : ltK a a = false := bless_irrefl _
theorem ltK_trans {a b c : ByteArray} (h1 : ltK a b = true) (h2 : ltK b c = true) : ltK a c = true := bless_trans _ _ _ h1 h2
theorem ba_ext' {x y : ByteArray} (h : x.data.toList = y.data.toList) : x = y := by
  have : x.data = y.data := Array.toList_inj.1 h
  exact congrArg ByteArray.mk this
theorem ltK_total {a b : ByteArray} (h1 : ltK a b = false) (h2 : ltK b a = false) : a = b := by
  have := bless_total _ _ h1 h2
  rw [ByteArray.toList_eq, ByteArray.toList_eq] at this
  exact ba_ext' this
theorem ltK_asymm {a b : ByteArray} (h : ltK a b = true) : ltK b a = false := by
  cases h' : ltK b a
  · rfl
  · have := ltK_trans h h'; rw [ltK_irrefl] at this; cases this

theorem Rise.lt {l : List Pr} (h : Rise l) (i : Nat) : ∀ j (hj : j < l.length) (hij : i < j), ltK (l[i]'(by omega)).1 l[j].1 = true := by
  intro j
  induction j with
  | zero => intro _ h; omega
  | succ j ih =>
    intro hj hij
    by_cases he : i = j
    · subst he; exact h i hj
    · exact ltK_trans (ih (by omega) (by omega)) (h j hj)
theorem rise_nil : Rise [] := fun i h => by simp at h
theorem Rise.take {l : List Pr} (h : Rise l) (k : Nat) : Rise (l.take k) := fun i hi => by
  rw [List.length_take] at hi
  simp only [List.getElem_take]
  exact h i (by omega)
theorem Rise.drop {l : List Pr} (h : Rise l) (k : Nat) : Rise (l.drop k) := fun i hi => by
  rw [List.length_drop] at hi
  simp only [List.getElem_drop]
  exact h (k + i) (by omega)
theorem rise_snoc {l : List Pr} (p : Pr) : Rise (l ++ [p]) ↔ Rise l ∧ ∀ (h : 0 < l.length), ltK (l[l.length - 1]'(by omega)).1 p.1 = true := by
  constructor
  · intro h
    refine ⟨fun i hi => ?_, fun h0 => ?_⟩
    · have := h i (by simp; omega)
      rwa [List.getElem_append_left (by omega), List.getElem_append_left (by omega)] at this
    · have := h (l.length - 1) (by simp; omega)
      rw [List.getElem_append_left (by omega)] at this
      have e : (l ++ [p])[l.length - 1 + 1]'(by simp; omega) = p := by
        simp only [show l.length - 1 + 1 = l.length by omega]; simp
      rwa [e] at this
  · rintro ⟨h1, h2⟩ i hi
    simp only [List.length_append, List.length_singleton] at hi
    by_cases he : i + 1 < l.length
    · rw [List.getElem_append_left (by omega), List.getElem_append_left (by omega)]
      exact h1 i he
    · have e : i = l.length - 1 := by omega
      have h0 : 0 < l.length := by omega
      rw [List.getElem_append_left (by omega)]
      have e2 : (l ++ [p])[i + 1]'(by simp; omega) = p := by
        simp only [show i + 1 = l.length by omega]; simp
      rw [e2]
      simp only [e]
      exact h2 h0
instance (l : List Pr) : Decidable (Rise l) := decidable_of_iff (∀ i : Fin l.length, ∀ h : i.1 + 1 < l.length, ltK l[i.1].1 l[i.1 + 1].1 = true) ⟨fun h i hi => h ⟨i, by omega⟩ hi, fun h i hi => h i.1 hi⟩

/-- Which refusal Check answers: the sentinel's place in the list, and none. -/
def chk (l : List Pr) (root : Bool) : Option Nat :=
  if l.all mayP = false then some 0
  else if ¬ Rise l then some 11
  else if 4072 < szL l then some 2
  else if l = [] ∨ root = false ∧ szL l < 1556 then some 3
  else none
theorem chk_none {l : List Pr} {root : Bool} (h : chk l root = none) : (∀ p ∈ l, mayP p = true) ∧ Rise l ∧ szL l ≤ 4072 ∧ l ≠ [] ∧ (root = false → 1556 ≤ szL l) := by
  unfold chk at h
  split at h
  · cases h
  · rename_i h1
    split at h
    · cases h
    · rename_i h2
      split at h
      · cases h
      · rename_i h3
        split at h
        · cases h
        · rename_i h4
          refine ⟨fun p hp => ?_, Classical.not_not.1 h2, by omega, fun e => h4 (.inl e), fun hr => ?_⟩
          · have : l.all mayP = true := by cases h : l.all mayP <;> simp_all
            exact List.all_eq_true.1 this p hp
          · rcases Nat.lt_or_ge (szL l) 1556 with h' | h'
            · exact absurd (.inr ⟨hr, h'⟩) h4
            · exact h'
theorem chk_of {l : List Pr} {root : Bool} (h1 : ∀ p ∈ l, mayP p = true) (h2 : Rise l) (h3 : szL l ≤ 4072) (h4 : l ≠ []) (h5 : root = false → 1556 ≤ szL l) : chk l root = none := by
  unfold chk
  rw [if_neg (by rw [List.all_eq_true.2 h1]; simp), if_neg (by simpa using h2), if_neg (by omega), if_neg]
  rintro (h | ⟨h, h'⟩)
  · exact h4 h
  · have := h5 h; omega

/-- The place of the first pair whose key is at or above. -/
def findN (l : List Pr) (key : ByteArray) : Nat := l.findIdx (fun p => !ltK p.1 key)
def foundB (l : List Pr) (key : ByteArray) : Bool := match l[findN l key]? with | some p => decide (p.1 = key) | none => false
def behindN (l : List Pr) (key : ByteArray) : Nat := if foundB l key then findN l key + 1 else findN l key
def setL (l : List Pr) (key value : ByteArray) : List Pr := l.take (findN l key) ++ (key, value) :: l.drop (behindN l key)
def dropL (l : List Pr) (key : ByteArray) : List Pr := l.take (findN l key) ++ l.drop (behindN l key)
theorem findN_le (l : List Pr) (key : ByteArray) : findN l key ≤ l.length := List.findIdx_le_length
theorem findN_below (l : List Pr) (key : ByteArray) (j : Nat) (h : j < findN l key) (hj : j < l.length) : ltK l[j].1 key = true := by
  have := List.not_of_lt_findIdx h
  simpa using this
theorem findN_at (l : List Pr) (key : ByteArray) (h : findN l key < l.length) : ltK l[findN l key].1 key = false := by
  have := List.findIdx_getElem (xs := l) (p := fun q : Pr => !ltK q.1 key) (w := h)
  simp only [Bool.not_eq_true'] at this
  exact this
theorem findN_eq {l : List Pr} {key : ByteArray} {k : Nat} (hk : k < l.length) (h1 : ∀ j (hj : j < k), ltK (l[j]'(by omega)).1 key = true) (h2 : ltK l[k].1 key = false) : findN l key = k := by
  rcases Nat.lt_trichotomy (findN l key) k with h | h | h
  · have := findN_at l key (by omega)
    rw [h1 _ h] at this; cases this
  · exact h
  · have := findN_below l key k h hk
    rw [h2] at this; cases this
theorem findN_none {l : List Pr} {key : ByteArray} (h1 : ∀ j (hj : j < l.length), ltK l[j].1 key = true) : findN l key = l.length := by
  rcases Nat.lt_or_ge (findN l key) l.length with h | h
  · have := findN_at l key h
    rw [h1 _ h] at this; cases this
  · have := findN_le l key; omega
theorem foundB_at {l : List Pr} {key : ByteArray} (h : findN l key < l.length) : foundB l key = decide (l[findN l key].1 = key) := by
  unfold foundB; rw [List.getElem?_eq_getElem h]
theorem foundB_none {l : List Pr} {key : ByteArray} (h : ¬ findN l key < l.length) : foundB l key = false := by
  unfold foundB; rw [List.getElem?_eq_none (by omega)]
theorem foundB_lt {l : List Pr} {key : ByteArray} (h : foundB l key = true) : findN l key < l.length := by
  rcases Nat.lt_or_ge (findN l key) l.length with h' | h'
  · exact h'
  · rw [foundB_none (by omega)] at h; cases h
theorem behindN_le (l : List Pr) (key : ByteArray) : behindN l key ≤ l.length := by
  unfold behindN
  split
  · rename_i h; exact foundB_lt h
  · exact findN_le _ _
theorem behindN_ge (l : List Pr) (key : ByteArray) : findN l key ≤ behindN l key := by
  unfold behindN; split <;> omega

end Go.Proofs.YtdacbajiapdiiabDoor

namespace Go.Proofs.YtdacbajiapdiiabDoor
open Go.RowKit

/-- A block of the call's own that holds a struct's cells. -/
def Boxed (b : Nat) (cs : List Value) (w : World) : Prop := b < w.heap.size ∧ ∀ j (h : j < cs.length), w.cell? ⟨b, j, none⟩ = some cs[j]
theorem Boxed.below {b : Nat} {cs : List Value} {w w' : World} (h : Boxed b cs w) (hb : Below w.heap.size w w') : Boxed b cs w' :=
  ⟨Nat.lt_of_lt_of_le h.1 hb.size, fun j hj => (hb.cell (p := ⟨b, j, none⟩) h.1).trans (h.2 j hj)⟩
theorem boxed_new (w : World) (cs : Array Value) (t : TypeId) : Boxed w.heap.size cs.toList (w.alloc (.cells cs t)) := by
  refine ⟨by simp, fun j hj => ?_⟩
  have h : (w.alloc (.cells cs t)).heap[w.heap.size]? = some (.cells cs t (0, 0)) := heap_alloc_new w _
  rw [cell_of_row _ w.heap.size j cs t (0, 0) h]
  simp only [Array.length_toList] at hj
  simp [hj]
theorem below_new (w : World) (o : Obj) : Below w.heap.size w (w.alloc o) := (Below.refl _ _).alloc (Nat.le_refl _) o
/-- Two steps, each kept below its own beginning. -/
theorem Below.next {a b c : World} (h : Below a.heap.size a b) (k : Below b.heap.size b c) : Below a.heap.size a c := h.trans (k.mono h.size)

end Go.Proofs.YtdacbajiapdiiabDoor

namespace Go.Proofs.YtdacbajiapdiiabDoor
open Go.RowKit

theorem ret_int {k : IntKind} {a b : Int} (h : a = b) : Ending.returned (.int k a) = .returned (.int k b) := by rw [h]
theorem take_all_eq {l1 l2 : List UInt8} (hl : l1.length = l2.length) (h : l1.take l1.length = l2.take l1.length) : l1 = l2 := by
  rw [List.take_of_length_le (Nat.le_refl _), List.take_of_length_le (Nat.le_of_eq hl.symm)] at h
  exact h
theorem below_drewN' {B : Nat} {a w : World} (h : Below B a w) (n : Nat) : Below B a (w.drewN n) := ⟨h.os, h.tape, h.output, h.size, h.block⟩

end Go.Proofs.YtdacbajiapdiiabDoor

namespace Go.Proofs.YtdacbajiapdiiabDoor
open Go.RowKit

theorem hide {p : Prop} (h : p) : Hid p := h

end Go.Proofs.YtdacbajiapdiiabDoor

namespace Go.Proofs.YtdacbajiapdiiabDoor
open Go.RowKit

/-- The slice value v reads as the values us, one cell each. -/
def RowR (w : World) (v : Value) (us : List Value) : Prop := ∃ a cap, v = .slice a us.length cap ∧ us.length ≤ cap ∧ (a = none → cap = 0) ∧ ∀ j u, us[j]? = some u → ∃ g o, a = some ⟨g, o, none⟩ ∧ w.cell? ⟨g, o + j, none⟩ = some u
theorem RowR.below {w w' : World} {v : Value} {us : List Value} (h : RowR w v us) (hb : Below w.heap.size w w') : RowR w' v us := by
  obtain ⟨a, cap, rfl, hle, hn, hc⟩ := h
  refine ⟨a, cap, rfl, hle, hn, fun j u hj => ?_⟩
  obtain ⟨g, o, ha, hcell⟩ := hc j u hj
  exact ⟨g, o, ha, (hb.cell (p := ⟨g, o + j, none⟩) (World.block_lt_of_cell? w _ hcell)).trans hcell⟩
theorem rowR_of_owns {w : World} {base e n : Nat} {v : Value} {us : List Value} (h : w.ownsRow base e 1 v n us) : RowR w v us := by
  have hl := h.1
  rw [Nat.mul_one] at hl
  rcases h.2 with ⟨rfl, hn⟩ | ⟨g, cap, cur, rfl, hb, hg, hnc, hcm, hcs, htk⟩
  · have h0 : us.length = 0 := by omega
    exact ⟨none, 0, by rw [h0], by omega, fun _ => rfl, fun j u hj => by rw [List.length_eq_zero_iff.1 h0] at hj; simp at hj⟩
  · refine ⟨some ⟨g, 0, none⟩, cap, by rw [hl], by omega, fun h => (by cases h), fun j u hj => ⟨g, 0, rfl, ?_⟩⟩
    have hj' := (List.getElem?_eq_some_iff.1 hj).1
    rw [Nat.zero_add, h.cellAt j (by omega)]; exact hj
theorem RowR.take {w : World} {a : Option Addr} {n m cap : Nat} {us : List Value} (h : RowR w (.slice a n cap) us) (hm : m ≤ n) : RowR w (.slice a m cap) (us.take m) := by
  obtain ⟨a', cap', he, hle, hn, hc⟩ := h
  cases he
  refine ⟨a, cap, by rw [List.length_take, Nat.min_eq_left hm], by rw [List.length_take]; omega, hn, fun j u hj => hc j u ?_⟩
  rw [List.getElem?_take] at hj
  split at hj
  · exact hj
  · cases hj
theorem add_plain' (b o c : Nat) : (⟨b, o, none⟩ : Addr).add c = ⟨b, o + c, none⟩ := by
  unfold Addr.add
  split
  · rename_i h; rw [h, Nat.add_zero]
  · rfl

/-- append(v, s...). -/
theorem append_row (t e : TypeId) (z : Value) (bytes : Nat) (hinfo : (Tryd.prog.info? e).map (fun i => (i.zero, i.size, i.bytes)) = some (some z, 1, bytes)) (ht : Tryd.prog.underlying t = some (.slice e)) (hz1 : z.cells.size = 1) (base n : Nat) (v : Value) (xs : List Value) (w : World) (hown : w.ownsRow base e 1 v n xs)
    (s : Value) (us : List Value) (hs : RowR w s us) (h1 : ∀ u ∈ us, u.oneCell' = true) (hb : (n + us.length) * bytes ≤ 140737488355328) (hb1 : 1 ≤ bytes) (hbase : base ≤ w.heap.size) :
    ∃ a' cap' w', (Builtin.append_ #[t, t] t #[v, s]).run Tryd.prog w = .ok (.slice a' (n + us.length) cap') w' ∧ w'.ownsRow base e 1 (.slice a' (n + us.length) cap') (n + us.length) (xs ++ us) ∧ w.grownBy w' v.ownBlock := by
  obtain ⟨i0, hi, hz, hsz, hby⟩ := info_parts hinfo
  obtain ⟨a, cap, rfl, hle, hnil, hc⟩ := hs
  cases a with
  | none =>
    have h0 : us = [] := by
      cases us with
      | nil => rfl
      | cons u r => obtain ⟨g, o, he, _⟩ := hc 0 u rfl; cases he
    subst h0
    rw [hnil rfl]
    have hr := run_append_owned_none (P := Tryd.prog) w base t t e i0 1 ht hi v n xs hown
    have hf : ∃ a' c', v = .slice a' n c' := by
      rcases hown.2 with ⟨rfl, rfl⟩ | ⟨g, cap, cur, rfl, _⟩
      · exact ⟨_, _, rfl⟩
      · exact ⟨_, _, rfl⟩
    obtain ⟨a', c', rfl⟩ := hf
    exact ⟨a', c', w, hr, by rw [List.append_nil]; exact hown, ⟨rfl, rfl, rfl, Nat.le_refl _, fun _ _ _ => rfl⟩⟩
  | some ad =>
    have hB : (n + us.length) * 1 ≤ (n + us.length) * bytes := Nat.mul_le_mul_left _ hb1
    obtain ⟨v', w', hr, hown', hgr, _⟩ := run_append_own (P := Tryd.prog) w base t t e i0 z 1 bytes ht hi hz hsz hby hz1 (by decide) v n xs hown ad us.length cap us (by rw [Nat.mul_one]) (fun j u hj => by
      obtain ⟨g, o, he, hcell⟩ := hc j u hj
      cases he
      rw [add_plain']; exact hcell) h1 (by unfold maxLen; omega) hb hbase
    have hf : ∃ a' c', v' = .slice a' (n + us.length) c' := by
      rcases hown'.2 with ⟨rfl, h0⟩ | ⟨g, cap, cur, rfl, _⟩
      · exact ⟨none, 0, by rw [h0]⟩
      · exact ⟨_, _, rfl⟩
    obtain ⟨a', c', rfl⟩ := hf
    exact ⟨a', c', w', hr, hown', hgr⟩

theorem wpList_append_run {ops : Array Oper} {rest : List Oper} {o : Oper} {a : Act} {w : World} {Q : Exit → Act → World → Prop} (t : TypeId) (hgd : o.guard = none) (d x : Operand)
    (ho : o.op = .call { callee := .builtin .append, args := #[d, x], argTypes := #[t, t] }) (hty : o.type = t) (vd vx : Value) (hd : a.eval d = vd) (hx : a.eval x = vx) (v : Value) (w' : World)
    (hrun : (Builtin.append_ #[t, t] t #[vd, vx]).run Tryd.prog w = .ok v w') (h : wpList Tryd.prog ops Q rest (a.put o.dst v) w') : wpList Tryd.prog ops Q (o :: rest) a w :=
  wpList_plain hgd fun _ hK => by
    unfold Oper.wp
    simp [execOp, ho, resolve, invoke, builtin, hd, hx, hty, hrun, Result.andThen]
    exact hK _ _ h

def ints (l : List Int) : List Value := l.map (Value.int .i64)
theorem ints_length (l : List Int) : (ints l).length = l.length := by simp [ints]
theorem ints_get (l : List Int) (j : Nat) (h : j < l.length) : (ints l)[j]? = some (.int .i64 l[j]) := by simp [ints, h]
theorem ints_one (l : List Int) : ∀ u ∈ ints l, u.oneCell' = true := by
  intro u hu
  simp only [ints, List.mem_map] at hu
  obtain ⟨c, _, rfl⟩ := hu
  rfl
theorem ints_append (a b : List Int) : ints (a ++ b) = ints a ++ ints b := by simp [ints]
theorem info3 : (Tryd.prog.info? 3).map (fun i => (i.zero, i.size, i.bytes)) = some (some (.int .i64 0), 1, 8) := by kernel_rfl

end Go.Proofs.YtdacbajiapdiiabDoor

namespace Go.Proofs.YtdacbajiapdiiabDoor
open Go.RowKit

/-- The cells of pairs. -/
def prs (l : List Pr) : List Value := l.flatMap fun p => [.string p.1, .string p.2]
theorem prs_cons (p : Pr) (l : List Pr) : prs (p :: l) = .string p.1 :: .string p.2 :: prs l := by simp [prs]
theorem prs_append (a b : List Pr) : prs (a ++ b) = prs a ++ prs b := by simp [prs]
theorem prs_length (l : List Pr) : (prs l).length = l.length * 2 := by
  induction l with
  | nil => rfl
  | cons p l ih => rw [prs_cons]; simp [ih]; omega
theorem prs_get (l : List Pr) : ∀ j (h : j < l.length), (prs l)[j * 2]? = some (.string l[j].1) ∧ (prs l)[j * 2 + 1]? = some (.string l[j].2) := by
  induction l with
  | nil => intro j h; simp at h
  | cons p l ih =>
    intro j h
    rw [prs_cons]
    cases j with
    | zero => exact ⟨rfl, rfl⟩
    | succ j =>
      have := ih j (by simpa using h)
      rw [show (j + 1) * 2 = j * 2 + 1 + 1 by omega]
      simpa using this
theorem prs_one (l : List Pr) : ∀ u ∈ prs l, u.oneCell' = true := by
  intro u hu
  simp only [prs, List.mem_flatMap] at hu
  obtain ⟨p, _, h⟩ := hu
  simp at h
  rcases h with rfl | rfl <;> rfl
theorem infoP : (Tryd.prog.info? 45).map (fun i => (i.zero, i.size, i.bytes)) = some (some (.agg #[.string ByteArray.empty, .string ByteArray.empty]), 2, 32) := by kernel_rfl

/-- The texts of pairs are such as a machine's can be. -/
def OkL (l : List Pr) : Prop := ∀ p ∈ l, p.1.size ≤ 140737488355328 ∧ p.2.size ≤ 140737488355328
/-- The slice value v reads as the pairs l. -/
def PrR (w : World) (v : Value) (l : List Pr) : Prop := ∃ a cap, v = .slice a l.length cap ∧ l.length ≤ cap ∧ (a = none → cap = 0) ∧
  ∀ j (h : j < l.length), ∃ g o, a = some ⟨g, o, none⟩ ∧ w.cell? ⟨g, o + j * 2, none⟩ = some (.string l[j].1) ∧ w.cell? ⟨g, o + j * 2 + 1, none⟩ = some (.string l[j].2)
theorem PrR.below {w w' : World} {v : Value} {l : List Pr} (h : PrR w v l) (hb : Below w.heap.size w w') : PrR w' v l := by
  obtain ⟨a, cap, rfl, hle, hn, hc⟩ := h
  refine ⟨a, cap, rfl, hle, hn, fun j hj => ?_⟩
  obtain ⟨g, o, ha, h1, h2⟩ := hc j hj
  exact ⟨g, o, ha, (hb.cell (p := ⟨g, o + j * 2, none⟩) (World.block_lt_of_cell? w _ h1)).trans h1, (hb.cell (p := ⟨g, o + j * 2 + 1, none⟩) (World.block_lt_of_cell? w _ h2)).trans h2⟩
theorem PrR.form {w : World} {v : Value} {l : List Pr} (h : PrR w v l) : ∃ a c, v = .slice a l.length c := by
  obtain ⟨a, c, rfl, _⟩ := h; exact ⟨a, c, rfl⟩
theorem PrR.of_owns {w : World} {base n : Nat} {v : Value} {l : List Pr} (h : w.ownsRow base 45 2 v n (prs l)) : PrR w v l := by
  have hl := h.1
  rw [prs_length] at hl
  have hl : l.length = n := by omega
  rcases h.2 with ⟨rfl, hn⟩ | ⟨g, cap, cur, rfl, hb, hg, hnc, hcm, hcs, htk⟩
  · have h0 : l.length = 0 := by omega
    exact ⟨none, 0, by rw [h0], by omega, fun _ => rfl, fun j hj => by omega⟩
  · refine ⟨some ⟨g, 0, none⟩, cap, by rw [hl], by omega, fun h => (by cases h), fun j hj => ⟨g, 0, rfl, ?_, ?_⟩⟩
    · rw [Nat.zero_add, h.cellAt (j * 2) (by omega)]; exact (prs_get l j hj).1
    · rw [Nat.zero_add, h.cellAt (j * 2 + 1) (by omega)]; exact (prs_get l j hj).2
theorem PrR.take {w : World} {a : Option Addr} {n m cap : Nat} {l : List Pr} (h : PrR w (.slice a n cap) l) (hm : m ≤ n) : PrR w (.slice a m cap) (l.take m) := by
  obtain ⟨a', cap', he, hle, hn, hc⟩ := h
  cases he
  refine ⟨a, cap, by rw [List.length_take, Nat.min_eq_left hm], by rw [List.length_take]; omega, hn, fun j hj => ?_⟩
  rw [List.length_take] at hj
  obtain ⟨g, o, ha, h1, h2⟩ := hc j (by omega)
  exact ⟨g, o, ha, by rw [List.getElem_take]; exact h1, by rw [List.getElem_take]; exact h2⟩
theorem PrR.nil (w : World) : PrR w (.slice none 0 0) [] := ⟨none, 0, rfl, Nat.le_refl _, fun _ => rfl, fun j h => by simp at h⟩

end Go.Proofs.YtdacbajiapdiiabDoor

namespace Go.Proofs.YtdacbajiapdiiabDoor
open Go.RowKit

/-- A list of the call's own that reads as these pairs. -/
def PrO (w : World) (base : Nat) (v : Value) (l : List Pr) : Prop := w.ownsRow base 45 2 v l.length (prs l)
theorem PrO.at {w : World} {base : Nat} {v : Value} {l : List Pr} (h : PrO w base v l) : PrR w v l := PrR.of_owns h
theorem PrO.form {w : World} {base : Nat} {v : Value} {l : List Pr} (h : PrO w base v l) : ∃ a c, v = .slice a l.length c := h.at.form
theorem PrO.below {w w' : World} {base : Nat} {v : Value} {l : List Pr} (h : PrO w base v l) (hb : Below w.heap.size w w') : PrO w' base v l := by
  refine ⟨h.1, ?_⟩
  rcases h.2 with h' | ⟨g, cap, cur, h', h1, h2, hr⟩
  · exact .inl h'
  · refine .inr ⟨g, cap, cur, h', h1, ?_, hr⟩
    have hg : g < w.heap.size := by
      rcases Nat.lt_or_ge g w.heap.size with h' | h'
      · exact h'
      · rw [Array.getElem?_eq_none h'] at h2; cases h2
    rw [hb.block g hg]; exact h2
theorem PrO.mono {w : World} {b b2 : Nat} {v : Value} {l : List Pr} (h : PrO w b v l) (hb : b2 ≤ b) : PrO w b2 v l := by
  refine ⟨h.1, ?_⟩
  rcases h.2 with h' | ⟨g, cap, cur, h', h1, hr⟩
  · exact .inl h'
  · exact .inr ⟨g, cap, cur, h', Nat.le_trans hb h1, hr⟩
theorem PrO.nil (w : World) (base : Nat) : PrO w base (.slice none 0 0) [] := World.ownsRow_nil _ _ _ _

/-- append(v, s...) of pairs. -/
theorem append_prs (base : Nat) (v s : Value) (xs us : List Pr) (w : World) (hown : PrO w base v xs) (hs : PrR w s us) (hb : (xs.length + us.length) * 32 ≤ 140737488355328) (hbase : base ≤ w.heap.size) :
    ∃ a' cap' w', (Builtin.append_ #[24, 24] 24 #[v, s]).run Tryd.prog w = .ok (.slice a' (xs.length + us.length) cap') w' ∧ PrO w' base (.slice a' (xs.length + us.length) cap') (xs ++ us) ∧ w.grownBy w' v.ownBlock := by
  obtain ⟨i0, hi, hz, hsz, hby⟩ := info_parts infoP
  obtain ⟨a, cap, rfl, hle, hnil, hc⟩ := hs
  have hf0 : ∃ a' c', v = .slice a' xs.length c' := hown.form
  unfold PrO at hown ⊢
  rw [List.length_append, prs_append]
  cases a with
  | none =>
    have h0 : us = [] := by
      cases us with
      | nil => rfl
      | cons u r => obtain ⟨g, o, he, _⟩ := hc 0 (by simp); cases he
    subst h0
    rw [hnil rfl]
    have hr := run_append_owned_none (P := Tryd.prog) w base 24 24 45 i0 2 Tryd.underlying24 hi v xs.length (prs xs) hown
    obtain ⟨a', c', rfl⟩ := hf0
    exact ⟨a', c', w, hr, by simpa [prs] using hown, ⟨rfl, rfl, rfl, Nat.le_refl _, fun _ _ _ => rfl⟩⟩
  | some ad =>
    obtain ⟨v', w', hr, hown', hgr, _⟩ := run_append_own (P := Tryd.prog) w base 24 24 45 i0 _ 2 32 Tryd.underlying24 hi hz hsz hby rfl (by decide) v xs.length (prs xs) hown ad us.length cap (prs us) (prs_length us) (fun j u hj => by
      have hj' := (List.getElem?_eq_some_iff.1 hj).1
      rw [prs_length] at hj'
      obtain ⟨g, o, he, c1, c2⟩ := hc (j / 2) (by omega)
      cases he
      have hg := prs_get us (j / 2) (by omega)
      rw [add_plain']
      rcases Nat.mod_two_eq_zero_or_one j with hm | hm
      · have e : j / 2 * 2 = j := by omega
        rw [e] at hg c1
        rw [hg.1] at hj; cases hj; exact c1
      · have e : j / 2 * 2 + 1 = j := by omega
        rw [Nat.add_assoc, e] at c2
        rw [e] at hg
        rw [hg.2] at hj; cases hj; exact c2) (prs_one us) (by unfold maxLen; omega) hb hbase
    have hf : ∃ a' c', v' = .slice a' (xs.length + us.length) c' := by
      rcases hown'.2 with ⟨rfl, h0⟩ | ⟨g, cap, cur, rfl, _⟩
      · exact ⟨none, 0, by rw [h0]⟩
      · exact ⟨_, _, rfl⟩
    obtain ⟨a', c', rfl⟩ := hf
    exact ⟨a', c', w', hr, hown', hgr⟩

theorem PrO.blk {w : World} {base : Nat} {v : Value} {l : List Pr} (h : PrO w base v l) : ∀ k, v.ownBlock = some k → base ≤ k ∧ k < w.heap.size := World.ownsRow.lt h
theorem prR_lit (w : World) (p : Pr) (t : TypeId) : PrR (w.alloc (.cells #[.string p.1, .string p.2] t)) (.slice (some ⟨w.heap.size, 0, none⟩) 1 1) [p] := by
  have hb := boxed_new w #[.string p.1, .string p.2] t
  refine ⟨_, _, rfl, Nat.le_refl _, fun h => (by cases h), fun j hj => ⟨_, _, rfl, ?_, ?_⟩⟩
  · have : j = 0 := by simpa using hj
    subst this
    exact hb.2 0 (by simp)
  · have : j = 0 := by simpa using hj
    subst this
    exact hb.2 1 (by simp)
/-- v = append(v, p). -/
theorem push_prs (base : Nat) (v : Value) (l : List Pr) (p : Pr) (t : TypeId) (w w0 : World) (B n : Nat) (hn : l.length = n) (hown : PrO w base v l) (hb : (n + 1) * 32 ≤ 140737488355328) (hbase : base ≤ w.heap.size) (hB : B ≤ base) (h0 : Below B w0 w) :
    ∃ a' cap' w', (Builtin.append_ #[24, 24] 24 #[v, .slice (some ⟨w.heap.size, 0, none⟩) 1 1]).run Tryd.prog (w.alloc (.cells #[.string p.1, .string p.2] t)) = .ok (.slice a' (n + 1) cap') w' ∧ PrO w' base (.slice a' (n + 1) cap') (l ++ [p]) ∧ Below B w0 w' ∧ w.heap.size ≤ w'.heap.size := by
  subst hn
  have ho : PrO (w.alloc (.cells #[.string p.1, .string p.2] t)) base v l := World.ownsRow.alloc hown _
  obtain ⟨a', cap', w', hr, hown', hg⟩ := append_prs base v _ l [p] _ ho (prR_lit w p t) (by simpa using hb) (by simp; omega)
  refine ⟨a', cap', w', hr, hown', ?_, ?_⟩
  · refine (h0.alloc (Nat.le_trans hB hbase) _).grown hg (by simp; omega) (fun k hk => Nat.le_trans hB (hown.blk k hk).1)
  · have := hg.size
    simp at this
    omega

end Go.Proofs.YtdacbajiapdiiabDoor
