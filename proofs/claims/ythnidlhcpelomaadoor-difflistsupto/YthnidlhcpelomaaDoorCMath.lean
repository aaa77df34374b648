import Derived.Test.YthnidlhcpelomaaDoorKit
namespace Go.Proofs.YthnidlhcpelomaaDoor

/-! The body of some cells, as data. -/
def flatTo (l : List ByteArray) (i : Nat) : List UInt8 := (l.take i).flatMap (fun c => c.data.toList)
def endL (l : List ByteArray) (i : Nat) : Nat := 2 * l.length + (flatTo l i).length
def sizeL (l : List ByteArray) : Nat := endL l l.length
def hi8 (e : Nat) : UInt8 := UInt8.ofNat (e / 256)
def lo8 (e : Nat) : UInt8 := UInt8.ofNat (e % 256)
def slotsTo (l : List ByteArray) : Nat → List UInt8
  | 0 => []
  | i + 1 => slotsTo l i ++ [hi8 (endL l (i + 1)), lo8 (endL l (i + 1))]
def layL (l : List ByteArray) : List UInt8 := slotsTo l l.length ++ flatTo l l.length ++ List.replicate (4072 - sizeL l) 0
/-- What the body holds when i cells are laid. -/
def bodyAt (l : List ByteArray) (i : Nat) : List UInt8 := slotsTo l i ++ List.replicate (2 * (l.length - i)) 0 ++ flatTo l i ++ List.replicate (4072 - endL l i) 0

theorem flatTo_zero (l : List ByteArray) : flatTo l 0 = [] := by simp [flatTo]
theorem flatTo_succ (l : List ByteArray) (i : Nat) (h : i < l.length) : flatTo l (i + 1) = flatTo l i ++ l[i].data.toList := by
  unfold flatTo
  rw [List.take_succ_eq_append_getElem h, List.flatMap_append]; simp
theorem endL_zero (l : List ByteArray) : endL l 0 = 2 * l.length := by simp [endL, flatTo_zero]
theorem endL_succ (l : List ByteArray) (i : Nat) (h : i < l.length) : endL l (i + 1) = endL l i + l[i].size := by
  unfold endL
  rw [flatTo_succ l i h, List.length_append, bsize]; omega
theorem endL_mono (l : List ByteArray) (i : Nat) : ∀ j, i ≤ j → j ≤ l.length → endL l i ≤ endL l j := by
  intro j hij
  induction j with
  | zero => intro _; have : i = 0 := by omega
            subst this; exact Nat.le_refl _
  | succ j ih =>
    intro hj
    by_cases h : i = j + 1
    · subst h; exact Nat.le_refl _
    · have h1 := ih (by omega) (by omega)
      have h2 := endL_succ l j (by omega)
      omega
theorem slotsTo_len (l : List ByteArray) (i : Nat) : (slotsTo l i).length = 2 * i := by
  induction i with
  | zero => rfl
  | succ i ih => simp [slotsTo, ih]; omega
theorem layL_len (l : List ByteArray) (h : sizeL l ≤ 4072) : (layL l).length = 4072 := by
  have e : sizeL l = 2 * l.length + (flatTo l l.length).length := rfl
  simp only [layL, List.length_append, List.length_replicate, slotsTo_len]
  omega
theorem bodyAt_zero (l : List ByteArray) (h : sizeL l ≤ 4072) : bodyAt l 0 = List.replicate 4072 0 := by
  have e : sizeL l = 2 * l.length + (flatTo l l.length).length := rfl
  unfold bodyAt
  rw [flatTo_zero, endL_zero, slotsTo, List.nil_append, List.append_nil, List.replicate_append_replicate]
  congr 1; omega
theorem bodyAt_all (l : List ByteArray) : bodyAt l l.length = layL l := by
  simp [bodyAt, layL, sizeL]
theorem endL_le {l : List ByteArray} (h : sizeL l ≤ 4072) {i : Nat} (hi : i ≤ l.length) : endL l i ≤ 4072 := Nat.le_trans (endL_mono l i l.length hi (Nat.le_refl _)) h
theorem endL_ge (l : List ByteArray) (i : Nat) : 2 * l.length ≤ endL l i := by unfold endL; omega
theorem bodyAt_len (l : List ByteArray) (i : Nat) (h : sizeL l ≤ 4072) (hi : i ≤ l.length) : (bodyAt l i).length = 4072 := by
  have := endL_le h hi
  have e : endL l i = 2 * l.length + (flatTo l i).length := rfl
  simp only [bodyAt, List.length_append, List.length_replicate, slotsTo_len]
  omega

theorem hi8_toNat (e : Nat) (h : e ≤ 4072) : (hi8 e).toNat = e / 256 := by
  simp [hi8]; omega
theorem lo8_toNat (e : Nat) : (lo8 e).toNat = e % 256 := by
  simp [lo8]

/-- The slot of a cell in a body. -/
def slotN (b : List UInt8) (i : Nat) : Nat := (b.getD (2 * i) 0).toNat * 256 + (b.getD (2 * i + 1) 0).toNat
def endB (b : List UInt8) (n : Nat) : Nat → Nat
  | 0 => 2 * n
  | i + 1 => slotN b i
/-- The body of n cells. -/
def OkR (b : List UInt8) (n : Nat) : Prop := (n ≤ 2036 ∧ b.length = 4072) ∧ (∀ i, i < n → endB b n i ≤ endB b n (i + 1) ∧ endB b n (i + 1) ≤ 4072) ∧ ∀ j, endB b n n ≤ j → j < 4072 → b.getD j 0 = 0
def cellB (b : List UInt8) (n i : Nat) : List UInt8 := (b.drop (endB b n i)).take (endB b n (i + 1) - endB b n i)
def cellsB (b : List UInt8) (n : Nat) : List ByteArray := (List.range n).map fun i => ⟨(cellB b n i).toArray⟩
theorem cellsB_len (b : List UInt8) (n : Nat) : (cellsB b n).length = n := by simp [cellsB]
theorem cellsB_get (b : List UInt8) (n i : Nat) (h : i < (cellsB b n).length) : (cellsB b n)[i].data.toList = cellB b n i := by simp [cellsB]

theorem slotsTo_get (l : List ByteArray) (n : Nat) : ∀ i, i < n → (slotsTo l n)[2 * i]? = some (hi8 (endL l (i + 1))) ∧ (slotsTo l n)[2 * i + 1]? = some (lo8 (endL l (i + 1))) := by
  induction n with
  | zero => intro i h; omega
  | succ n ih =>
    intro i h
    simp only [slotsTo]
    by_cases hi : i < n
    · have := ih i hi
      rw [List.getElem?_append_left (by rw [slotsTo_len]; omega), List.getElem?_append_left (by rw [slotsTo_len]; omega)]
      exact this
    · have : i = n := by omega
      subst this
      rw [List.getElem?_append_right (by rw [slotsTo_len]; omega), List.getElem?_append_right (by rw [slotsTo_len]; omega), slotsTo_len]
      simp
theorem slot_lay (l : List ByteArray) (h : sizeL l ≤ 4072) (i : Nat) (hi : i < l.length) : slotN (layL l) i = endL l (i + 1) := by
  have hg := slotsTo_get l l.length i hi
  have hl := slotsTo_len l l.length
  have h1 := endL_le h (show i + 1 ≤ l.length by omega)
  unfold slotN layL
  rw [List.getD_eq_getElem?_getD, List.getD_eq_getElem?_getD, List.append_assoc, List.getElem?_append_left (by omega), List.getElem?_append_left (by omega), hg.1, hg.2]
  simp only [Option.getD_some]
  rw [hi8_toNat _ h1, lo8_toNat]; omega
theorem endB_lay (l : List ByteArray) (h : sizeL l ≤ 4072) : ∀ i, i ≤ l.length → endB (layL l) l.length i = endL l i
  | 0, _ => by rw [endL_zero]; rfl
  | i + 1, hi => slot_lay l h i (by omega)
theorem flat_split (l : List ByteArray) (i : Nat) (h : i < l.length) : flatTo l l.length = flatTo l i ++ (l[i].data.toList ++ (l.drop (i + 1)).flatMap (fun c => c.data.toList)) := by
  unfold flatTo
  rw [List.take_of_length_le (Nat.le_refl _)]
  have hd : l.drop i = l[i] :: l.drop (i + 1) := List.drop_eq_getElem_cons h
  have hs : l.flatMap (fun c => c.data.toList) = (l.take i).flatMap (fun c => c.data.toList) ++ (l.drop i).flatMap (fun c => c.data.toList) := by rw [← List.flatMap_append, List.take_append_drop]
  rw [hs, hd, List.flatMap_cons]
theorem lay_ok (l : List ByteArray) (h : sizeL l ≤ 4072) : OkR (layL l) l.length := by
  have e : sizeL l = 2 * l.length + (flatTo l l.length).length := rfl
  refine ⟨⟨by omega, layL_len l h⟩, fun i hi => ?_, fun j hj h' => ?_⟩
  · rw [endB_lay l h i (by omega), endB_lay l h (i + 1) (by omega)]
    exact ⟨endL_mono l i (i + 1) (by omega) (by omega), endL_le h (by omega)⟩
  · rw [endB_lay l h _ (Nat.le_refl _)] at hj
    have hj' : sizeL l ≤ j := hj
    unfold layL
    rw [List.getD_eq_getElem?_getD, List.getElem?_append_right (by rw [List.length_append, slotsTo_len]; omega)]
    rw [List.getElem?_replicate]
    split <;> rfl
theorem lay_cell (l : List ByteArray) (h : sizeL l ≤ 4072) (i : Nat) (hi : i < l.length) : cellB (layL l) l.length i = l[i].data.toList := by
  unfold cellB
  rw [endB_lay l h i (by omega), endB_lay l h (i + 1) (by omega), endL_succ l i hi]
  unfold layL
  rw [flat_split l i hi, ← List.append_assoc, List.append_assoc (slotsTo l l.length ++ flatTo l i)]
  have e : endL l i = (slotsTo l l.length ++ flatTo l i).length := by rw [List.length_append, slotsTo_len]; rfl
  rw [List.drop_append_of_le_length (by omega), e, List.drop_length, List.nil_append, List.append_assoc]
  rw [List.take_append_of_le_length (by rw [bsize]; omega), List.take_of_length_le (by rw [bsize]; omega)]
theorem cells_lay (l : List ByteArray) (h : sizeL l ≤ 4072) : cellsB (layL l) l.length = l := by
  refine List.ext_getElem (cellsB_len _ _) (fun i h1 h2 => ?_)
  have := cellsB_get (layL l) l.length i h1
  rw [lay_cell l h i h2] at this
  have : (cellsB (layL l) l.length)[i].data = l[i].data := Array.toList_inj.1 this
  exact congrArg ByteArray.mk this

theorem endB_mono {b : List UInt8} {n : Nat} (h : OkR b n) (i : Nat) : ∀ j, i ≤ j → j ≤ n → endB b n i ≤ endB b n j := by
  intro j hij
  induction j with
  | zero => intro _; have : i = 0 := by omega
            subst this; exact Nat.le_refl _
  | succ j ih =>
    intro hj
    by_cases hh : i = j + 1
    · subst hh; exact Nat.le_refl _
    · have h1 := ih (by omega) (by omega)
      have h2 := (h.2.1 j (by omega)).1
      omega
theorem endB_le {b : List UInt8} {n : Nat} (h : OkR b n) : ∀ i, i ≤ n → endB b n i ≤ 4072
  | 0, _ => by have := h.1.1; simp only [endB]; omega
  | i + 1, hi => (h.2.1 i (by omega)).2
theorem cellB_len {b : List UInt8} {n : Nat} (h : OkR b n) (i : Nat) (hi : i < n) : (cellB b n i).length = endB b n (i + 1) - endB b n i := by
  have h1 := endB_le h (i + 1) (by omega)
  unfold cellB
  rw [List.length_take, List.length_drop, h.1.2]; omega
theorem flat_cells {b : List UInt8} {n : Nat} (h : OkR b n) : ∀ i, i ≤ n → flatTo (cellsB b n) i = (b.drop (2 * n)).take (endB b n i - 2 * n)
  | 0, _ => by simp [flatTo_zero, endB]
  | i + 1, hi => by
    have h0 := endB_mono h 0 i (by omega) (by omega)
    have h1 := endB_mono h i (i + 1) (by omega) (by omega)
    have e0 : endB b n 0 = 2 * n := rfl
    rw [flatTo_succ _ i (by rw [cellsB_len]; omega), cellsB_get, flat_cells h i (by omega)]
    unfold cellB
    rw [show endB b n (i + 1) - 2 * n = (endB b n i - 2 * n) + (endB b n (i + 1) - endB b n i) by omega, List.take_add, List.drop_drop, show 2 * n + (endB b n i - 2 * n) = endB b n i by omega]
theorem end_cells {b : List UInt8} {n : Nat} (h : OkR b n) (i : Nat) (hi : i ≤ n) : endL (cellsB b n) i = endB b n i := by
  have h0 := endB_mono h 0 i (by omega) hi
  have e0 : endB b n 0 = 2 * n := rfl
  have h1 := endB_le h i hi
  unfold endL
  rw [flat_cells h i hi, cellsB_len, List.length_take, List.length_drop, h.1.2]; omega
theorem slots_cells {b : List UInt8} {n : Nat} (h : OkR b n) : ∀ i, i ≤ n → slotsTo (cellsB b n) i = b.take (2 * i)
  | 0, _ => by simp [slotsTo]
  | i + 1, hi => by
    have hl := h.1.2
    have hn := h.1.1
    simp only [slotsTo]
    rw [slots_cells h i (by omega), end_cells h (i + 1) hi]
    have a1 : 2 * i < b.length := by omega
    have a2 : 2 * i + 1 < b.length := by omega
    have e : endB b n (i + 1) = b[2 * i].toNat * 256 + b[2 * i + 1].toNat := by
      simp only [endB, slotN, List.getD_eq_getElem?_getD, List.getElem?_eq_getElem a1, List.getElem?_eq_getElem a2, Option.getD_some]
    have x1 := b[2 * i].toNat_lt
    have x2 := b[2 * i + 1].toNat_lt
    have y1 : hi8 (endB b n (i + 1)) = b[2 * i] := by
      rw [e]; unfold hi8; rw [show (b[2 * i].toNat * 256 + b[2 * i + 1].toNat) / 256 = b[2 * i].toNat by omega]; simp
    have y2 : lo8 (endB b n (i + 1)) = b[2 * i + 1] := by
      rw [e]; unfold lo8; rw [show (b[2 * i].toNat * 256 + b[2 * i + 1].toNat) % 256 = b[2 * i + 1].toNat by omega]; simp
    rw [y1, y2, show 2 * (i + 1) = 2 * i + 1 + 1 by omega, List.take_succ_eq_append_getElem a2, List.take_succ_eq_append_getElem a1, List.append_assoc]
    rfl
theorem size_cells {b : List UInt8} {n : Nat} (h : OkR b n) : sizeL (cellsB b n) = endB b n n := by
  unfold sizeL; rw [cellsB_len]; exact end_cells h n (Nat.le_refl _)
theorem lay_cells {b : List UInt8} {n : Nat} (h : OkR b n) : layL (cellsB b n) = b := by
  have h0 := endB_mono h 0 n (by omega) (Nat.le_refl _)
  have e0 : endB b n 0 = 2 * n := rfl
  have h1 := endB_le h n (Nat.le_refl _)
  have hl := h.1.2
  unfold layL
  rw [size_cells h, cellsB_len, slots_cells h n (Nat.le_refl _), flat_cells h n (Nat.le_refl _)]
  have hz : List.replicate (4072 - endB b n n) (0 : UInt8) = b.drop (endB b n n) := by
    refine List.ext_getElem (by simp [hl]) (fun j j1 j2 => ?_)
    rw [List.getElem_replicate, List.getElem_drop]
    rw [List.length_drop] at j2
    have := h.2.2 (endB b n n + j) (by omega) (by omega)
    rw [List.getD_eq_getElem?_getD, List.getElem?_eq_getElem (by omega)] at this
    exact this.symm
  rw [hz]
  have : b.drop (endB b n n) = (b.drop (2 * n)).drop (endB b n n - 2 * n) := by rw [List.drop_drop, show 2 * n + (endB b n n - 2 * n) = endB b n n by omega]
  rw [this, List.append_assoc, List.take_append_drop, List.take_append_drop]

end Go.Proofs.YthnidlhcpelomaaDoor
