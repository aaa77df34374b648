import Derived.Test.YtiihnoohodklhaaDoorKit
namespace Go.Proofs.YtiihnoohodklhaaDoor

/-! The body of some cells, as data. -/
def flatTo (l : List ByteArray) (i : Nat) : List UInt8 := (l.take i).flatMap (fun c => c.data.toList)
def endL (l : List ByteArray) (i : Nat) : Nat := 2 * l.length + (flatTo l i).length
def sizeL (l : List ByteArray) : Nat := endL l l.length
def hi8 (e : Nat) : UInt8 := UInt8.ofNat (e / 256)
def lo8 (e : Nat) : UInt8 := UInt8.ofNat (e % 256)
def slotsTo (l : List ByteArray) : Nat → List UInt8
  | 0 => []
  | i + 1 => slotsTo l i ++ [hi8 (endL l (i + 1)), lo8 (endL l (i + 1))]
def layL (l : List ByteArray) : List UInt8 := slotsTo l l.length ++ flatTo l l.length ++ List.replicate (4072 - sizeL l) 0
/-- What the body holds when i cells are laid. -/
def bodyAt (l : List ByteArray) (i : Nat) : List UInt8 := slotsTo l i ++ List.replicate (2 * (l.length - i)) 0 ++ flatTo l i ++ List.replicate (4072 - endL l i) 0

theorem flatTo_zero (l : List ByteArray) : flatTo l 0 = [] := by simp [flatTo]
theorem flatTo_succ (l : List ByteArray) (i : Nat) (h : i < l.length) : flatTo l (i + 1) = flatTo l i ++ l[i].data.toList := by
  unfold flatTo
  rw [List.take_succ_eq_append_getElem h, List.flatMap_append]; simp
theorem endL_zero (l : List ByteArray) : endL l 0 = 2 * l.length := by simp [endL, flatTo_zero]
theorem endL_succ (l : List ByteArray) (i : Nat) (h : i < l.length) : endL l (i + 1) = endL l i + l[i].size := by
  unfold endL
  rw [flatTo_succ l i h, List.length_append, bsize]; omega
theorem endL_mono (l : List ByteArray) (i : Nat) : ∀ j, i ≤ j → j ≤ l.length → endL l i ≤ endL l j := by
  intro j hij
  induction j with
  | zero => intro _; have : i = 0 := by omega
            subst this; exact Nat.le_refl _
  | succ j ih =>
    intro hj
    by_cases h : i = j + 1
    · subst h; exact Nat.le_refl _
    · have h1 := ih (by omega) (by omega)
      have h2 := endL_succ l j (by omega)
      omega
theorem slotsTo_len (l : List ByteArray) (i : Nat) : (slotsTo l i).length = 2 * i := by
  induction i with
  | zero => rfl
  | succ i ih => simp [slotsTo, ih]; omega
theorem layL_len (l : List ByteArray) (h : sizeL l ≤ 4072) : (layL l).length = 4072 := by
  have e : sizeL l = 2 * l.length + (flatTo l l.length).length := rfl
  simp only [layL, List.length_append, List.length_replicate, slotsTo_len]
  omega
theorem bodyAt_zero (l : List ByteArray) (h : sizeL l ≤ 4072) : bodyAt l 0 = List.replicate 4072 0 := by
  have e : sizeL l = 2 * l.length + (flatTo l l.length).length := rfl
  unfold bodyAt
  rw [flatTo_zero, endL_zero, slotsTo, List.nil_append, List.append_nil, List.replicate_append_replicate]
  congr 1; omega
theorem bodyAt_all (l : List ByteArray) : bodyAt l l.length = layL l := by
  simp [bodyAt, layL, sizeL]
theorem endL_le {l : List ByteArray} (h : sizeL l ≤ 4072) {i : Nat} (hi : i ≤ l.length) : endL l i ≤ 4072 := Nat.le_trans (endL_mono l i l.length hi (Nat.le_refl _)) h
theorem endL_ge (l : List ByteArray) (i : Nat) : 2 * l.length ≤ endL l i := by unfold endL; omega
theorem bodyAt_len (l : List ByteArray) (i : Nat) (h : sizeL l ≤ 4072) (hi : i ≤ l.length) : (bodyAt l i).length = 4072 := by
  have := endL_le h hi
  have e : endL l i = 2 * l.length + (flatTo l i).length := rfl
  simp only [bodyAt, List.length_append, List.length_replicate, slotsTo_len]
  omega

theorem hi8_toNat (e : Nat) (h : e ≤ 4072) : (hi8 e).toNat = e / 256 := by
  simp [hi8]; omega
theorem lo8_toNat (e : Nat) : (lo8 e).toNat = e % 256 := by
  simp [lo8]

/-- The slot of a cell in a body. -/
def slotN (b : List UInt8) (i : Nat) : Nat := (b.getD (2 * i) 0).toNat * 256 + (b.getD (2 * i + 1) 0).toNat
def endB (b : List UInt8) (n : Nat) : Nat → Nat
  | 0 => 2 * n
  | i + 1 => slotN b i
/-- The body of n cells. -/
def OkR (b : List UInt8) (n : Nat) : Prop := (n ≤ 2036 ∧ b.length = 4072) ∧ (∀ i, i < n → endB b n i ≤ endB b n (i + 1) ∧ endB b n (i + 1) ≤ 4072) ∧ ∀ j, endB b n n ≤ j → j < 4072 → b.getD j 0 = 0
def cellB (b : List UInt8) (n i : Nat) : List UInt8 := (b.drop (endB b n i)).take (endB b n (i + 1) - endB b n i)
def cellsB (b : List UInt8) (n : Nat) : List ByteArray := (List.range n).map fun i => ⟨(cellB b n i).toArray⟩
theorem cellsB_len (b : List UInt8) (n : Nat) : (cellsB b n).length = n := by simp [cellsB]
theorem cellsB_get (b : List UInt8) (n i : Nat) (h : i < (cellsB b n).length) : (cellsB b n)[i].data.toList = cellB b n i := by simp [cellsB]

theorem slotsTo_get (l : List ByteArray) (n : Nat) : ∀ i, i < n → (slotsTo l n)[2 * i]? = some (hi8 (endL l (i + 1))) ∧ (slotsTo l n)[2 * i + 1]? = some (lo8 (endL l (i + 1))) := by
  induction n with
  | zero => intro i h; omega
  | succ n ih =>
    intro i h
    simp only [slotsTo]
    by_cases hi : i < n
    · have := ih i hi
      rw [List.getElem?_append_left (by rw [slotsTo_len]; omega), List.getElem?_append_left (by rw [slotsTo_len]; omega)]
      exact this
    · have : i = n := by omega
      subst this
      rw [List.getElem?_append_right (by rw [slotsTo_len]; omega), List.getElem?_append_right (by rw [slotsTo_len]; omega), slotsTo_len]
      simp
theorem slot_lay (l : List ByteArray) (h : sizeL l ≤ 4072) (i : Nat) (hi : i < l.length) : slotN (layL l) i = endL l (i + 1) := by
  have hg := slotsTo_get l l.length i hi
  have hl := slotsTo_len l l.length
  have h1 := endL_le h (show i + 1 ≤ l.length by omega)
  unfold slotN layL
  rw [List.getD_eq_getElem?_getD, List.getD_eq_getElem?_getD, List.append_assoc, List.getElem?_append_left (by omega), List.getElem?_append_left (by omega), hg.1, hg.2]
  simp only [Option.getD_some]
  rw [hi8_toNat _ h1, lo8_toNat]; omega
theorem endB_lay (l : List ByteArray) (h : sizeL l ≤ 4072) : ∀ i, i ≤ l.length → endB (layL l) l.length i = endL l i
  | 0, _ => by rw [endL_zero]; rfl
  | i + 1, hi => slot_lay l h i (by omega)
theorem flat_split (l : List ByteArray) (i : Nat) (h : i < l.length) : flatTo l l.length = flatTo l i ++ (l[i].data.toList ++ (l.drop (i + 1)).flatMap (fun c => c.data.toList)) := by
  unfold flatTo
  rw [List.take_of_length_le (Nat.le_refl _)]
  have hd : l.drop i = l[i] :: l.drop (i + 1) := List.drop_eq_getElem_cons h
  have hs : l.flatMap (fun c => c.data.toList) = (l.take i).flatMap (fun c => c.data.toList) ++ (l.drop i).flatMap (fun c => c.data.toList) := by rw [← List.flatMap_append, List.take_append_drop]
  rw [hs, hd, List.flatMap_cons]
theorem lay_ok (l : List ByteArray) (h : sizeL l ≤ 4072) : OkR (layL l) l.length := by
  have e : sizeL l = 2 * l.length + (flatTo l l.length).length := rfl
  refine ⟨⟨by omega, layL_len l h⟩, fun i hi => ?_, fun j hj h' => ?_⟩
  · rw [endB_lay l h i (by omega), endB_lay l h (i + 1) (by omega)]
    exact ⟨endL_mono l i (i + 1) (by omega) (by omega), endL_le h (by omega)⟩
  · rw [endB_lay l h _ (Nat.le_refl _)] at hj
    have hj' : sizeL l ≤ j := hj
    unfold layL
    rw [List.getD_eq_getElem?_getD, List.getElem?_append_right (by rw [List.length_append, slotsTo_len]; omega)]
    rw [List.getElem?_replicate]
    split <;> rfl
theorem lay_cell (l : List ByteArray) (h : sizeL l ≤ 4072) (i : Nat) (hi : i < l.length) : cellB (layL l) l.length i = l[i].data.toList := by
  unfold cellB
  rw [endB_lay l h i (by omega), endB_lay l h (i + 1) (by omega), endL_succ l i hi]
  unfold layL
  rw [flat_split l i hi, ← List.append_assoc, List.append_assoc (slotsTo l l.length ++ flatTo l i)]
  have e : endL l i = (slotsTo l l.length ++ flatTo l i).length := by rw [List.length_append, slotsTo_len]; rfl
  rw [List.drop_append_of_le_length (by omega), e, List.drop_length, List.nil_append, List.append_assoc]
  rw [List.take_append_of_le_length (by rw [bsize]; omega), List.take_of_length_le (by rw [bsize]; omega)]
theorem cells_lay (l : List ByteArray) (h : sizeL l ≤ 4072) : cellsB (layL l) l.length = l := by
  refine List.ext_getElem (cellsB_len _ _) (fun i h1 h2 => ?_)
  have := cellsB_get (layL l) l.length i h1
  rw [lay_cell l h i h2] at this
  have : (cellsB (layL l) l.length)[i].data = l[i].data := Array.toList_inj.1 this
  exact congrArg ByteArray.mk this

theorem endB_mono {b : List UInt8} {n : Nat} (h : OkR b n) (i : Nat) : ∀ j, i ≤ j → j ≤ n → endB b n i ≤ endB b n j := by
  intro j hij
  induction j with
  | zero => intro _; have : i = 0 := by omega
            subst this; exact Nat.le_refl _
  | succ j ih =>
    intro hj
    by_cases hh : i = j + 1
    · subst hh; exact Nat.le_refl _
    · have h1 := ih (by omega) (by omega)
      have h2 := (h.2.1 j (by omega)).1
      omega
theorem endB_le {b : List UInt8} {n : Nat} (h : OkR b n) : ∀ i, i ≤ n → endB b n i ≤ 4072
  | 0, _ => by have := h.1.1; simp only [endB]; omega
  | i + 1, hi => (h.2.1 i (by omega)).2
theorem cellB_len {b : List UInt8} {n : Nat} (h : OkR b n) (i : Nat) (hi : i < n) : (cellB b n i).length = endB b n (i + 1) - endB b n i := by
  have h1 := endB_le h (i + 1) (by omega)
  unfold cellB
  rw [List.length_take, List.length_drop, h.1.2]; omega
theorem flat_cells {b : List UInt8} {n : Nat} (h : OkR b n) : ∀ i, i ≤ n → flatTo (cellsB b n) i = (b.drop (2 * n)).take (endB b n i - 2 * n)
  | 0, _ => by simp [flatTo_zero, endB]
  | i + 1, hi => by
    have h0 := endB_mono h 0 i (by omega) (by omega)
    have h1 := endB_mono h i (i + 1) (by omega) (by omega)
    have e0 : endB b n 0 = 2 * n := rfl
    rw [flatTo_succ _ i (by rw [cellsB_len]; omega), cellsB_get, flat_cells h i (by omega)]
    unfold cellB
    rw [show endB b n (i + 1) - 2 * n = (endB b n i - 2 * n) + (endB b n (i + 1) - endB b n i) by omega, List.take_add, List.drop_drop, show 2 * n + (endB b n i - 2 * n) = endB b n i by omega]
theorem end_cells {b : List UInt8} {n : Nat} (h : OkR b n) (i : Nat) (hi : i ≤ n) : endL (cellsB b n) i = endB b n i := by
  have h0 := endB_mono h 0 i (by omega) hi
  have e0 : endB b n 0 = 2 * n := rfl
  have h1 := endB_le h i hi
  unfold endL
  rw [flat_cells h i hi, cellsB_len, List.length_take, List.length_drop, h.1.2]; omega
theorem slots_cells {b : List UInt8} {n : Nat} (h : OkR b n) : ∀ i, i ≤ n → slotsTo (cellsB b n) i = b.take (2 * i)
  | 0, _ => by simp [slotsTo]
  | i + 1, hi => by
    have hl := h.1.2
    have hn := h.1.1
    simp only [slotsTo]
    rw [slots_cells h i (by omega), end_cells h (i + 1) hi]
    have a1 : 2 * i < b.length := by omega
    have a2 : 2 * i + 1 < b.length := by omega
    have e : endB b n (i + 1) = b[2 * i].toNat * 256 + b[2 * i + 1].toNat := by
      simp only [endB, slotN, List.getD_eq_getElem?_getD, List.getElem?_eq_getElem a1, List.getElem?_eq_getElem a2, Option.getD_some]
    have x1 := b[2 * i].toNat_lt
    have x2 := b[2 * i + 1].toNat_lt
    have y1 : hi8 (endB b n (i + 1)) = b[2 * i] := by
      rw [e]; unfold hi8; rw [show (b[2 * i].toNat * 256 + b[2 * i + 1].toNat) / 256 = b[2 * i].toNat by omega]; simp
    have y2 : lo8 (endB b n (i + 1)) = b[2 * i + 1] := by
      rw [e]; unfold lo8; rw [show (b[2 * i].toNat * 256 + b[2 * i + 1].toNat) % 256 = b[2 * i + 1].toNat by omega]; simp
    rw [y1, y2, show 2 * (i + 1) = 2 * i + 1 + 1 by omega, List.take_succ_eq_append_getElem a2, List.take_succ_eq_append_getElem a1, List.append_assoc]
    rfl
theorem size_cells {b : List UInt8} {n : Nat} (h : OkR b n) : sizeL (cellsB b n) = endB b n n := by
  unfold sizeL; rw [cellsB_len]; exact end_cells h n (Nat.le_refl _)
theorem lay_cells {b : List UInt8} {n : Nat} (h : OkR b n) : layL (cellsB b n) = b := by
  have h0 := endB_mono h 0 n (by omega) (Nat.le_refl _)
  have e0 : endB b n 0 = 2 * n := rfl
  have h1 := endB_le h n (Nat.le_refl _)
  have hl := h.1.2
  unfold layL
  rw [size_cells h, cellsB_len, slots_cells h n (Nat.le_refl _), flat_cells h n (Nat.le_refl _)]
  have hz : List.replicate (4072 - endB b n n) (0 : UInt8) = b.drop (endB b n n) := by
    refine List.ext_getElem (by simp [hl]) (fun j j1 j2 => ?_)
    rw [List.getElem_replicate, List.getElem_drop]
    rw [List.length_drop] at j2
    have := h.2.2 (endB b n n + j) (by omega) (by omega)
    rw [List.getD_eq_getElem?_getD, List.getElem?_eq_getElem (by omega)] at this
    exact this.symm
  rw [hz]
  have : b.drop (endB b n n) = (b.drop (2 * n)).drop (endB b n n - 2 * n) := by rw [List.drop_drop, show 2 * n + (endB b n n - 2 * n) = endB b n n by omega]
  rw [this, List.append_assoc, List.take_append_drop, List.take_append_drop]

end Go.Proofs.YtiihnoohodklhaaDoor

namespace Go.Proofs.YtiihnoohodklhaaDoor

/-! Pairs, as data. -/
abbrev Pr := ByteArray × ByteArray
def szP (p : Pr) : Nat := 5 + p.1.size + p.2.size
def szL (l : List Pr) : Nat := (l.map szP).sum
def mayP (p : Pr) : Bool := decide (1 ≤ p.1.size ∧ p.1.size ≤ 255 ∧ p.2.size ≤ 700)
theorem may_parts' {p : Pr} (h : mayP p = true) : 1 ≤ p.1.size ∧ p.1.size ≤ 255 ∧ p.2.size ≤ 700 := by simpa [mayP] using h
def ltK (a b : ByteArray) : Bool := Op.bytesLess a.toList b.toList
/-- Each key is below the next one. -/
def Rise (l : List Pr) : Prop := ∀ i (h : i + 1 < l.length), ltK l[i].1 l[i + 1].1 = true

theorem szL_nil : szL [] = 0 := rfl
theorem szL_cons (p : Pr) (l : List Pr) : szL (p :: l) = szP p + szL l := by simp [szL]
theorem szL_append (a b : List Pr) : szL (a ++ b) = szL a + szL b := by simp [szL]
theorem szL_take_succ (l : List Pr) (k : Nat) (h : k < l.length) : szL (l.take (k + 1)) = szL (l.take k) + szP l[k] := by
  rw [List.take_succ_eq_append_getElem h, szL_append]; simp [szL]
theorem szL_take_le (l : List Pr) (k : Nat) : szL (l.take k) ≤ szL l := by
  have h : szL l = szL (l.take k) + szL (l.drop k) := by rw [← szL_append, List.take_append_drop]
  omega
theorem szL_len (l : List Pr) : 5 * l.length ≤ szL l := by
  induction l with
  | nil => simp
  | cons p l ih => rw [szL_cons, List.length_cons]; unfold szP; omega

theorem bless_irrefl (x : List UInt8) : Op.bytesLess x x = false := by
  induction x with
  | nil => rfl
  | cons a x ih => simp [Op.bytesLess, ih]
theorem bless_trans : ∀ (x y z : List UInt8), Op.bytesLess x y = true → Op.bytesLess y z = true → Op.bytesLess x z = true
  | _, [], _, h, _ => by simp [Op.bytesLess] at h
  | _, _ :: _, [], _, h => by simp [Op.bytesLess] at h
  | [], _ :: _, _ :: _, _, _ => by simp [Op.bytesLess]
  | a :: x, b :: y, c :: z, h1, h2 => by
    simp only [Op.bytesLess, Bool.or_eq_true, decide_eq_true_eq, Bool.and_eq_true, beq_iff_eq] at *
    rcases h1 with h1 | ⟨rfl, h1⟩
    · rcases h2 with h2 | ⟨rfl, h2⟩
      · exact .inl (UInt8.lt_trans h1 h2)
      · exact .inl h1
    · rcases h2 with h2 | ⟨rfl, h2⟩
      · exact .inl h2
      · exact .inr ⟨rfl, bless_trans x y z h1 h2⟩
theorem bless_total : ∀ (x y : List UInt8), Op.bytesLess x y = false → Op.bytesLess y x = false → x = y
  | [], [], _, _ => rfl
  | [], _ :: _, h, _ => by simp [Op.bytesLess] at h
  | _ :: _, [], _, h => by simp [Op.bytesLess] at h
  | a :: x, b :: y, h1, h2 => by
    simp only [Op.bytesLess, Bool.or_eq_false_iff, decide_eq_false_iff_not, Bool.and_eq_false_imp, beq_iff_eq] at *
    have hab : a = b := by
      have := UInt8.not_lt.1 h1.1
      have := UInt8.not_lt.1 h2.1
      exact UInt8.le_antisymm ‹_› ‹_›
    subst hab
    rw [bless_total x y (h1.2 rfl) (h2.2 rfl)]
theorem ltK_irrefl (a : ByteArray) : ltK a a = false := bless_irrefl _
theorem ltK_trans {a b c : ByteArray} (h1 : ltK a b = true) (h2 : ltK b c = true) : ltK a c = true := bless_trans _ _ _ h1 h2
theorem ba_ext' {x y : ByteArray} (h : x.data.toList = y.data.toList) : x = y := by
  have : x.data = y.data := Array.toList_inj.1 h
  exact congrArg ByteArray.mk this
theorem ltK_total {a b : ByteArray} (h1 : ltK a b = false) (h2 : ltK b a = false) : a = b := by
  have := bless_total _ _ h1 h2
  rw [ByteArray.toList_eq, ByteArray.toList_eq] at this
  exact ba_ext' this
theorem ltK_asymm {a b : ByteArray} (h : ltK a b = true) : ltK b a = false := by
  cases h' : ltK b a
  · rfl
  · have := ltK_trans h h'; rw [ltK_irrefl] at this; cases this

theorem Rise.lt {l : List Pr} (h : Rise l) (i : Nat) : ∀ j (hj : j < l.length) (hij : i < j), ltK (l[i]'(by omega)).1 l[j].1 = true := by
  intro j
  induction j with
  | zero => intro _ h; omega
  | succ j ih =>
    intro hj hij
    by_cases he : i = j
    · subst he; exact h i hj
    · exact ltK_trans (ih (by omega) (by omega)) (h j hj)
theorem rise_nil : Rise [] := fun i h => by simp at h
theorem Rise.take {l : List Pr} (h : Rise l) (k : Nat) : Rise (l.take k) := fun i hi => by
  rw [List.length_take] at hi
  simp only [List.getElem_take]
  exact h i (by omega)
theorem Rise.drop {l : List Pr} (h : Rise l) (k : Nat) : Rise (l.drop k) := fun i hi => by
  rw [List.length_drop] at hi
  simp only [List.getElem_drop]
  exact h (k + i) (by omega)
theorem rise_snoc {l : List Pr} (p : Pr) : Rise (l ++ [p]) ↔ Rise l ∧ ∀ (h : 0 < l.length), ltK (l[l.length - 1]'(by omega)).1 p.1 = true := by
  constructor
  · intro h
    refine ⟨fun i hi => ?_, fun h0 => ?_⟩
    · have := h i (by simp; omega)
      rwa [List.getElem_append_left (by omega), List.getElem_append_left (by omega)] at this
    · have := h (l.length - 1) (by simp; omega)
      rw [List.getElem_append_left (by omega)] at this
      have e : (l ++ [p])[l.length - 1 + 1]'(by simp; omega) = p := by
        simp only [show l.length - 1 + 1 = l.length by omega]; simp
      rwa [e] at this
  · rintro ⟨h1, h2⟩ i hi
    simp only [List.length_append, List.length_singleton] at hi
    by_cases he : i + 1 < l.length
    · rw [List.getElem_append_left (by omega), List.getElem_append_left (by omega)]
      exact h1 i he
    · have e : i = l.length - 1 := by omega
      have h0 : 0 < l.length := by omega
      rw [List.getElem_append_left (by omega)]
      have e2 : (l ++ [p])[i + 1]'(by simp; omega) = p := by
        simp only [show i + 1 = l.length by omega]; simp
      rw [e2]
      simp only [e]
      exact h2 h0
instance (l : List Pr) : Decidable (Rise l) := decidable_of_iff (∀ i : Fin l.length, ∀ h : i.1 + 1 < l.length, ltK l[i.1].1 l[i.1 + 1].1 = true) ⟨fun h i hi => h ⟨i, by omega⟩ hi, fun h i hi => h i.1 hi⟩

/-- Which refusal Check answers: the sentinel's place in the list, and none. -/
def chk (l : List Pr) (root : Bool) : Option Nat :=
  if l.all mayP = false then some 0
  else if ¬ Rise l then some 11
  else if 4072 < szL l then some 2
  else if l = [] ∨ root = false ∧ szL l < 1556 then some 3
  else none
theorem chk_none {l : List Pr} {root : Bool} (h : chk l root = none) : (∀ p ∈ l, mayP p = true) ∧ Rise l ∧ szL l ≤ 4072 ∧ l ≠ [] ∧ (root = false → 1556 ≤ szL l) := by
  unfold chk at h
  split at h
  · cases h
  · rename_i h1
    split at h
    · cases h
    · rename_i h2
      split at h
      · cases h
      · rename_i h3
        split at h
        · cases h
        · rename_i h4
          refine ⟨fun p hp => ?_, Classical.not_not.1 h2, by omega, fun e => h4 (.inl e), fun hr => ?_⟩
          · have : l.all mayP = true := by cases h : l.all mayP <;> simp_all
            exact List.all_eq_true.1 this p hp
          · rcases Nat.lt_or_ge (szL l) 1556 with h' | h'
            · exact absurd (.inr ⟨hr, h'⟩) h4
            · exact h'
theorem chk_of {l : List Pr} {root : Bool} (h1 : ∀ p ∈ l, mayP p = true) (h2 : Rise l) (h3 : szL l ≤ 4072) (h4 : l ≠ []) (h5 : root = false → 1556 ≤ szL l) : chk l root = none := by
  unfold chk
  rw [if_neg (by rw [List.all_eq_true.2 h1]; simp), if_neg (by simpa using h2), if_neg (by omega), if_neg]
  rintro (h | ⟨h, h'⟩)
  · exact h4 h
  · have := h5 h; omega

/-- The place of the first pair whose key is at or above. -/
def findN (l : List Pr) (key : ByteArray) : Nat := l.findIdx (fun p => !ltK p.1 key)
def foundB (l : List Pr) (key : ByteArray) : Bool := match l[findN l key]? with | some p => decide (p.1 = key) | none => false
def behindN (l : List Pr) (key : ByteArray) : Nat := if foundB l key then findN l key + 1 else findN l key
def setL (l : List Pr) (key value : ByteArray) : List Pr := l.take (findN l key) ++ (key, value) :: l.drop (behindN l key)
def dropL (l : List Pr) (key : ByteArray) : List Pr := l.take (findN l key) ++ l.drop (behindN l key)
theorem findN_le (l : List Pr) (key : ByteArray) : findN l key ≤ l.length := List.findIdx_le_length
theorem findN_below (l : List Pr) (key : ByteArray) (j : Nat) (h : j < findN l key) (hj : j < l.length) : ltK l[j].1 key = true := by
  have := List.not_of_lt_findIdx h
  simpa using this
theorem findN_at (l : List Pr) (key : ByteArray) (h : findN l key < l.length) : ltK l[findN l key].1 key = false := by
  have := List.findIdx_getElem (xs := l) (p := fun q : Pr => !ltK q.1 key) (w := h)
  simp only [Bool.not_eq_true'] at this
  exact this
theorem findN_eq {l : List Pr} {key : ByteArray} {k : Nat} (hk : k < l.length) (h1 : ∀ j (hj : j < k), ltK (l[j]'(by omega)).1 key = true) (h2 : ltK l[k].1 key = false) : findN l key = k := by
  rcases Nat.lt_trichotomy (findN l key) k with h | h | h
  · have := findN_at l key (by omega)
    rw [h1 _ h] at this; cases this
  · exact h
  · have := findN_below l key k h hk
    rw [h2] at this; cases this
theorem findN_none {l : List Pr} {key : ByteArray} (h1 : ∀ j (hj : j < l.length), ltK l[j].1 key = true) : findN l key = l.length := by
  rcases Nat.lt_or_ge (findN l key) l.length with h | h
  · have := findN_at l key h
    rw [h1 _ h] at this; cases this
  · have := findN_le l key; omega
theorem foundB_at {l : List Pr} {key : ByteArray} (h : findN l key < l.length) : foundB l key = decide (l[findN l key].1 = key) := by
  unfold foundB; rw [List.getElem?_eq_getElem h]
theorem foundB_none {l : List Pr} {key : ByteArray} (h : ¬ findN l key < l.length) : foundB l key = false := by
  unfold foundB; rw [List.getElem?_eq_none (by omega)]
theorem foundB_lt {l : List Pr} {key : ByteArray} (h : foundB l key = true) : findN l key < l.length := by
  rcases Nat.lt_or_ge (findN l key) l.length with h' | h'
  · exact h'
  · rw [foundB_none (by omega)] at h; cases h
theorem behindN_le (l : List Pr) (key : ByteArray) : behindN l key ≤ l.length := by
  unfold behindN
  split
  · rename_i h; exact foundB_lt h
  · exact findN_le _ _
theorem behindN_ge (l : List Pr) (key : ByteArray) : findN l key ≤ behindN l key := by
  unfold behindN; split <;> omega

end Go.Proofs.YtiihnoohodklhaaDoor

namespace Go.Proofs.YtiihnoohodklhaaDoor

/-! Lists by keys, as data. -/
abbrev KL (α : Type) := List (ByteArray × α)
theorem ltK_ne {a b : ByteArray} (h : ltK a b = true) : a ≠ b := fun e => by subst e; rw [ltK_irrefl] at h; cases h

/-- Each key is above all ahead of it. -/
def KR {α : Type} (l : KL α) : Prop := l.Pairwise (fun x y => ltK x.1 y.1 = true)
def riseB {α : Type} : KL α → Bool
  | [] => true
  | [_] => true
  | x :: y :: r => ltK x.1 y.1 && riseB (y :: r)
theorem riseB_iff {α : Type} : ∀ l : KL α, riseB l = true ↔ KR l
  | [] => by simp [riseB, KR]
  | [_] => by simp [riseB, KR]
  | x :: y :: r => by
    have ih := riseB_iff (y :: r)
    simp only [riseB, Bool.and_eq_true]
    rw [ih]
    unfold KR
    constructor
    · rintro ⟨h1, h2⟩
      refine List.pairwise_cons.2 ⟨fun z hz => ?_, h2⟩
      rcases List.mem_cons.1 hz with rfl | hz
      · exact h1
      · exact ltK_trans h1 ((List.pairwise_cons.1 h2).1 z hz)
    · intro h
      exact ⟨(List.pairwise_cons.1 h).1 y (by simp), (List.pairwise_cons.1 h).2⟩
theorem riseB_idx {α : Type} : ∀ l : KL α, riseB l = true ↔ ∀ i (h : i + 1 < l.length), ltK l[i].1 l[i + 1].1 = true
  | [] => by simp [riseB]
  | [_] => by simp [riseB]
  | x :: y :: r => by
    have ih := riseB_idx (y :: r)
    simp only [riseB, Bool.and_eq_true]
    rw [ih]
    constructor
    · rintro ⟨h1, h2⟩ i hi
      cases i with
      | zero => exact h1
      | succ i => exact h2 i (by simpa using hi)
    · intro h
      exact ⟨h 0 (by simp), fun i hi => h (i + 1) (by simpa using hi)⟩

/-- Side by side. -/
def side {α β : Type} : KL α → KL β → KL (Option α × Option β)
  | [], [] => []
  | x :: r, [] => (x.1, some x.2, none) :: side r []
  | [], y :: s => (y.1, none, some y.2) :: side [] s
  | x :: r, y :: s => if ltK x.1 y.1 then (x.1, some x.2, none) :: side r (y :: s) else if ltK y.1 x.1 then (y.1, none, some y.2) :: side (x :: r) s else (x.1, some x.2, some y.2) :: side r s
termination_by r s => r.length + s.length

/-- What a key has. -/
def lk {α : Type} : KL α → ByteArray → Option α
  | [], _ => none
  | x :: r, k => if x.1 = k then some x.2 else lk r k
theorem lk_below {α : Type} : ∀ (l : KL α) (k : ByteArray), (∀ x ∈ l, ltK k x.1 = true) → lk l k = none
  | [], _, _ => rfl
  | x :: r, k, h => by
    have h1 := h x (by simp)
    rw [lk, if_neg (fun e => ltK_ne h1 e.symm)]
    exact lk_below r k (fun y hy => h y (by simp [hy]))
theorem lk_mem {α : Type} : ∀ (l : KL α) (k : ByteArray) (a : α), lk l k = some a → (k, a) ∈ l
  | [], _, _, h => by cases h
  | x :: r, k, a, h => by
    rw [lk] at h
    split at h
    · rename_i e; cases h; subst e; simp
    · exact List.mem_cons_of_mem _ (lk_mem r k a h)
theorem lk_of_mem {α : Type} : ∀ (l : KL α) (k : ByteArray) (a : α), KR l → (k, a) ∈ l → lk l k = some a
  | x :: r, k, a, h, hm => by
    obtain ⟨h1, h2⟩ := List.pairwise_cons.1 h
    rcases List.mem_cons.1 hm with e | hm
    · subst e; simp [lk]
    · rw [lk, if_neg (ltK_ne (h1 _ hm))]
      exact lk_of_mem r k a h2 hm
theorem kr_tail {α : Type} {x : ByteArray × α} {r : KL α} (h : KR (x :: r)) : KR r := (List.pairwise_cons.1 h).2
theorem kr_head {α : Type} {x : ByteArray × α} {r : KL α} (h : KR (x :: r)) : ∀ y ∈ r, ltK x.1 y.1 = true := (List.pairwise_cons.1 h).1
/-- A list that rises is known by what its keys have. -/
theorem kr_ext {α : Type} : ∀ (l m : KL α), KR l → KR m → (∀ k, lk l k = lk m k) → l = m
  | [], [], _, _, _ => rfl
  | [], y :: s, _, _, h => by have := h y.1; simp [lk] at this
  | x :: r, [], _, _, h => by have := h x.1; simp [lk] at this
  | x :: r, y :: s, h1, h2, h => by
    have hxy : x = y := by
      have ex := h x.1
      have ey := h y.1
      simp only [lk, if_true] at ex ey
      by_cases e : y.1 = x.1
      · rw [if_pos e] at ex
        exact Prod.ext e.symm (Option.some.inj ex)
      · rw [if_neg e] at ex
        rw [if_neg (Ne.symm e)] at ey
        have m1 := kr_head h2 _ (lk_mem _ _ _ ex.symm)
        have m2 := kr_head h1 _ (lk_mem _ _ _ ey)
        have := ltK_asymm m1
        rw [m2] at this; cases this
    subst hxy
    congr 1
    refine kr_ext r s (kr_tail h1) (kr_tail h2) (fun k => ?_)
    by_cases e : x.1 = k
    · subst e
      rw [lk_below r x.1 (kr_head h1), lk_below s x.1 (kr_head h2)]
    · have := h k
      rw [lk, lk, if_neg e, if_neg e] at this
      exact this

theorem side_mem {α β : Type} (l : KL α) (m : KL β) : ∀ e ∈ side l m, (∃ x ∈ l, x.1 = e.1) ∨ (∃ y ∈ m, y.1 = e.1) := by
  fun_induction side l m with
  | case1 => simp
  | case2 x r ih =>
    intro e he
    rcases List.mem_cons.1 he with rfl | he
    · exact .inl ⟨x, by simp, rfl⟩
    · rcases ih e he with ⟨z, hz, h⟩ | ⟨z, hz, h⟩
      · exact .inl ⟨z, by simp [hz], h⟩
      · simp at hz
  | case3 y s ih =>
    intro e he
    rcases List.mem_cons.1 he with rfl | he
    · exact .inr ⟨y, by simp, rfl⟩
    · rcases ih e he with ⟨z, hz, h⟩ | ⟨z, hz, h⟩
      · simp at hz
      · exact .inr ⟨z, by simp [hz], h⟩
  | case4 x r y s h ih =>
    intro e he
    rcases List.mem_cons.1 he with rfl | he
    · exact .inl ⟨x, by simp, rfl⟩
    · rcases ih e he with ⟨z, hz, h⟩ | ⟨z, hz, h⟩
      · exact .inl ⟨z, by simp [hz], h⟩
      · exact .inr ⟨z, hz, h⟩
  | case5 x r y s h h' ih =>
    intro e he
    rcases List.mem_cons.1 he with rfl | he
    · exact .inr ⟨y, by simp, rfl⟩
    · rcases ih e he with ⟨z, hz, h⟩ | ⟨z, hz, h⟩
      · exact .inl ⟨z, hz, h⟩
      · exact .inr ⟨z, by simp [hz], h⟩
  | case6 x r y s h h' ih =>
    intro e he
    rcases List.mem_cons.1 he with rfl | he
    · exact .inl ⟨x, by simp, rfl⟩
    · rcases ih e he with ⟨z, hz, h⟩ | ⟨z, hz, h⟩
      · exact .inl ⟨z, by simp [hz], h⟩
      · exact .inr ⟨z, by simp [hz], h⟩
theorem side_kr {α β : Type} (l : KL α) (m : KL β) : KR l → KR m → KR (side l m) := by
  fun_induction side l m with
  | case1 => intro _ _; exact List.Pairwise.nil
  | case2 x r ih =>
    intro h1 h2
    refine List.pairwise_cons.2 ⟨fun e he => ?_, ih (kr_tail h1) h2⟩
    rcases side_mem _ _ e he with ⟨z, hz, h⟩ | ⟨z, hz, h⟩
    · rw [← h]; exact kr_head h1 z hz
    · simp at hz
  | case3 y s ih =>
    intro h1 h2
    refine List.pairwise_cons.2 ⟨fun e he => ?_, ih h1 (kr_tail h2)⟩
    rcases side_mem _ _ e he with ⟨z, hz, h⟩ | ⟨z, hz, h⟩
    · simp at hz
    · rw [← h]; exact kr_head h2 z hz
  | case4 x r y s hxy ih =>
    intro h1 h2
    refine List.pairwise_cons.2 ⟨fun e he => ?_, ih (kr_tail h1) h2⟩
    rcases side_mem _ _ e he with ⟨z, hz, h⟩ | ⟨z, hz, h⟩
    · rw [← h]; exact kr_head h1 z hz
    · rw [← h]
      rcases List.mem_cons.1 hz with rfl | hz
      · exact hxy
      · exact ltK_trans hxy (kr_head h2 z hz)
  | case5 x r y s hxy hyx ih =>
    intro h1 h2
    refine List.pairwise_cons.2 ⟨fun e he => ?_, ih h1 (kr_tail h2)⟩
    rcases side_mem _ _ e he with ⟨z, hz, h⟩ | ⟨z, hz, h⟩
    · rw [← h]
      rcases List.mem_cons.1 hz with rfl | hz
      · exact hyx
      · exact ltK_trans hyx (kr_head h1 z hz)
    · rw [← h]; exact kr_head h2 z hz
  | case6 x r y s hxy hyx ih =>
    intro h1 h2
    have e0 : x.1 = y.1 := ltK_total (by simpa using hxy) (by simpa using hyx)
    refine List.pairwise_cons.2 ⟨fun e he => ?_, ih (kr_tail h1) (kr_tail h2)⟩
    rcases side_mem _ _ e he with ⟨z, hz, h⟩ | ⟨z, hz, h⟩
    · rw [← h]; exact kr_head h1 z hz
    · rw [← h]; show ltK x.1 z.1 = true; rw [e0]; exact kr_head h2 z hz
/-- Both, where one of them is there. -/
def both {α β : Type} : Option α → Option β → Option (Option α × Option β)
  | none, none => none
  | a, b => some (a, b)
theorem side_lk {α β : Type} (l : KL α) (m : KL β) : KR l → KR m → ∀ k, lk (side l m) k = both (lk l k) (lk m k) := by
  fun_induction side l m with
  | case1 => intro _ _ k; rfl
  | case2 x r ih =>
    intro h1 h2 k
    have := ih (kr_tail h1) h2 k
    by_cases e : x.1 = k
    · simp [lk, e, both]
    · simp only [lk, e, if_false]; rw [this]; simp [lk]
  | case3 y s ih =>
    intro h1 h2 k
    have := ih h1 (kr_tail h2) k
    by_cases e : y.1 = k
    · simp [lk, e, both]
    · simp only [lk, e, if_false]; rw [this]; simp [lk]
  | case4 x r y s hxy ih =>
    intro h1 h2 k
    have := ih (kr_tail h1) h2 k
    by_cases e : x.1 = k
    · subst e
      have hb : lk (y :: s) x.1 = none := lk_below _ _ (fun z hz => by
        rcases List.mem_cons.1 hz with rfl | hz
        · exact hxy
        · exact ltK_trans hxy (kr_head h2 z hz))
      rw [hb]; simp [lk, both]
    · rw [lk, if_neg e, this]; simp [lk, e]
  | case5 x r y s hxy hyx ih =>
    intro h1 h2 k
    have := ih h1 (kr_tail h2) k
    by_cases e : y.1 = k
    · subst e
      have hb : lk (x :: r) y.1 = none := lk_below _ _ (fun z hz => by
        rcases List.mem_cons.1 hz with rfl | hz
        · exact hyx
        · exact ltK_trans hyx (kr_head h1 z hz))
      rw [hb]; simp [lk, both]
    · rw [lk, if_neg e, this]; simp [lk, e]
  | case6 x r y s hxy hyx ih =>
    intro h1 h2 k
    have e0 : x.1 = y.1 := ltK_total (by simpa using hxy) (by simpa using hyx)
    have := ih (kr_tail h1) (kr_tail h2) k
    by_cases e : x.1 = k
    · have e' : y.1 = k := e0.symm.trans e
      simp [lk, e, e', both]
    · have e' : ¬ y.1 = k := fun h => e (e0.trans h)
      rw [lk, if_neg e, this]; simp [lk, e, e']

/-- What f makes of each, or leaves out. -/
def fm {γ δ : Type} (f : γ → Option δ) (l : KL γ) : KL δ := l.filterMap fun e => (f e.2).map fun d => (e.1, d)
theorem fm_nil {γ δ : Type} (f : γ → Option δ) : fm f [] = [] := rfl
theorem fm_cons {γ δ : Type} (f : γ → Option δ) (e : ByteArray × γ) (l : KL γ) : fm f (e :: l) = (match f e.2 with | some d => [(e.1, d)] | none => []) ++ fm f l := by
  unfold fm
  rw [List.filterMap_cons]
  cases f e.2 <;> rfl
theorem fm_mem {γ δ : Type} (f : γ → Option δ) (l : KL γ) : ∀ d ∈ fm f l, ∃ e ∈ l, e.1 = d.1 := by
  intro d hd
  obtain ⟨e, he, h⟩ := List.mem_filterMap.1 hd
  cases hf : f e.2 with
  | none => rw [hf] at h; cases h
  | some x => rw [hf] at h; cases h; exact ⟨e, he, rfl⟩
theorem fm_kr {γ δ : Type} (f : γ → Option δ) : ∀ l : KL γ, KR l → KR (fm f l)
  | [], _ => List.Pairwise.nil
  | e :: l, h => by
    rw [fm_cons]
    cases hf : f e.2 with
    | none => simpa using fm_kr f l (kr_tail h)
    | some d =>
      refine List.pairwise_cons.2 ⟨fun z hz => ?_, fm_kr f l (kr_tail h)⟩
      obtain ⟨y, hy, h'⟩ := fm_mem f l z (by simpa using hz)
      rw [← h']; exact kr_head h y hy
theorem fm_lk {γ δ : Type} (f : γ → Option δ) : ∀ l : KL γ, KR l → ∀ k, lk (fm f l) k = (lk l k).bind f
  | [], _, _ => rfl
  | e :: l, h, k => by
    have ih := fm_lk f l (kr_tail h) k
    rw [fm_cons]
    by_cases he : e.1 = k
    · subst he
      cases hf : f e.2 with
      | none =>
        have : lk (fm f l) e.1 = none := by rw [ih, lk_below l e.1 (kr_head h)]; rfl
        simp [lk, this, hf]
      | some d => simp [lk, hf]
    · cases hf : f e.2 with
      | none => simp [lk, he, ih]
      | some d => simp [lk, he, ih]

/-! Changes. -/
structure ChV where
  had : Bool
  has : Bool
  old : ByteArray
  new : ByteArray
deriving DecidableEq
abbrev Ch := ByteArray × ChV
abbrev nilB : ByteArray := ⟨#[]⟩
def idleV (c : ChV) : Bool := c.had == c.has && decide (c.old = c.new)
def actV (c : ChV) : Option ChV := if idleV c then none else some c
def chgV (o n : Option ByteArray) : ChV := ⟨o.isSome, n.isSome, o.getD nilB, n.getD nilB⟩
def listsD (a b : List Pr) : List Ch := fm (fun e => actV (chgV e.1 e.2)) (side a b)
def invV (c : ChV) : ChV := ⟨c.has, c.had, c.new, c.old⟩
def invertD (l : List Ch) : List Ch := l.map fun c => (c.1, invV c.2)
def okJ (e : Option ChV × Option ChV) : Bool := match e with
  | (some c, some d) => d.had == c.has && decide (d.old = c.new)
  | _ => true
def joinV (e : Option ChV × Option ChV) : ChV := match e with
  | (some c, some d) => ⟨c.had, d.has, c.old, d.new⟩
  | (some c, none) => c
  | (none, some d) => d
  | (none, none) => ⟨false, false, nilB, nilB⟩
def composeD (a b : List Ch) : Option (List Ch) := if (side a b).all (fun e => okJ e.2) then some (fm (fun e => actV (joinV e)) (side a b)) else none
def okM (e : Option ByteArray × Option ChV) : Bool := match e with
  | (p, some c) => c.had == p.isSome && decide (c.old = p.getD nilB)
  | _ => true
def madeV (e : Option ByteArray × Option ChV) : Option ByteArray := match e with
  | (_, some c) => if c.has then some c.new else none
  | (p, none) => p
def patchD (a : List Pr) (l : List Ch) : Option (List Pr) := if (side a l).all (fun e => okM e.2) then some (fm madeV (side a l)) else none

end Go.Proofs.YtiihnoohodklhaaDoor
