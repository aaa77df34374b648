import Derived.Test.YthnidlhcpelomaaDoorCMath
namespace Go.Proofs.YthnidlhcpelomaaDoor

/-! Pairs, as data. -/
abbrev Pr := ByteArray × ByteArray
def szP (p : Pr) : Nat := 5 + p.1.size + p.2.size
def szL (l : List Pr) : Nat := (l.map szP).sum
def mayP (p : Pr) : Bool := decide (1 ≤ p.1.size ∧ p.1.size ≤ 255 ∧ p.2.size ≤ 700)
theorem may_parts' {p : Pr} (h : mayP p = true) : 1 ≤ p.1.size ∧ p.1.size ≤ 255 ∧ p.2.size ≤ 700 := by simpa [mayP] using h
def ltK (a b : ByteArray) : Bool := Op.bytesLess a.toList b.toList
/-- Each key is below the next one. -/
def Rise (l : List Pr) : Prop := ∀ i (h : i + 1 < l.length), ltK l[i].1 l[i + 1].1 = true

theorem szL_nil : szL [] = 0 := rfl
theorem szL_cons (p : Pr) (l : List Pr) : szL (p :: l) = szP p + szL l := by simp [szL]
theorem szL_append (a b : List Pr) : szL (a ++ b) = szL a + szL b := by simp [szL]
theorem szL_take_succ (l : List Pr) (k : Nat) (h : k < l.length) : szL (l.take (k + 1)) = szL (l.take k) + szP l[k] := by
  rw [List.take_succ_eq_append_getElem h, szL_append]; simp [szL]
theorem szL_take_le (l : List Pr) (k : Nat) : szL (l.take k) ≤ szL l := by
  have h : szL l = szL (l.take k) + szL (l.drop k) := by rw [← szL_append, List.take_append_drop]
  omega
theorem szL_len (l : List Pr) : 5 * l.length ≤ szL l := by
  induction l with
  | nil => simp
  | cons p l ih => rw [szL_cons, List.length_cons]; unfold szP; omega

theorem bless_irrefl (x : List UInt8) : Op.bytesLess x x = false := by
  induction x with
  | nil => rfl
  | cons a x ih => simp [Op.bytesLess, ih]
theorem bless_trans : ∀ (x y z : List UInt8), Op.bytesLess x y = true → Op.bytesLess y z = true → Op.bytesLess x z = true
  | _, [], _, h, _ => by simp [Op.bytesLess] at h
  | _, _ :: _, [], _, h => by simp [Op.bytesLess] at h
  | [], _ :: _, _ :: _, _, _ => by simp [Op.bytesLess]
  | a :: x, b :: y, c :: z, h1, h2 => by
    simp only [Op.bytesLess, Bool.or_eq_true, decide_eq_true_eq, Bool.and_eq_true, beq_iff_eq] at *
    rcases h1 with h1 | ⟨rfl, h1⟩
    · rcases h2 with h2 | ⟨rfl, h2⟩
      · exact .inl (UInt8.lt_trans h1 h2)
      · exact .inl h1
    · rcases h2 with h2 | ⟨rfl, h2⟩
      · exact .inl h2
      · exact .inr ⟨rfl, bless_trans x y z h1 h2⟩
theorem bless_total : ∀ (x y : List UInt8), Op.bytesLess x y = false → Op.bytesLess y x = false → x = y
  | [], [], _, _ => rfl
  | [], _ :: _, h, _ => by simp [Op.bytesLess] at h
  | _ :: _, [], _, h => by simp [Op.bytesLess] at h
  | a :: x, b :: y, h1, h2 => by
    simp only [Op.bytesLess, Bool.or_eq_false_iff, decide_eq_false_iff_not, Bool.and_eq_false_imp, beq_iff_eq] at *
    have hab : a = b := by
      have := UInt8.not_lt.1 h1.1
      have := UInt8.not_lt.1 h2.1
      exact UInt8.le_antisymm ‹_› ‹_›
    subst hab
    rw [bless_total x y (h1.2 rfl) (h2.2 rfl)]
theorem ltK_irrefl (a : ByteArray) : ltK a a = false := bless_irrefl _
theorem ltK_trans {a b c : ByteArray} (h1 : ltK a b = true) (h2 : ltK b c = true) : ltK a c = true := bless_trans _ _ _ h1 h2
theorem ba_ext' {x y : ByteArray} (h : x.data.toList = y.data.toList) : x = y := by
  have : x.data = y.data := Array.toList_inj.1 h
  exact congrArg ByteArray.mk this
theorem ltK_total {a b : ByteArray} (h1 : ltK a b = false) (h2 : ltK b a = false) : a = b := by
  have := bless_total _ _ h1 h2
  rw [ByteArray.toList_eq, ByteArray.toList_eq] at this
  exact ba_ext' this
theorem ltK_asymm {a b : ByteArray} (h : ltK a b = true) : ltK b a = false := by
  cases h' : ltK b a
  · rfl
  · have := ltK_trans h h'; rw [ltK_irrefl] at this; cases this

theorem Rise.lt {l : List Pr} (h : Rise l) (i : Nat) : ∀ j (hj : j < l.length) (hij : i < j), ltK (l[i]'(by omega)).1 l[j].1 = true := by
  intro j
  induction j with
  | zero => intro _ h; omega
  | succ j ih =>
    intro hj hij
    by_cases he : i = j
    · subst he; exact h i hj
    · exact ltK_trans (ih (by omega) (by omega)) (h j hj)
theorem rise_nil : Rise [] := fun i h => by simp at h
theorem Rise.take {l : List Pr} (h : Rise l) (k : Nat) : Rise (l.take k) := fun i hi => by
  rw [List.length_take] at hi
  simp only [List.getElem_take]
  exact h i (by omega)
theorem Rise.drop {l : List Pr} (h : Rise l) (k : Nat) : Rise (l.drop k) := fun i hi => by
  rw [List.length_drop] at hi
  simp only [List.getElem_drop]
  exact h (k + i) (by omega)
theorem rise_snoc {l : List Pr} (p : Pr) : Rise (l ++ [p]) ↔ Rise l ∧ ∀ (h : 0 < l.length), ltK (l[l.length - 1]'(by omega)).1 p.1 = true := by
  constructor
  · intro h
    refine ⟨fun i hi => ?_, fun h0 => ?_⟩
    · have := h i (by simp; omega)
      rwa [List.getElem_append_left (by omega), List.getElem_append_left (by omega)] at this
    · have := h (l.length - 1) (by simp; omega)
      rw [List.getElem_append_left (by omega)] at this
      have e : (l ++ [p])[l.length - 1 + 1]'(by simp; omega) = p := by
        simp only [show l.length - 1 + 1 = l.length by omega]; simp
      rwa [e] at this
  · rintro ⟨h1, h2⟩ i hi
    simp only [List.length_append, List.length_singleton] at hi
    by_cases he : i + 1 < l.length
    · rw [List.getElem_append_left (by omega), List.getElem_append_left (by omega)]
      exact h1 i he
    · have e : i = l.length - 1 := by omega
      have h0 : 0 < l.length := by omega
      rw [List.getElem_append_left (by omega)]
      have e2 : (l ++ [p])[i + 1]'(by simp; omega) = p := by
        simp only [show i + 1 = l.length by omega]; simp
      rw [e2]
      simp only [e]
      exact h2 h0
instance (l : List Pr) : Decidable (Rise l) := decidable_of_iff (∀ i : Fin l.length, ∀ h : i.1 + 1 < l.length, ltK l[i.1].1 l[i.1 + 1].1 = true) ⟨fun h i hi => h ⟨i, by omega⟩ hi, fun h i hi => h i.1 hi⟩

/-- Which refusal Check answers: the sentinel's place in the list, and none. -/
def chk (l : List Pr) (root : Bool) : Option Nat :=
  if l.all mayP = false then some 0
  else if ¬ Rise l then some 11
  else if 4072 < szL l then some 2
  else if l = [] ∨ root = false ∧ szL l < 1556 then some 3
  else none
theorem chk_none {l : List Pr} {root : Bool} (h : chk l root = none) : (∀ p ∈ l, mayP p = true) ∧ Rise l ∧ szL l ≤ 4072 ∧ l ≠ [] ∧ (root = false → 1556 ≤ szL l) := by
  unfold chk at h
  split at h
  · cases h
  · rename_i h1
    split at h
    · cases h
    · rename_i h2
      split at h
      · cases h
      · rename_i h3
        split at h
        · cases h
        · rename_i h4
          refine ⟨fun p hp => ?_, Classical.not_not.1 h2, by omega, fun e => h4 (.inl e), fun hr => ?_⟩
          · have : l.all mayP = true := by cases h : l.all mayP <;> simp_all
            exact List.all_eq_true.1 this p hp
          · rcases Nat.lt_or_ge (szL l) 1556 with h' | h'
            · exact absurd (.inr ⟨hr, h'⟩) h4
            · exact h'
theorem chk_of {l : List Pr} {root : Bool} (h1 : ∀ p ∈ l, mayP p = true) (h2 : Rise l) (h3 : szL l ≤ 4072) (h4 : l ≠ []) (h5 : root = false → 1556 ≤ szL l) : chk l root = none := by
  unfold chk
  rw [if_neg (by rw [List.all_eq_true.2 h1]; simp), if_neg (by simpa using h2), if_neg (by omega), if_neg]
  rintro (h | ⟨h, h'⟩)
  · exact h4 h
  · have := h5 h; omega

/-- The place of the first pair whose key is at or above. -/
def findN (l : List Pr) (key : ByteArray) : Nat := l.findIdx (fun p => !ltK p.1 key)
def foundB (l : List Pr) (key : ByteArray) : Bool := match l[findN l key]? with | some p => decide (p.1 = key) | none => false
def behindN (l : List Pr) (key : ByteArray) : Nat := if foundB l key then findN l key + 1 else findN l key
def setL (l : List Pr) (key value : ByteArray) : List Pr := l.take (findN l key) ++ (key, value) :: l.drop (behindN l key)
def dropL (l : List Pr) (key : ByteArray) : List Pr := l.take (findN l key) ++ l.drop (behindN l key)
theorem findN_le (l : List Pr) (key : ByteArray) : findN l key ≤ l.length := List.findIdx_le_length
theorem findN_below (l : List Pr) (key : ByteArray) (j : Nat) (h : j < findN l key) (hj : j < l.length) : ltK l[j].1 key = true := by
  have := List.not_of_lt_findIdx h
  simpa using this
theorem findN_at (l : List Pr) (key : ByteArray) (h : findN l key < l.length) : ltK l[findN l key].1 key = false := by
  have := List.findIdx_getElem (xs := l) (p := fun q : Pr => !ltK q.1 key) (w := h)
  simp only [Bool.not_eq_true'] at this
  exact this
theorem findN_eq {l : List Pr} {key : ByteArray} {k : Nat} (hk : k < l.length) (h1 : ∀ j (hj : j < k), ltK (l[j]'(by omega)).1 key = true) (h2 : ltK l[k].1 key = false) : findN l key = k := by
  rcases Nat.lt_trichotomy (findN l key) k with h | h | h
  · have := findN_at l key (by omega)
    rw [h1 _ h] at this; cases this
  · exact h
  · have := findN_below l key k h hk
    rw [h2] at this; cases this
theorem findN_none {l : List Pr} {key : ByteArray} (h1 : ∀ j (hj : j < l.length), ltK l[j].1 key = true) : findN l key = l.length := by
  rcases Nat.lt_or_ge (findN l key) l.length with h | h
  · have := findN_at l key h
    rw [h1 _ h] at this; cases this
  · have := findN_le l key; omega
theorem foundB_at {l : List Pr} {key : ByteArray} (h : findN l key < l.length) : foundB l key = decide (l[findN l key].1 = key) := by
  unfold foundB; rw [List.getElem?_eq_getElem h]
theorem foundB_none {l : List Pr} {key : ByteArray} (h : ¬ findN l key < l.length) : foundB l key = false := by
  unfold foundB; rw [List.getElem?_eq_none (by omega)]
theorem foundB_lt {l : List Pr} {key : ByteArray} (h : foundB l key = true) : findN l key < l.length := by
  rcases Nat.lt_or_ge (findN l key) l.length with h' | h'
  · exact h'
  · rw [foundB_none (by omega)] at h; cases h
theorem behindN_le (l : List Pr) (key : ByteArray) : behindN l key ≤ l.length := by
  unfold behindN
  split
  · rename_i h; exact foundB_lt h
  · exact findN_le _ _
theorem behindN_ge (l : List Pr) (key : ByteArray) : findN l key ≤ behindN l key := by
  unfold behindN; split <;> omega

end Go.Proofs.YthnidlhcpelomaaDoor
