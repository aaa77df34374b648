import Derived.Test.YtagldlchamlpdaaDoorLfMath
namespace Go.Proofs.YtagldlchamlpdaaDoor

/-! Links and branches, as data. -/
abbrev Lk := ByteArray × Int
def szK (p : Lk) : Nat := 7 + p.1.size
def szB (l : List Lk) : Nat := 6 + (l.map szK).sum
def childB (n : Int) : Bool := decide (2 ≤ n ∧ n < 1048576)
def mayK (p : Lk) : Bool := decide (1 ≤ p.1.size ∧ p.1.size ≤ 255 ∧ 2 ≤ p.2 ∧ p.2 < 1048576)
theorem mayK_parts {p : Lk} (h : mayK p = true) : 1 ≤ p.1.size ∧ p.1.size ≤ 255 ∧ 2 ≤ p.2 ∧ p.2 < 1048576 := by simpa [mayK] using h
/-- Each key is below the next one. -/
def RiseK (l : List Lk) : Prop := ∀ i (h : i + 1 < l.length), ltK l[i].1 l[i + 1].1 = true
instance (l : List Lk) : Decidable (RiseK l) := decidable_of_iff (∀ i : Fin l.length, ∀ h : i.1 + 1 < l.length, ltK l[i.1].1 l[i.1 + 1].1 = true) ⟨fun h i hi => h ⟨i, by omega⟩ hi, fun h i hi => h i.1 hi⟩
def kids (f : Int) (l : List Lk) : List Int := f :: l.map (·.2)
theorem kids_len (f : Int) (l : List Lk) : (kids f l).length = l.length + 1 := by simp [kids]

theorem szB_nil : szB [] = 6 := rfl
theorem szB_append (a b : List Lk) : szB (a ++ b) + 6 = szB a + szB b := by simp [szB]; omega
theorem szB_cons (p : Lk) (l : List Lk) : szB (p :: l) = szK p + szB l := by simp [szB]; omega
theorem szB_take_succ (l : List Lk) (k : Nat) (h : k < l.length) : szB (l.take (k + 1)) = szB (l.take k) + szK l[k] := by
  have e := szB_append (l.take k) [l[k]]
  rw [List.take_succ_eq_append_getElem h]
  have : szB [l[k]] = szK l[k] + 6 := by rw [szB_cons, szB_nil]
  omega
theorem szB_len (l : List Lk) : 7 * l.length + 6 ≤ szB l := by
  induction l with
  | nil => simp [szB]
  | cons p l ih => rw [szB_cons, List.length_cons]; unfold szK; omega
theorem szB_may {l : List Lk} (h : l.all mayK = true) : szB l ≤ 262 * l.length + 6 := by
  induction l with
  | nil => simp [szB]
  | cons p l ih =>
    simp only [List.all_cons, Bool.and_eq_true] at h
    have h1 := mayK_parts h.1
    have h2 := ih h.2
    rw [szB_cons, List.length_cons]; unfold szK; omega

theorem RiseK.lt {l : List Lk} (h : RiseK l) (i : Nat) : ∀ j (hj : j < l.length) (hij : i < j), ltK (l[i]'(by omega)).1 l[j].1 = true := by
  intro j
  induction j with
  | zero => intro _ h; omega
  | succ j ih =>
    intro hj hij
    by_cases he : i = j
    · subst he; exact h i hj
    · exact ltK_trans (ih (by omega) (by omega)) (h j hj)
theorem riseK_nil : RiseK [] := fun i h => by simp at h
theorem RiseK.take {l : List Lk} (h : RiseK l) (k : Nat) : RiseK (l.take k) := fun i hi => by
  rw [List.length_take] at hi
  simp only [List.getElem_take]
  exact h i (by omega)
theorem RiseK.drop {l : List Lk} (h : RiseK l) (k : Nat) : RiseK (l.drop k) := fun i hi => by
  rw [List.length_drop] at hi
  simp only [List.getElem_drop]
  exact h (k + i) (by omega)

/-- Which refusal Check answers: the sentinel's place in the list, and none. -/
def chkB (f : Int) (l : List Lk) (root : Bool) : Option Nat :=
  if l = [] then some 3
  else if (childB f && l.all mayK) = false then some 0
  else if ¬ RiseK l then some 11
  else if ¬ (kids f l).Nodup then some 4
  else if 4072 < szB l then some 2
  else if root = false ∧ szB l < 1777 then some 3
  else none
theorem chkB_none {f : Int} {l : List Lk} {root : Bool} (h : chkB f l root = none) : l ≠ [] ∧ childB f = true ∧ (∀ p ∈ l, mayK p = true) ∧ RiseK l ∧ (kids f l).Nodup ∧ szB l ≤ 4072 ∧ (root = false → 1777 ≤ szB l) := by
  unfold chkB at h
  split at h
  · cases h
  · rename_i h0
    split at h
    · cases h
    · rename_i h1
      split at h
      · cases h
      · rename_i h2
        split at h
        · cases h
        · rename_i h3
          split at h
          · cases h
          · rename_i h4
            split at h
            · cases h
            · rename_i h5
              have h1' : childB f = true ∧ l.all mayK = true := by
                cases hc : childB f <;> cases ha : l.all mayK <;> simp_all
              refine ⟨h0, h1'.1, List.all_eq_true.1 h1'.2, Classical.not_not.1 h2, Classical.not_not.1 h3, by omega, fun hr => ?_⟩
              rcases Nat.lt_or_ge (szB l) 1777 with h' | h'
              · exact absurd ⟨hr, h'⟩ h5
              · exact h'
theorem chkB_of {f : Int} {l : List Lk} {root : Bool} (h0 : l ≠ []) (h1 : childB f = true) (h2 : ∀ p ∈ l, mayK p = true) (h3 : RiseK l) (h4 : (kids f l).Nodup) (h5 : szB l ≤ 4072) (h6 : root = false → 1777 ≤ szB l) : chkB f l root = none := by
  unfold chkB
  rw [if_neg h0, if_neg (by rw [h1, List.all_eq_true.2 h2]; simp), if_neg (by simpa using h3), if_neg (by simpa using h4), if_neg (by omega), if_neg]
  rintro ⟨h, h'⟩
  have := h6 h; omega
theorem chkB_kinds (f : Int) (l : List Lk) (root : Bool) : chkB f l root = none ∨ chkB f l root = some 0 ∨ chkB f l root = some 2 ∨ chkB f l root = some 3 ∨ chkB f l root = some 4 ∨ chkB f l root = some 11 := by
  unfold chkB
  split
  · simp
  · split
    · simp
    · split
      · simp
      · split
        · simp
        · split
          · simp
          · split <;> simp

/-- The number of the child in which a key belongs, by the first k links alone. -/
def pickTo (l : List Lk) (key : ByteArray) : Nat → Nat
  | 0 => 0
  | k + 1 => match l[k]? with
    | some p => if ltK key p.1 then pickTo l key k else k + 1
    | none => pickTo l key k
def pickN (l : List Lk) (key : ByteArray) : Nat := pickTo l key l.length
theorem pickTo_no {l : List Lk} {key : ByteArray} {k : Nat} (h : k < l.length) (hl : ltK key l[k].1 = true) : pickTo l key (k + 1) = pickTo l key k := by
  simp [pickTo, List.getElem?_eq_getElem h, hl]
theorem pickTo_yes {l : List Lk} {key : ByteArray} {k : Nat} (h : k < l.length) (hl : ltK key l[k].1 = false) : pickTo l key (k + 1) = k + 1 := by
  simp [pickTo, List.getElem?_eq_getElem h, hl]
theorem pickTo_le (l : List Lk) (key : ByteArray) : ∀ k, pickTo l key k ≤ k
  | 0 => Nat.le_refl _
  | k + 1 => by
    have := pickTo_le l key k
    unfold pickTo
    split
    · split <;> omega
    · omega
theorem pickN_le (l : List Lk) (key : ByteArray) : pickN l key ≤ l.length := pickTo_le l key _

/-- The child of a number. -/
def childAt (f : Int) (l : List Lk) (i : Nat) : Int := (kids f l).getD i 0
theorem childAt_zero (f : Int) (l : List Lk) : childAt f l 0 = f := rfl
theorem childAt_succ (f : Int) (l : List Lk) (i : Nat) (h : i < l.length) : childAt f l (i + 1) = l[i].2 := by
  simp [childAt, kids, List.getD_eq_getElem?_getD, h]
/-- With another child. -/
def putF (f : Int) (i : Nat) (c : Int) : Int := if i = 0 then c else f
def putL (l : List Lk) (i : Nat) (c : Int) : List Lk := if h : 0 < i ∧ i - 1 < l.length then l.set (i - 1) ((l[i - 1]'h.2).1, c) else l
theorem putL_len (l : List Lk) (i : Nat) (c : Int) : (putL l i c).length = l.length := by
  unfold putL; split <;> simp
def insL (l : List Lk) (i : Nat) (p : Lk) : List Lk := l.take i ++ p :: l.drop i
def remL (l : List Lk) (i : Nat) : List Lk := l.take i ++ l.drop (i + 1)
def joinL (a : List Lk) (key : ByteArray) (f : Int) (b : List Lk) : List Lk := a ++ (key, f) :: b

end Go.Proofs.YtagldlchamlpdaaDoor
