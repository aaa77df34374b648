import Derived.Test.YtgljkgkophaefaaDoorUp
namespace Go.Proofs.YtgljkgkophaefaaDoor
open Go.RowKit

/-- Does the second begin with the first? -/
def beg : List UInt8 → List UInt8 → Bool
  | [], _ => true
  | _ :: _, [] => false
  | a :: x, b :: y => a == b && beg x y
theorem beg_take (s t : List UInt8) : beg s t = (decide (s.length ≤ t.length) && (t.take s.length == s)) := by
  induction s generalizing t with
  | nil => simp [beg]
  | cons a x ih =>
    cases t with
    | nil => simp [beg]
    | cons b y =>
      simp only [beg, ih y, List.length_cons, List.take_succ_cons]
      rw [Bool.eq_iff_iff]
      simp
      constructor
      · rintro ⟨rfl, h, e⟩; exact ⟨h, rfl, e⟩
      · rintro ⟨h, rfl, e⟩; exact ⟨rfl, h, e⟩
theorem less_cons (a b : UInt8) (x y : List UInt8) : Op.bytesLess (a :: x) (b :: y) = (decide (a < b) || (a == b && Op.bytesLess x y)) := by
  simp [Op.bytesLess]
theorem beg_ff (s : List UInt8) (h : ∀ x ∈ s, x = 255) (t : List UInt8) : beg s t = !Op.bytesLess t s := by
  induction s generalizing t with
  | nil => cases t <;> simp [beg, Op.bytesLess]
  | cons a x ih =>
    obtain rfl : a = 255 := h a (by simp)
    cases t with
    | nil => simp [beg, Op.bytesLess]
    | cons b y =>
      rw [less_cons, beg, ih (fun z hz => h z (by simp [hz]))]
      by_cases hb : b = 255
      · subst hb; simp
      · have h1 : b < 255 := by
          have h2 := UInt8.toNat_lt b
          have h3 : b.toNat ≠ 255 := fun e => hb (UInt8.toNat_inj.1 e)
          rw [UInt8.lt_iff_toNat_lt]
          show b.toNat < 255
          omega
        have h2 : ((255 : UInt8) == b) = false := by simpa using fun e => hb e.symm
        simp [h1, h2]
theorem succ_toNat (c : UInt8) (h : c ≠ 255) : (c + 1).toNat = c.toNat + 1 := by
  have h1 := UInt8.toNat_lt c
  have h2 : c.toNat ≠ 255 := fun e => h (UInt8.toNat_inj.1 e)
  rw [UInt8.toNat_add]
  exact Nat.mod_eq_of_lt (by show c.toNat + 1 < 256; omega)
theorem beg_up (p f : List UInt8) (c : UInt8) (hc : c ≠ 255) (hf : ∀ x ∈ f, x = 255) (t : List UInt8) :
    beg (p ++ c :: f) t = (!Op.bytesLess t (p ++ c :: f) && Op.bytesLess t (p ++ [c + 1])) := by
  induction p generalizing t with
  | nil =>
    cases t with
    | nil => simp [beg, Op.bytesLess]
    | cons b y =>
      have hs := succ_toNat c hc
      simp only [List.nil_append, less_cons, beg, beg_ff f hf y]
      have h0 : Op.bytesLess y [] = false := by cases y <;> rfl
      rw [h0, Bool.and_false, Bool.or_false]
      rcases Nat.lt_trichotomy b.toNat c.toNat with h | h | h
      · have h1 : b < c := UInt8.lt_iff_toNat_lt.2 h
        have h2 : (c == b) = false := by
          simp; intro e; rw [e] at h; omega
        simp [h1, h2]
      · have e : b = c := UInt8.toNat_inj.1 h
        subst e
        have h1 : b < b + 1 := UInt8.lt_iff_toNat_lt.2 (by omega)
        simp [h1]
      · have h2 : (c == b) = false := by
          simp; intro e; rw [e] at h; omega
        have h1 : ¬ b < c + 1 := fun e => by have := UInt8.lt_iff_toNat_lt.1 e; omega
        simp [h1, h2]
  | cons d p ih =>
    cases t with
    | nil => simp [beg, Op.bytesLess]
    | cons b y =>
      simp only [List.cons_append, less_cons, beg, ih y]
      by_cases e : d = b
      · subst e; simp
      · have h2 : (d == b) = false := by simpa using e
        have h3 : (b == d) = false := by simpa using fun x => e x.symm
        rw [h2, h3]
        cases hd : decide (b < d) <;> simp
theorem cut_none (s : ByteArray) (h : cutN s = 0) : ∀ x ∈ s.data.toList, x = 255 := by
  intro x hx
  obtain ⟨j, hj, rfl⟩ := List.getElem_of_mem hx
  have h1 := cutFF_ff s.data.toList s.size j (by rw [show cutFF s.data.toList s.size = 0 from h]; omega) (by simpa using hj)
  rw [List.getElem?_eq_getElem hj] at h1
  exact Option.some.inj h1
theorem beg_above (s : ByteArray) (h : cutN s ≠ 0) (t : List UInt8) : beg s.data.toList t = (!Op.bytesLess t s.data.toList && Op.bytesLess t (aboveB s).data.toList) := by
  obtain ⟨m, hm⟩ : ∃ m, cutN s = m + 1 := ⟨cutN s - 1, by omega⟩
  have hle := cutN_le s
  have hml : m < s.data.toList.length := by simp; omega
  have htop := cutFF_top s.data.toList s.size (by have : cutFF s.data.toList s.size = m + 1 := hm; omega)
  rw [show cutFF s.data.toList s.size = m + 1 from hm, Nat.add_sub_cancel, List.getElem?_eq_getElem hml] at htop
  have hff : ∀ x ∈ s.data.toList.drop (m + 1), x = 255 := by
    intro x hx
    obtain ⟨j, hj, rfl⟩ := List.getElem_of_mem hx
    have hj' : m + 1 + j < s.data.toList.length := by simp at hj; simp; omega
    have h1 := cutFF_ff s.data.toList s.size (m + 1 + j) (by rw [show cutFF s.data.toList s.size = m + 1 from hm]; omega) (by simpa using hj')
    rw [List.getElem?_eq_getElem hj'] at h1
    rw [List.getElem_drop]
    exact Option.some.inj h1
  have hsp : s.data.toList = s.data.toList.take m ++ s.data.toList[m] :: s.data.toList.drop (m + 1) := by
    rw [← List.drop_eq_getElem_cons hml, List.take_append_drop]
  have hup : (aboveB s).data.toList = s.data.toList.take m ++ [s.data.toList[m] + 1] := by
    simp only [aboveB, hm, upL, Nat.add_sub_cancel]
    rw [if_neg (by omega)]
    simp only [List.getD_eq_getElem?_getD, List.getElem?_eq_getElem hml, Option.getD_some]
  have h := beg_up (s.data.toList.take m) (s.data.toList.drop (m + 1)) s.data.toList[m] (fun e => htop (by rw [e])) hff t
  rw [← hsp] at h
  rw [h, hup]

end Go.Proofs.YtgljkgkophaefaaDoor
