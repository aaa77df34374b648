import Derived.Test.YtageokjobbjddaaGreatDoorGRN
namespace Go.Proofs.YtageokjobbjddaaGreatDoor
open Go.RowKit

/-! The law QueryOnly. -/
theorem numsL_of : ∀ (l : List It), (∀ x ∈ l, numsI x) → numsL l
  | [], _ => trivial
  | x :: l, h => ⟨h x (by simp), numsL_of l fun y hy => h y (by simp [hy])⟩
theorem numsI_of (x : It) (h : x.Ok) (hl : numsL x.list) : numsI x := by
  obtain ⟨k, n, t, l⟩ := x
  exact ⟨h.n1, h.n2, hl⟩
theorem ItsAt.nums {w : World} {F : Nat → Prop} {v : Value} {l : List It} (h : ItsAt w F v l) : numsL l := by
  induction h with
  | mk a g off cap l vs hlen ha hok h0 h1 h2 h3 hin ih =>
    refine numsL_of l fun x hx => ?_
    obtain ⟨i, hi, rfl⟩ := List.mem_iff_getElem.1 hx
    exact numsI_of _ (hok i hi) (ih i hi)
theorem CsAt.nums {w : World} {F : Nat → Prop} {v : Value} {l : List Cd} (h : CsAt w F v l) : ∀ c ∈ l, numsI c.item := by
  obtain ⟨a, g, off, cap, vs, h1, h2, h3, h4⟩ := h
  intro c hc
  obtain ⟨i, hi, rfl⟩ := List.mem_iff_getElem.1 hc
  exact numsI_of _ (h4 i hi).1.it (h4 i hi).2.2.nums
theorem par_parts {s : ByteArray} {q : Qd} (h : parD s = some q) : QFit q ∧ qfaultD q = 0 := by
  unfold parD at h
  split at h
  · cases h
  · rename_i hl
    split at h
    · cases h
    · rename_i q' hq
      split at h
      · rename_i hf
        cases h
        exact ⟨query_fit s q (by omega) hq, hf⟩
      · cases h
theorem print_parts {q : Qd} (h : qfaultD q = 0) : (printF q = 0 ∧ (printT q).size ≤ 65536) ∨ (printF q = 3 ∧ printT q = ⟨#[]⟩) := by
  unfold printT printF
  rw [if_pos h]
  by_cases hl : 65536 < (textL q).length
  · right
    simp only [hl, if_true]
    exact ⟨trivial, rfl⟩
  · left
    simp only [hl, if_false, if_true]
    exact ⟨trivial, by rw [ba_size]; omega⟩
end Go.Proofs.YtageokjobbjddaaGreatDoor
