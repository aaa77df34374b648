import Derived.Test.YthnidlhcpelomaaDoorDRc
import Derived.Test.YthnidlhcpelomaaDoorDMad
namespace Go.Proofs.YthnidlhcpelomaaDoor
open Go.RowKit

theorem patch_all {a : List Pr} {b : List Ch} (ha : KR a) (hb : KR b) : (side a b).all (fun e => okM e.2) = true ↔ ∀ c ∈ b, fitB c.2 (lk a c.1).isSome ((lk a c.1).getD nilB) = true := by
  rw [List.all_eq_true]
  constructor
  · intro h c hc
    have h1 := lk_of_mem b c.1 c.2 hb hc
    have h2 := h _ (side_here (l := a) (m := b) ha hb (k := c.1) (.inr (by rw [h1]; simp)))
    rw [h1] at h2
    exact h2
  · intro h e he
    obtain ⟨k, e⟩ := e
    have h1 := mem_side ha hb he
    subst h1
    cases h2 : lk b k with
    | none => cases lk a k <;> rfl
    | some c => exact h (k, c) (lk_mem b k c h2)
theorem made_new (k : ByteArray) (c : ChV) : madeL k (none, some c) = if c.has then [(k, c.new)] else [] := by
  obtain ⟨had, has, old, new⟩ := c
  cases has <;> rfl
theorem made_both (k y : ByteArray) (c : ChV) : madeL k (some y, some c) = if c.has then [(k, c.new)] else [] := by
  obtain ⟨had, has, old, new⟩ := c
  cases has <;> rfl
theorem made_old (k y : ByteArray) : madeL k (some y, none) = [(k, y)] := rfl
abbrev mL (l : KL (Option ByteArray × Option ChV)) : List Pr := fm madeV l
theorem len_mL {a : List Pr} {b : List Ch} {out mid rest : List Pr} (h : (out ++ mid) ++ rest = mL (side a b)) (hn : (a.length + b.length + 1) * 56 ≤ 140737488355328) (hm : mid.length = 1) : (out.length + 1) * 32 ≤ 140737488355328 := by
  have h1 : ((out ++ mid) ++ rest).length ≤ a.length + b.length := by rw [h]; exact Nat.le_trans (fm_len _ _) (side_len a b)
  rw [List.length_append, List.length_append] at h1
  have h3 : out.length + 1 ≤ a.length + b.length + 1 := by omega
  exact Nat.le_trans (Nat.mul_le_mul h3 (by decide)) hn
end Go.Proofs.YthnidlhcpelomaaDoor
