import Derived.Test.YthnidlhcpelomaaDoorDStep2
namespace Go.Proofs.YthnidlhcpelomaaDoor
open Go.RowKit
attribute [local go_sem ↓] Go.wp_at_zero Go.wp_at_succ

def lastB (m : List Pr) (p : Pr) : Bool := match m.getLast? with
  | none => true
  | some q => ltK q.1 p.1
def stepS (m : List Pr) (p : Pr) : List Pr := if lastB m p then m ++ [p] else m
/-- The pairs of which those that do not rise are let go. -/
def stD (l : List Pr) : List Pr := l.foldl stepS []
theorem st_succ (l : List Pr) (k : Nat) (h : k < l.length) : stD (l.take (k + 1)) = stepS (stD (l.take k)) l[k] := by
  unfold stD
  rw [List.take_succ_eq_append_getElem h, List.foldl_append]
  rfl
theorem kr_last {m : List Pr} (h : KR m) {q : Pr} (hq : m.getLast? = some q) : ∀ x ∈ m, x = q ∨ ltK x.1 q.1 = true := by
  obtain ⟨ys, rfl⟩ := List.getLast?_eq_some_iff.1 hq
  intro x hx
  rcases List.mem_append.1 hx with hx | hx
  · exact .inr ((List.pairwise_append.1 h).2.2 x hx q (by simp))
  · exact .inl (by simpa using hx)
theorem step_kr {m : List Pr} (h : KR m) (p : Pr) : KR (stepS m p) := by
  unfold stepS
  split
  · rename_i hb
    refine List.pairwise_append.2 ⟨h, List.pairwise_singleton _ _, fun x hx y hy => ?_⟩
    obtain rfl : y = p := by simpa using hy
    unfold lastB at hb
    cases hg : m.getLast? with
    | none => rw [List.getLast?_eq_none_iff.1 hg] at hx; simp at hx
    | some q =>
      rw [hg] at hb
      rcases kr_last h hg x hx with rfl | hx'
      · exact hb
      · exact ltK_trans hx' hb
  · exact h
theorem fold_ok (l : List Pr) : ∀ m : List Pr, KR m → KR (l.foldl stepS m) ∧ (l.foldl stepS m).length ≤ m.length + l.length ∧ ∀ p ∈ l.foldl stepS m, p ∈ m ∨ p ∈ l := by
  induction l with
  | nil => intro m h; exact ⟨h, by simp, fun p hp => .inl hp⟩
  | cons p l ih =>
    intro m h
    obtain ⟨h1, h2, h3⟩ := ih (stepS m p) (step_kr h p)
    have hl : (stepS m p).length ≤ m.length + 1 := by unfold stepS; split <;> simp
    refine ⟨h1, ?_, fun x hx => ?_⟩
    · simp only [List.foldl_cons, List.length_cons]; omega
    · rcases h3 x hx with h | h
      · unfold stepS at h
        split at h
        · rcases List.mem_append.1 h with h | h
          · exact .inl h
          · exact .inr (by simp at h; simp [h])
        · exact .inl h
      · exact .inr (by simp [h])
theorem st_kr (l : List Pr) : KR (stD l) := (fold_ok l [] List.Pairwise.nil).1
theorem st_len (l : List Pr) : (stD l).length ≤ l.length := by have := (fold_ok l [] List.Pairwise.nil).2.1; rw [List.length_nil, Nat.zero_add] at this; exact this
theorem st_okl {l : List Pr} (h : OkL l) : OkL (stD l) := fun p hp => by
  rcases (fold_ok l [] List.Pairwise.nil).2.2 p hp with h' | h'
  · simp at h'
  · exact h p h'
theorem gt_eq (a b : ByteArray) : (!Op.bytesLess a.toList b.toList && !a.toList == b.toList) = ltK b a := by
  rw [list_eq]
  cases h1 : ltK b a with
  | true =>
    have h2 : Op.bytesLess a.toList b.toList = false := ltK_asymm h1
    have h3 : ¬ a = b := fun e => by rw [e, ltK_irrefl] at h1; cases h1
    simp [h2, h3]
  | false =>
    cases h2 : Op.bytesLess a.toList b.toList with
    | true => rfl
    | false => have := ltK_total h2 h1; simp [this]
theorem lastB_nil (p : Pr) : lastB [] p = true := rfl
theorem lastB_snoc (ys : List Pr) (q p : Pr) : lastB (ys ++ [q]) p = ltK q.1 p.1 := by simp [lastB]
theorem step_yes {m : List Pr} {p : Pr} (h : lastB m p = true) : stepS m p = m ++ [p] := by simp [stepS, h]
theorem step_no {m : List Pr} {p : Pr} (h : lastB m p = false) : stepS m p = m := by simp [stepS, h]
end Go.Proofs.YthnidlhcpelomaaDoor
