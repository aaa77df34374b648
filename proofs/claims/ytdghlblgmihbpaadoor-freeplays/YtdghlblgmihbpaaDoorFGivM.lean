import Derived.Test.YtdghlblgmihbpaaDoorFStp
namespace Go.Proofs.YtdghlblgmihbpaaDoor
open Go.RowKit

theorem frl_sorted (f : Nat → Bool) : ∀ n, (frl f n).Pairwise (· < ·)
  | 0 => List.Pairwise.nil
  | n + 1 => by
    rw [frl, List.pairwise_append]
    refine ⟨frl_sorted f n, ?_, fun a ha b hb => ?_⟩
    · split <;> simp
    · have h1 := ((frl_mem f).1 ha).1
      split at hb
      · simp at hb
      · simp at hb; omega
theorem frl_nodup (f : Nat → Bool) (n : Nat) : (frl f n).Nodup := (frl_sorted f n).imp (fun h => Nat.ne_of_lt h)
theorem frl_filter (f g : Nat → Bool) : ∀ n, frl (fun j => f j || g j) n = (frl f n).filter (fun j => !g j)
  | 0 => rfl
  | n + 1 => by
    rw [frl, frl, frl_filter f g n, List.filter_append]
    congr 1
    cases f n <;> cases h : g n <;> simp [h]
theorem nodup_drop : ∀ (L : List Nat) (n : Nat), L.Nodup → L.filter (fun j => !(L.take n).contains j) = L.drop n := by
  intro L n h
  have e : L = L.take n ++ L.drop n := (List.take_append_drop n L).symm
  have hd : ∀ j ∈ L.drop n, j ∉ L.take n := fun j hj hj2 => by
    rw [e] at h
    exact (List.nodup_append.1 h).2.2 j hj2 j hj rfl
  conv => lhs; rw [show L.filter (fun j => !(L.take n).contains j) = (L.take n ++ L.drop n).filter (fun j => !(L.take n).contains j) by rw [← e]]
  rw [List.filter_append]
  have h1 : (L.take n).filter (fun j => !(L.take n).contains j) = [] := by
    rw [List.filter_eq_nil_iff]
    intro a ha
    simp [ha]
  have h2 : (L.drop n).filter (fun j => !(L.take n).contains j) = L.drop n := by
    rw [List.filter_eq_self]
    intro a ha
    simp [hd a ha]
  rw [h1, h2, List.nil_append]
/-- What is free behind a Take. -/
theorem frl_taken (T : Nat → Bool) (P n : Nat) : frl (updL T (lowL T P n)) P = (frl T P).drop n := by
  unfold updL lowL
  rw [frl_filter]
  exact nodup_drop _ _ (frl_nodup T P)
theorem lowL_two (T : Nat → Bool) (P n k : Nat) : lowL T P n ++ lowL (updL T (lowL T P n)) P k = lowL T P (n + k) := by
  have h := frl_taken T P n
  unfold lowL at h ⊢
  rw [h]
  exact (List.take_add ..).symm
theorem updL_two (T : Nat → Bool) (a b : List Nat) : updL (updL T a) b = updL T (a ++ b) := by
  funext j
  simp [updL, Bool.or_assoc]
theorem takeD_ok {P n : Nat} {T : Nat → Bool} (h : n ≤ (frl T P).length) : takeD P T (n : Int) = (none, lowL T P n, updL T (lowL T P n)) := by
  unfold takeD
  rw [if_neg (by omega), if_neg (by omega)]
  simp
theorem lowL_nodup (T : Nat → Bool) (P n : Nat) : (lowL T P n).Nodup := (frl_nodup T P).sublist (List.take_sublist _ _)
theorem lowL_tree {T : Nat → Bool} {P n j : Nat} (hok : MapOk P T) (h : j ∈ lowL T P n) : 2 ≤ j ∧ j < P ∧ T j = false := by
  obtain ⟨h1, h2⟩ := lowL_lt h
  refine ⟨?_, h1, h2⟩
  rcases Nat.lt_or_ge j 2 with h' | h'
  · have : j = 0 ∨ j = 1 := by omega
    rcases this with rfl | rfl
    · rw [hok.t0] at h2; cases h2
    · rw [hok.t1] at h2; cases h2
  · exact h'
theorem clear_mem {P x : Nat} {T T' : Nat → Bool} {l l' : List Nat} (h1 : 2 ≤ x) (h2 : x < P) (hT : T x = false) (hm : ∀ j, (j ∈ l ↔ j ∈ l' ∨ j = x)) (hx : x ∉ l') (hT' : T' = updL T l) : clearD P T' (x : Int) = (none, updL T l') := by
  subst hT'
  have ht : treeB P (x : Int) = true := by simp [treeB]; omega
  have hl : x ∈ l := (hm x).2 (.inr rfl)
  unfold clearD
  rw [if_pos ht, Int.toNat_natCast, if_pos (by simp [updL, hl])]
  refine congrArg (Prod.mk none) ?_
  funext j
  unfold upd updL
  by_cases hj : j = x
  · subst hj; simp [hT, hx]
  · rw [if_neg hj]
    have : l.contains j = l'.contains j := by
      have := hm j
      by_cases h : j ∈ l'
      · simp [h, this.2 (.inl h)]
      · have : j ∉ l := fun h' => (this.1 h').elim h hj
        simp [h, this]
    rw [this]
/-- Taken back from the last one on. -/
theorem clear_last {P : Nat} {T : Nat → Bool} {c : List Nat} (hn : c.Nodup) (hc : ∀ j ∈ c, 2 ≤ j ∧ j < P ∧ T j = false) (i : Nat) (hi : i < c.length) : clearD P (updL T (c.take (i + 1))) ((c[i] : Nat) : Int) = (none, updL T (c.take i)) := by
  obtain ⟨h1, h2, h3⟩ := hc c[i] (List.getElem_mem hi)
  have e : c.take (i + 1) = c.take i ++ [c[i]] := List.take_succ_eq_append_getElem hi
  refine clear_mem h1 h2 h3 (l := c.take (i + 1)) (fun j => ?_) ?_ rfl
  · rw [e, List.mem_append, List.mem_singleton]
  · have := hn.sublist (List.take_sublist (i + 1) c)
    rw [e] at this
    exact fun h => (List.nodup_append.1 this).2.2 _ h _ (by simp) rfl
/-- Taken back from the first one on. -/
theorem clear_first {P : Nat} {T : Nat → Bool} {c : List Nat} (hn : c.Nodup) (hc : ∀ j ∈ c, 2 ≤ j ∧ j < P ∧ T j = false) (i : Nat) (hi : i < c.length) : clearD P (updL T (c.drop i)) ((c[i] : Nat) : Int) = (none, updL T (c.drop (i + 1))) := by
  obtain ⟨h1, h2, h3⟩ := hc c[i] (List.getElem_mem hi)
  have e : c.drop i = c[i] :: c.drop (i + 1) := List.drop_eq_getElem_cons hi
  refine clear_mem h1 h2 h3 (l := c.drop i) (fun j => ?_) ?_ rfl
  · rw [e, List.mem_cons]; exact or_comm
  · have := hn.sublist (List.drop_sublist i c)
    rw [e] at this
    exact (List.nodup_cons.1 this).1

end Go.Proofs.YtdghlblgmihbpaaDoor
