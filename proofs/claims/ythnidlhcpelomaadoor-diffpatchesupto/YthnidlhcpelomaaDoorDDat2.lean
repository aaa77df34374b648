import Derived.Test.YthnidlhcpelomaaDoorMT
namespace Go.Proofs.YthnidlhcpelomaaDoor

/-! What changes are, as data. -/
theorem mem_both {α β : Type} {l : KL α} {m : KL β} (h1 : KR l) (h2 : KR m) {k : ByteArray} {e : Option α × Option β} (h : (k, e) ∈ side l m) : both (lk l k) (lk m k) = some e := by
  rw [← side_lk l m h1 h2 k]; exact lk_of_mem _ _ _ (side_kr l m h1 h2) h
theorem both_eq {α β : Type} {a : Option α} {b : Option β} {e : Option α × Option β} (h : both a b = some e) : e = (a, b) := by
  cases a <;> cases b <;> simp [both] at h <;> exact h.symm
theorem mem_side {α β : Type} {l : KL α} {m : KL β} (h1 : KR l) (h2 : KR m) {k : ByteArray} {e : Option α × Option β} (h : (k, e) ∈ side l m) : e = (lk l k, lk m k) := both_eq (mem_both h1 h2 h)
theorem side_here {α β : Type} {l : KL α} {m : KL β} (h1 : KR l) (h2 : KR m) {k : ByteArray} (h : lk l k ≠ none ∨ lk m k ≠ none) : (k, (lk l k, lk m k)) ∈ side l m := by
  refine lk_mem _ _ _ ?_
  rw [side_lk l m h1 h2 k]
  cases ha : lk l k <;> cases hb : lk m k <;> simp_all [both]
theorem idle_chg (o n : Option ByteArray) : idleV (chgV o n) = true ↔ o = n := by
  cases o <;> cases n <;> simp [idleV, chgV]
  exact decide_eq_true_iff
theorem act_same (o : Option ByteArray) : actV (chgV o o) = none := by simp [actV, (idle_chg o o).2 rfl]
theorem act_diff {o n : Option ByteArray} (h : o ≠ n) : actV (chgV o n) = some (chgV o n) := by
  have : idleV (chgV o n) = false := by
    cases h' : idleV (chgV o n) with
    | false => rfl
    | true => exact absurd ((idle_chg o n).1 h') h
  simp [actV, this]
theorem lists_kr {a b : List Pr} (ha : KR a) (hb : KR b) : KR (listsD a b) := fm_kr _ _ (side_kr a b ha hb)
theorem lists_lk {a b : List Pr} (ha : KR a) (hb : KR b) (k : ByteArray) : lk (listsD a b) k = actV (chgV (lk a k) (lk b k)) := by
  unfold listsD
  rw [fm_lk _ _ (side_kr a b ha hb), side_lk a b ha hb]
  cases h1 : lk a k <;> cases h2 : lk b k <;> simp [both, act_same]
theorem lists_mem {a b : List Pr} (ha : KR a) (hb : KR b) {c : Ch} (h : c ∈ listsD a b) : c.2 = chgV (lk a c.1) (lk b c.1) ∧ lk a c.1 ≠ lk b c.1 := by
  have h1 := lk_of_mem _ c.1 c.2 (lists_kr ha hb) h
  rw [lists_lk ha hb] at h1
  by_cases e : lk a c.1 = lk b c.1
  · rw [e, act_same] at h1; cases h1
  · rw [act_diff e] at h1; exact ⟨(Option.some.inj h1).symm, e⟩
theorem lists_self {a : List Pr} (ha : KR a) : listsD a a = [] := by
  refine kr_ext _ _ (lists_kr ha ha) List.Pairwise.nil (fun k => ?_)
  rw [lists_lk ha ha, act_same]; rfl
theorem inv_kr {l : List Ch} (h : KR l) : KR (invertD l) := by
  unfold invertD KR; rw [List.pairwise_map]; exact h
theorem inv_lk : ∀ (l : List Ch) (k : ByteArray), lk (invertD l) k = (lk l k).map invV
  | [], _ => rfl
  | c :: l, k => by
    have ih := inv_lk l k
    unfold invertD at ih ⊢
    simp only [List.map_cons, lk]
    split
    · rfl
    · exact ih
theorem inv_chg (o n : Option ByteArray) : invV (chgV o n) = chgV n o := rfl
theorem inv_lists {a b : List Pr} (ha : KR a) (hb : KR b) : invertD (listsD a b) = listsD b a := by
  refine kr_ext _ _ (inv_kr (lists_kr ha hb)) (lists_kr hb ha) (fun k => ?_)
  rw [inv_lk, lists_lk ha hb, lists_lk hb ha]
  by_cases e : lk a k = lk b k
  · rw [e, act_same]; rfl
  · rw [act_diff e, act_diff (Ne.symm e)]; rfl
theorem compose_lists {a b c : List Pr} (ha : KR a) (hb : KR b) (hc : KR c) : composeD (listsD a b) (listsD b c) = some (listsD a c) := by
  have h1 := lists_kr ha hb
  have h2 := lists_kr hb hc
  have hall : (side (listsD a b) (listsD b c)).all (fun e => okJ e.2) = true := by
    rw [List.all_eq_true]
    rintro ⟨k, e⟩ hm
    rw [mem_side h1 h2 hm, lists_lk ha hb, lists_lk hb hc]
    by_cases e1 : lk a k = lk b k
    · rw [e1, act_same]; cases actV (chgV (lk b k) (lk c k)) <;> rfl
    · by_cases e2 : lk b k = lk c k
      · rw [e2, act_same]; cases actV (chgV (lk a k) (lk c k)) <;> rfl
      · rw [act_diff e1, act_diff e2]; simp [okJ, chgV]
  unfold composeD
  rw [if_pos hall]
  congr 1
  refine kr_ext _ _ (fm_kr _ _ (side_kr _ _ h1 h2)) (lists_kr ha hc) (fun k => ?_)
  rw [fm_lk _ _ (side_kr _ _ h1 h2), side_lk _ _ h1 h2, lists_lk ha hb, lists_lk hb hc, lists_lk ha hc]
  by_cases e1 : lk a k = lk b k
  · rw [e1, act_same]
    by_cases e2 : lk b k = lk c k
    · rw [e2, act_same]; rfl
    · rw [act_diff e2]; exact act_diff e2
  · rw [act_diff e1]
    by_cases e2 : lk b k = lk c k
    · rw [← e2, act_same, act_diff e1]; exact act_diff e1
    · rw [act_diff e2]; rfl
theorem patch_kr {a : List Pr} {l : List Ch} {m : List Pr} (ha : KR a) (hl : KR l) (h : patchD a l = some m) : KR m := by
  unfold patchD at h
  split at h
  · cases h; exact fm_kr _ _ (side_kr _ _ ha hl)
  · cases h
theorem patch_lk {a : List Pr} {l : List Ch} {m : List Pr} (ha : KR a) (hl : KR l) (h : patchD a l = some m) (k : ByteArray) : lk m k = (both (lk a k) (lk l k)).bind madeV := by
  unfold patchD at h
  split at h
  · cases h; rw [fm_lk _ _ (side_kr _ _ ha hl), side_lk _ _ ha hl]
  · cases h
theorem patch_ok {a : List Pr} {l : List Ch} {m : List Pr} (ha : KR a) (hl : KR l) (h : patchD a l = some m) {k : ByteArray} {c : ChV} (hc : lk l k = some c) : c.had = (lk a k).isSome ∧ c.old = (lk a k).getD nilB := by
  unfold patchD at h
  split at h
  · rename_i hall
    rw [List.all_eq_true] at hall
    have := hall _ (side_here (l := a) (m := l) ha hl (k := k) (.inr (by rw [hc]; simp)))
    rw [hc] at this
    simp [okM] at this
    exact this
  · cases h
theorem patch_lists {a b : List Pr} (ha : KR a) (hb : KR b) : patchD a (listsD a b) = some b := by
  have h1 := lists_kr ha hb
  have hall : (side a (listsD a b)).all (fun e => okM e.2) = true := by
    rw [List.all_eq_true]
    rintro ⟨k, e⟩ hm
    rw [mem_side ha h1 hm, lists_lk ha hb]
    by_cases e1 : lk a k = lk b k
    · rw [e1, act_same]; cases lk b k <;> rfl
    · rw [act_diff e1]; simp [okM, chgV]
  unfold patchD
  rw [if_pos hall]
  congr 1
  refine kr_ext _ _ (fm_kr _ _ (side_kr _ _ ha h1)) hb (fun k => ?_)
  rw [fm_lk _ _ (side_kr _ _ ha h1), side_lk _ _ ha h1, lists_lk ha hb]
  by_cases e1 : lk a k = lk b k
  · rw [e1, act_same]; cases lk b k <;> rfl
  · rw [act_diff e1]
    cases h2 : lk a k <;> cases h3 : lk b k <;> simp [both, madeV, chgV]
/-- A change, of which what is not there is empty. -/
def normV (c : ChV) : ChV := ⟨c.had, c.has, if c.had then c.old else nilB, if c.has then c.new else nilB⟩
theorem again_lists {a : List Pr} {l : List Ch} {m : List Pr} (ha : KR a) (hl : KR l) (h : patchD a l = some m) : listsD a m = fm (fun c => actV (normV c)) l := by
  have hm := patch_kr ha hl h
  refine kr_ext _ _ (lists_kr ha hm) (fm_kr _ _ hl) (fun k => ?_)
  rw [lists_lk ha hm, fm_lk _ _ hl, patch_lk ha hl h]
  cases hc : lk l k with
  | none =>
    have : (both (lk a k) (none : Option ChV)).bind madeV = lk a k := by cases lk a k <;> rfl
    rw [this, act_same]; rfl
  | some c =>
    obtain ⟨h1, h2⟩ := patch_ok ha hl h hc
    have hb : (both (lk a k) (some c)).bind madeV = if c.has then some c.new else none := by cases lk a k <;> rfl
    rw [hb]
    show actV _ = actV _
    congr 1
    unfold chgV normV
    rw [← h1, h2]
    cases hh : c.has <;> cases ha' : lk a k <;> simp_all
theorem again_lk {a : List Pr} {l : List Ch} {m : List Pr} (ha : KR a) (hl : KR l) (h : patchD a l = some m) {c : Ch} (hc : c ∈ l) : c.2.had = (lk a c.1).isSome ∧ c.2.old = (lk a c.1).getD nilB ∧ c.2.has = (lk m c.1).isSome ∧ (c.2.has = true → c.2.new = (lk m c.1).getD nilB) := by
  have h0 := lk_of_mem _ _ _ hl hc
  obtain ⟨h1, h2⟩ := patch_ok ha hl h h0
  have hb : lk m c.1 = if c.2.has then some c.2.new else none := by
    rw [patch_lk ha hl h, h0]; cases lk a c.1 <;> rfl
  refine ⟨h1, h2, ?_, fun h3 => ?_⟩
  · rw [hb]; cases c.2.has <;> rfl
  · rw [hb, h3]; rfl

end Go.Proofs.YthnidlhcpelomaaDoor
