import Derived.Test.YthnidlhcpelomaaDoorLfMath
namespace Go.Proofs.YthnidlhcpelomaaDoor

/-! Lists by keys, as data. -/
abbrev KL (α : Type) := List (ByteArray × α)
theorem ltK_ne {a b : ByteArray} (h : ltK a b = true) : a ≠ b := fun e => by subst e; rw [ltK_irrefl] at h; cases h

/-- Each key is above all ahead of it. -/
def KR {α : Type} (l : KL α) : Prop := l.Pairwise (fun x y => ltK x.1 y.1 = true)
def riseB {α : Type} : KL α → Bool
  | [] => true
  | [_] => true
  | x :: y :: r => ltK x.1 y.1 && riseB (y :: r)
theorem riseB_iff {α : Type} : ∀ l : KL α, riseB l = true ↔ KR l
  | [] => by simp [riseB, KR]
  | [_] => by simp [riseB, KR]
  | x :: y :: r => by
    have ih := riseB_iff (y :: r)
    simp only [riseB, Bool.and_eq_true]
    rw [ih]
    unfold KR
    constructor
    · rintro ⟨h1, h2⟩
      refine List.pairwise_cons.2 ⟨fun z hz => ?_, h2⟩
      rcases List.mem_cons.1 hz with rfl | hz
      · exact h1
      · exact ltK_trans h1 ((List.pairwise_cons.1 h2).1 z hz)
    · intro h
      exact ⟨(List.pairwise_cons.1 h).1 y (by simp), (List.pairwise_cons.1 h).2⟩
theorem riseB_idx {α : Type} : ∀ l : KL α, riseB l = true ↔ ∀ i (h : i + 1 < l.length), ltK l[i].1 l[i + 1].1 = true
  | [] => by simp [riseB]
  | [_] => by simp [riseB]
  | x :: y :: r => by
    have ih := riseB_idx (y :: r)
    simp only [riseB, Bool.and_eq_true]
    rw [ih]
    constructor
    · rintro ⟨h1, h2⟩ i hi
      cases i with
      | zero => exact h1
      | succ i => exact h2 i (by simpa using hi)
    · intro h
      exact ⟨h 0 (by simp), fun i hi => h (i + 1) (by simpa using hi)⟩

/-- Side by side. -/
def side {α β : Type} : KL α → KL β → KL (Option α × Option β)
  | [], [] => []
  | x :: r, [] => (x.1, some x.2, none) :: side r []
  | [], y :: s => (y.1, none, some y.2) :: side [] s
  | x :: r, y :: s => if ltK x.1 y.1 then (x.1, some x.2, none) :: side r (y :: s) else if ltK y.1 x.1 then (y.1, none, some y.2) :: side (x :: r) s else (x.1, some x.2, some y.2) :: side r s
termination_by r s => r.length + s.length

/-- What a key has. -/
def lk {α : Type} : KL α → ByteArray → Option α
  | [], _ => none
  | x :: r, k => if x.1 = k then some x.2 else lk r k
theorem lk_below {α : Type} : ∀ (l : KL α) (k : ByteArray), (∀ x ∈ l, ltK k x.1 = true) → lk l k = none
  | [], _, _ => rfl
  | x :: r, k, h => by
    have h1 := h x (by simp)
    rw [lk, if_neg (fun e => ltK_ne h1 e.symm)]
    exact lk_below r k (fun y hy => h y (by simp [hy]))
theorem lk_mem {α : Type} : ∀ (l : KL α) (k : ByteArray) (a : α), lk l k = some a → (k, a) ∈ l
  | [], _, _, h => by cases h
  | x :: r, k, a, h => by
    rw [lk] at h
    split at h
    · rename_i e; cases h; subst e; simp
    · exact List.mem_cons_of_mem _ (lk_mem r k a h)
theorem lk_of_mem {α : Type} : ∀ (l : KL α) (k : ByteArray) (a : α), KR l → (k, a) ∈ l → lk l k = some a
  | x :: r, k, a, h, hm => by
    obtain ⟨h1, h2⟩ := List.pairwise_cons.1 h
    rcases List.mem_cons.1 hm with e | hm
    · subst e; simp [lk]
    · rw [lk, if_neg (ltK_ne (h1 _ hm))]
      exact lk_of_mem r k a h2 hm
theorem kr_tail {α : Type} {x : ByteArray × α} {r : KL α} (h : KR (x :: r)) : KR r := (List.pairwise_cons.1 h).2
theorem kr_head {α : Type} {x : ByteArray × α} {r : KL α} (h : KR (x :: r)) : ∀ y ∈ r, ltK x.1 y.1 = true := (List.pairwise_cons.1 h).1
/-- A list that rises is known by what its keys have. -/
theorem kr_ext {α : Type} : ∀ (l m : KL α), KR l → KR m → (∀ k, lk l k = lk m k) → l = m
  | [], [], _, _, _ => rfl
  | [], y :: s, _, _, h => by have := h y.1; simp [lk] at this
  | x :: r, [], _, _, h => by have := h x.1; simp [lk] at this
  | x :: r, y :: s, h1, h2, h => by
    have hxy : x = y := by
      have ex := h x.1
      have ey := h y.1
      simp only [lk, if_true] at ex ey
      by_cases e : y.1 = x.1
      · rw [if_pos e] at ex
        exact Prod.ext e.symm (Option.some.inj ex)
      · rw [if_neg e] at ex
        rw [if_neg (Ne.symm e)] at ey
        have m1 := kr_head h2 _ (lk_mem _ _ _ ex.symm)
        have m2 := kr_head h1 _ (lk_mem _ _ _ ey)
        have := ltK_asymm m1
        rw [m2] at this; cases this
    subst hxy
    congr 1
    refine kr_ext r s (kr_tail h1) (kr_tail h2) (fun k => ?_)
    by_cases e : x.1 = k
    · subst e
      rw [lk_below r x.1 (kr_head h1), lk_below s x.1 (kr_head h2)]
    · have := h k
      rw [lk, lk, if_neg e, if_neg e] at this
      exact this

theorem side_mem {α β : Type} (l : KL α) (m : KL β) : ∀ e ∈ side l m, (∃ x ∈ l, x.1 = e.1) ∨ (∃ y ∈ m, y.1 = e.1) := by
  fun_induction side l m with
  | case1 => simp
  | case2 x r ih =>
    intro e he
    rcases List.mem_cons.1 he with rfl | he
    · exact .inl ⟨x, by simp, rfl⟩
    · rcases ih e he with ⟨z, hz, h⟩ | ⟨z, hz, h⟩
      · exact .inl ⟨z, by simp [hz], h⟩
      · simp at hz
  | case3 y s ih =>
    intro e he
    rcases List.mem_cons.1 he with rfl | he
    · exact .inr ⟨y, by simp, rfl⟩
    · rcases ih e he with ⟨z, hz, h⟩ | ⟨z, hz, h⟩
      · simp at hz
      · exact .inr ⟨z, by simp [hz], h⟩
  | case4 x r y s h ih =>
    intro e he
    rcases List.mem_cons.1 he with rfl | he
    · exact .inl ⟨x, by simp, rfl⟩
    · rcases ih e he with ⟨z, hz, h⟩ | ⟨z, hz, h⟩
      · exact .inl ⟨z, by simp [hz], h⟩
      · exact .inr ⟨z, hz, h⟩
  | case5 x r y s h h' ih =>
    intro e he
    rcases List.mem_cons.1 he with rfl | he
    · exact .inr ⟨y, by simp, rfl⟩
    · rcases ih e he with ⟨z, hz, h⟩ | ⟨z, hz, h⟩
      · exact .inl ⟨z, hz, h⟩
      · exact .inr ⟨z, by simp [hz], h⟩
  | case6 x r y s h h' ih =>
    intro e he
    rcases List.mem_cons.1 he with rfl | he
    · exact .inl ⟨x, by simp, rfl⟩
    · rcases ih e he with ⟨z, hz, h⟩ | ⟨z, hz, h⟩
      · exact .inl ⟨z, by simp [hz], h⟩
      · exact .inr ⟨z, by simp [hz], h⟩
theorem side_kr {α β : Type} (l : KL α) (m : KL β) : KR l → KR m → KR (side l m) := by
  fun_induction side l m with
  | case1 => intro _ _; exact List.Pairwise.nil
  | case2 x r ih =>
    intro h1 h2
    refine List.pairwise_cons.2 ⟨fun e he => ?_, ih (kr_tail h1) h2⟩
    rcases side_mem _ _ e he with ⟨z, hz, h⟩ | ⟨z, hz, h⟩
    · rw [← h]; exact kr_head h1 z hz
    · simp at hz
  | case3 y s ih =>
    intro h1 h2
    refine List.pairwise_cons.2 ⟨fun e he => ?_, ih h1 (kr_tail h2)⟩
    rcases side_mem _ _ e he with ⟨z, hz, h⟩ | ⟨z, hz, h⟩
    · simp at hz
    · rw [← h]; exact kr_head h2 z hz
  | case4 x r y s hxy ih =>
    intro h1 h2
    refine List.pairwise_cons.2 ⟨fun e he => ?_, ih (kr_tail h1) h2⟩
    rcases side_mem _ _ e he with ⟨z, hz, h⟩ | ⟨z, hz, h⟩
    · rw [← h]; exact kr_head h1 z hz
    · rw [← h]
      rcases List.mem_cons.1 hz with rfl | hz
      · exact hxy
      · exact ltK_trans hxy (kr_head h2 z hz)
  | case5 x r y s hxy hyx ih =>
    intro h1 h2
    refine List.pairwise_cons.2 ⟨fun e he => ?_, ih h1 (kr_tail h2)⟩
    rcases side_mem _ _ e he with ⟨z, hz, h⟩ | ⟨z, hz, h⟩
    · rw [← h]
      rcases List.mem_cons.1 hz with rfl | hz
      · exact hyx
      · exact ltK_trans hyx (kr_head h1 z hz)
    · rw [← h]; exact kr_head h2 z hz
  | case6 x r y s hxy hyx ih =>
    intro h1 h2
    have e0 : x.1 = y.1 := ltK_total (by simpa using hxy) (by simpa using hyx)
    refine List.pairwise_cons.2 ⟨fun e he => ?_, ih (kr_tail h1) (kr_tail h2)⟩
    rcases side_mem _ _ e he with ⟨z, hz, h⟩ | ⟨z, hz, h⟩
    · rw [← h]; exact kr_head h1 z hz
    · rw [← h]; show ltK x.1 z.1 = true; rw [e0]; exact kr_head h2 z hz
/-- Both, where one of them is there. -/
def both {α β : Type} : Option α → Option β → Option (Option α × Option β)
  | none, none => none
  | a, b => some (a, b)
theorem side_lk {α β : Type} (l : KL α) (m : KL β) : KR l → KR m → ∀ k, lk (side l m) k = both (lk l k) (lk m k) := by
  fun_induction side l m with
  | case1 => intro _ _ k; rfl
  | case2 x r ih =>
    intro h1 h2 k
    have := ih (kr_tail h1) h2 k
    by_cases e : x.1 = k
    · simp [lk, e, both]
    · simp only [lk, e, if_false]; rw [this]; simp [lk]
  | case3 y s ih =>
    intro h1 h2 k
    have := ih h1 (kr_tail h2) k
    by_cases e : y.1 = k
    · simp [lk, e, both]
    · simp only [lk, e, if_false]; rw [this]; simp [lk]
  | case4 x r y s hxy ih =>
    intro h1 h2 k
    have := ih (kr_tail h1) h2 k
    by_cases e : x.1 = k
    · subst e
      have hb : lk (y :: s) x.1 = none := lk_below _ _ (fun z hz => by
        rcases List.mem_cons.1 hz with rfl | hz
        · exact hxy
        · exact ltK_trans hxy (kr_head h2 z hz))
      rw [hb]; simp [lk, both]
    · rw [lk, if_neg e, this]; simp [lk, e]
  | case5 x r y s hxy hyx ih =>
    intro h1 h2 k
    have := ih h1 (kr_tail h2) k
    by_cases e : y.1 = k
    · subst e
      have hb : lk (x :: r) y.1 = none := lk_below _ _ (fun z hz => by
        rcases List.mem_cons.1 hz with rfl | hz
        · exact hyx
        · exact ltK_trans hyx (kr_head h1 z hz))
      rw [hb]; simp [lk, both]
    · rw [lk, if_neg e, this]; simp [lk, e]
  | case6 x r y s hxy hyx ih =>
    intro h1 h2 k
    have e0 : x.1 = y.1 := ltK_total (by simpa using hxy) (by simpa using hyx)
    have := ih (kr_tail h1) (kr_tail h2) k
    by_cases e : x.1 = k
    · have e' : y.1 = k := e0.symm.trans e
      simp [lk, e, e', both]
    · have e' : ¬ y.1 = k := fun h => e (e0.trans h)
      rw [lk, if_neg e, this]; simp [lk, e, e']

/-- What f makes of each, or leaves out. -/
def fm {γ δ : Type} (f : γ → Option δ) (l : KL γ) : KL δ := l.filterMap fun e => (f e.2).map fun d => (e.1, d)
theorem fm_nil {γ δ : Type} (f : γ → Option δ) : fm f [] = [] := rfl
theorem fm_cons {γ δ : Type} (f : γ → Option δ) (e : ByteArray × γ) (l : KL γ) : fm f (e :: l) = (match f e.2 with | some d => [(e.1, d)] | none => []) ++ fm f l := by
  unfold fm
  rw [List.filterMap_cons]
  cases f e.2 <;> rfl
theorem fm_mem {γ δ : Type} (f : γ → Option δ) (l : KL γ) : ∀ d ∈ fm f l, ∃ e ∈ l, e.1 = d.1 := by
  intro d hd
  obtain ⟨e, he, h⟩ := List.mem_filterMap.1 hd
  cases hf : f e.2 with
  | none => rw [hf] at h; cases h
  | some x => rw [hf] at h; cases h; exact ⟨e, he, rfl⟩
theorem fm_kr {γ δ : Type} (f : γ → Option δ) : ∀ l : KL γ, KR l → KR (fm f l)
  | [], _ => List.Pairwise.nil
  | e :: l, h => by
    rw [fm_cons]
    cases hf : f e.2 with
    | none => simpa using fm_kr f l (kr_tail h)
    | some d =>
      refine List.pairwise_cons.2 ⟨fun z hz => ?_, fm_kr f l (kr_tail h)⟩
      obtain ⟨y, hy, h'⟩ := fm_mem f l z (by simpa using hz)
      rw [← h']; exact kr_head h y hy
theorem fm_lk {γ δ : Type} (f : γ → Option δ) : ∀ l : KL γ, KR l → ∀ k, lk (fm f l) k = (lk l k).bind f
  | [], _, _ => rfl
  | e :: l, h, k => by
    have ih := fm_lk f l (kr_tail h) k
    rw [fm_cons]
    by_cases he : e.1 = k
    · subst he
      cases hf : f e.2 with
      | none =>
        have : lk (fm f l) e.1 = none := by rw [ih, lk_below l e.1 (kr_head h)]; rfl
        simp [lk, this, hf]
      | some d => simp [lk, hf]
    · cases hf : f e.2 with
      | none => simp [lk, he, ih]
      | some d => simp [lk, he, ih]

/-! Changes. -/
structure ChV where
  had : Bool
  has : Bool
  old : ByteArray
  new : ByteArray
deriving DecidableEq
abbrev Ch := ByteArray × ChV
abbrev nilB : ByteArray := ⟨#[]⟩
def idleV (c : ChV) : Bool := c.had == c.has && decide (c.old = c.new)
def actV (c : ChV) : Option ChV := if idleV c then none else some c
def chgV (o n : Option ByteArray) : ChV := ⟨o.isSome, n.isSome, o.getD nilB, n.getD nilB⟩
def listsD (a b : List Pr) : List Ch := fm (fun e => actV (chgV e.1 e.2)) (side a b)
def invV (c : ChV) : ChV := ⟨c.has, c.had, c.new, c.old⟩
def invertD (l : List Ch) : List Ch := l.map fun c => (c.1, invV c.2)
def okJ (e : Option ChV × Option ChV) : Bool := match e with
  | (some c, some d) => d.had == c.has && decide (d.old = c.new)
  | _ => true
def joinV (e : Option ChV × Option ChV) : ChV := match e with
  | (some c, some d) => ⟨c.had, d.has, c.old, d.new⟩
  | (some c, none) => c
  | (none, some d) => d
  | (none, none) => ⟨false, false, nilB, nilB⟩
def composeD (a b : List Ch) : Option (List Ch) := if (side a b).all (fun e => okJ e.2) then some (fm (fun e => actV (joinV e)) (side a b)) else none
def okM (e : Option ByteArray × Option ChV) : Bool := match e with
  | (p, some c) => c.had == p.isSome && decide (c.old = p.getD nilB)
  | _ => true
def madeV (e : Option ByteArray × Option ChV) : Option ByteArray := match e with
  | (_, some c) => if c.has then some c.new else none
  | (p, none) => p
def patchD (a : List Pr) (l : List Ch) : Option (List Pr) := if (side a l).all (fun e => okM e.2) then some (fm madeV (side a l)) else none

end Go.Proofs.YthnidlhcpelomaaDoor
