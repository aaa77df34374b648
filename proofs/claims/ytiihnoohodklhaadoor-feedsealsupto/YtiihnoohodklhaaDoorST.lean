import Derived.Test.YtiihnoohodklhaaDoorDI
import Derived.Test.YtiihnoohodklhaaDoorMT
import Derived.Test.YtiihnoohodklhaaDoorAP
import Derived.RangeFuncRecord
namespace Go.Proofs.YtiihnoohodklhaaDoor
open Go.RowKit
attribute [local go_sem ↓] Go.wp_at_zero Go.wp_at_succ
end Go.Proofs.YtiihnoohodklhaaDoor

namespace Go.Proofs.YtiihnoohodklhaaDoor

/-! What changes are, as data. -/
theorem mem_both {α β : Type} {l : KL α} {m : KL β} (h1 : KR l) (h2 : KR m) {k : ByteArray} {e : Option α × Option β} (h : (k, e) ∈ side l m) : both (lk l k) (lk m k) = some e := by
  rw [← side_lk l m h1 h2 k]; exact lk_of_mem _ _ _ (side_kr l m h1 h2) h
theorem both_eq {α β : Type} {a : Option α} {b : Option β} {e : Option α × Option β} (h : both a b = some e) : e = (a, b) := by
  cases a <;> cases b <;> simp [both] at h <;> exact h.symm
theorem mem_side {α β : Type} {l : KL α} {m : KL β} (h1 : KR l) (h2 : KR m) {k : ByteArray} {e : Option α × Option β} (h : (k, e) ∈ side l m) : e = (lk l k, lk m k) := both_eq (mem_both h1 h2 h)
theorem side_here {α β : Type} {l : KL α} {m : KL β} (h1 : KR l) (h2 : KR m) {k : ByteArray} (h : lk l k ≠ none ∨ lk m k ≠ none) : (k, (lk l k, lk m k)) ∈ side l m := by
  refine lk_mem _ _ _ ?_
  rw [side_lk l m h1 h2 k]
  cases ha : lk l k <;> cases hb : lk m k <;> simp_all [both]
theorem idle_chg (o n : Option ByteArray) : idleV (chgV o n) = true ↔ o = n := by
  cases o <;> cases n <;> simp [idleV, chgV]
  exact decide_eq_true_iff
theorem act_same (o : Option ByteArray) : actV (chgV o o) = none := by simp [actV, (idle_chg o o).2 rfl]
theorem act_diff {o n : Option ByteArray} (h : o ≠ n) : actV (chgV o n) = some (chgV o n) := by
  have : idleV (chgV o n) = false := by
    cases h' : idleV (chgV o n) with
    | false => rfl
    | true => exact absurd ((idle_chg o n).1 h') h
  simp [actV, this]
theorem lists_kr {a b : List Pr} (ha : KR a) (hb : KR b) : KR (listsD a b) := fm_kr _ _ (side_kr a b ha hb)
theorem lists_lk {a b : List Pr} (ha : KR a) (hb : KR b) (k : ByteArray) : lk (listsD a b) k = actV (chgV (lk a k) (lk b k)) := by
  unfold listsD
  rw [fm_lk _ _ (side_kr a b ha hb), side_lk a b ha hb]
  cases h1 : lk a k <;> cases h2 : lk b k <;> simp [both, act_same]
theorem lists_mem {a b : List Pr} (ha : KR a) (hb : KR b) {c : Ch} (h : c ∈ listsD a b) : c.2 = chgV (lk a c.1) (lk b c.1) ∧ lk a c.1 ≠ lk b c.1 := by
  have h1 := lk_of_mem _ c.1 c.2 (lists_kr ha hb) h
  rw [lists_lk ha hb] at h1
  by_cases e : lk a c.1 = lk b c.1
  · rw [e, act_same] at h1; cases h1
  · rw [act_diff e] at h1; exact ⟨(Option.some.inj h1).symm, e⟩
theorem lists_self {a : List Pr} (ha : KR a) : listsD a a = [] := by
  refine kr_ext _ _ (lists_kr ha ha) List.Pairwise.nil (fun k => ?_)
  rw [lists_lk ha ha, act_same]; rfl
theorem inv_kr {l : List Ch} (h : KR l) : KR (invertD l) := by
  unfold invertD KR; rw [List.pairwise_map]; exact h
theorem inv_lk : ∀ (l : List Ch) (k : ByteArray), lk (invertD l) k = (lk l k).map invV
  | [], _ => rfl
  | c :: l, k => by
    have ih := inv_lk l k
    unfold invertD at ih ⊢
    simp only [List.map_cons, lk]
    split
    · rfl
    · exact ih
theorem inv_chg (o n : Option ByteArray) : invV (chgV o n) = chgV n o := rfl
theorem inv_lists {a b : List Pr} (ha : KR a) (hb : KR b) : invertD (listsD a b) = listsD b a := by
  refine kr_ext _ _ (inv_kr (lists_kr ha hb)) (lists_kr hb ha) (fun k => ?_)
  rw [inv_lk, lists_lk ha hb, lists_lk hb ha]
  by_cases e : lk a k = lk b k
  · rw [e, act_same]; rfl
  · rw [act_diff e, act_diff (Ne.symm e)]; rfl
theorem compose_lists {a b c : List Pr} (ha : KR a) (hb : KR b) (hc : KR c) : composeD (listsD a b) (listsD b c) = some (listsD a c) := by
  have h1 := lists_kr ha hb
  have h2 := lists_kr hb hc
  have hall : (side (listsD a b) (listsD b c)).all (fun e => okJ e.2) = true := by
    rw [List.all_eq_true]
    rintro ⟨k, e⟩ hm
    rw [mem_side h1 h2 hm, lists_lk ha hb, lists_lk hb hc]
    by_cases e1 : lk a k = lk b k
    · rw [e1, act_same]; cases actV (chgV (lk b k) (lk c k)) <;> rfl
    · by_cases e2 : lk b k = lk c k
      · rw [e2, act_same]; cases actV (chgV (lk a k) (lk c k)) <;> rfl
      · rw [act_diff e1, act_diff e2]; simp [okJ, chgV]
  unfold composeD
  rw [if_pos hall]
  congr 1
  refine kr_ext _ _ (fm_kr _ _ (side_kr _ _ h1 h2)) (lists_kr ha hc) (fun k => ?_)
  rw [fm_lk _ _ (side_kr _ _ h1 h2), side_lk _ _ h1 h2, lists_lk ha hb, lists_lk hb hc, lists_lk ha hc]
  by_cases e1 : lk a k = lk b k
  · rw [e1, act_same]
    by_cases e2 : lk b k = lk c k
    · rw [e2, act_same]; rfl
    · rw [act_diff e2]; exact act_diff e2
  · rw [act_diff e1]
    by_cases e2 : lk b k = lk c k
    · rw [← e2, act_same, act_diff e1]; exact act_diff e1
    · rw [act_diff e2]; rfl
theorem patch_kr {a : List Pr} {l : List Ch} {m : List Pr} (ha : KR a) (hl : KR l) (h : patchD a l = some m) : KR m := by
  unfold patchD at h
  split at h
  · cases h; exact fm_kr _ _ (side_kr _ _ ha hl)
  · cases h
theorem patch_lk {a : List Pr} {l : List Ch} {m : List Pr} (ha : KR a) (hl : KR l) (h : patchD a l = some m) (k : ByteArray) : lk m k = (both (lk a k) (lk l k)).bind madeV := by
  unfold patchD at h
  split at h
  · cases h; rw [fm_lk _ _ (side_kr _ _ ha hl), side_lk _ _ ha hl]
  · cases h
theorem patch_ok {a : List Pr} {l : List Ch} {m : List Pr} (ha : KR a) (hl : KR l) (h : patchD a l = some m) {k : ByteArray} {c : ChV} (hc : lk l k = some c) : c.had = (lk a k).isSome ∧ c.old = (lk a k).getD nilB := by
  unfold patchD at h
  split at h
  · rename_i hall
    rw [List.all_eq_true] at hall
    have := hall _ (side_here (l := a) (m := l) ha hl (k := k) (.inr (by rw [hc]; simp)))
    rw [hc] at this
    simp [okM] at this
    exact this
  · cases h
theorem patch_lists {a b : List Pr} (ha : KR a) (hb : KR b) : patchD a (listsD a b) = some b := by
  have h1 := lists_kr ha hb
  have hall : (side a (listsD a b)).all (fun e => okM e.2) = true := by
    rw [List.all_eq_true]
    rintro ⟨k, e⟩ hm
    rw [mem_side ha h1 hm, lists_lk ha hb]
    by_cases e1 : lk a k = lk b k
    · rw [e1, act_same]; cases lk b k <;> rfl
    · rw [act_diff e1]; simp [okM, chgV]
  unfold patchD
  rw [if_pos hall]
  congr 1
  refine kr_ext _ _ (fm_kr _ _ (side_kr _ _ ha h1)) hb (fun k => ?_)
  rw [fm_lk _ _ (side_kr _ _ ha h1), side_lk _ _ ha h1, lists_lk ha hb]
  by_cases e1 : lk a k = lk b k
  · rw [e1, act_same]; cases lk b k <;> rfl
  · rw [act_diff e1]
    cases h2 : lk a k <;> cases h3 : lk b k <;> simp [both, madeV, chgV]
/-- A change, of which what is not there is empty. -/
def normV (c : ChV) : ChV := ⟨c.had, c.has, if c.had then c.old else nilB, if c.has then c.new else nilB⟩
theorem again_lists {a : List Pr} {l : List Ch} {m : List Pr} (ha : KR a) (hl : KR l) (h : patchD a l = some m) : listsD a m = fm (fun c => actV (normV c)) l := by
  have hm := patch_kr ha hl h
  refine kr_ext _ _ (lists_kr ha hm) (fm_kr _ _ hl) (fun k => ?_)
  rw [lists_lk ha hm, fm_lk _ _ hl, patch_lk ha hl h]
  cases hc : lk l k with
  | none =>
    have : (both (lk a k) (none : Option ChV)).bind madeV = lk a k := by cases lk a k <;> rfl
    rw [this, act_same]; rfl
  | some c =>
    obtain ⟨h1, h2⟩ := patch_ok ha hl h hc
    have hb : (both (lk a k) (some c)).bind madeV = if c.has then some c.new else none := by cases lk a k <;> rfl
    rw [hb]
    show actV _ = actV _
    congr 1
    unfold chgV normV
    rw [← h1, h2]
    cases hh : c.has <;> cases ha' : lk a k <;> simp_all
theorem again_lk {a : List Pr} {l : List Ch} {m : List Pr} (ha : KR a) (hl : KR l) (h : patchD a l = some m) {c : Ch} (hc : c ∈ l) : c.2.had = (lk a c.1).isSome ∧ c.2.old = (lk a c.1).getD nilB ∧ c.2.has = (lk m c.1).isSome ∧ (c.2.has = true → c.2.new = (lk m c.1).getD nilB) := by
  have h0 := lk_of_mem _ _ _ hl hc
  obtain ⟨h1, h2⟩ := patch_ok ha hl h h0
  have hb : lk m c.1 = if c.2.has then some c.2.new else none := by
    rw [patch_lk ha hl h, h0]; cases lk a c.1 <;> rfl
  refine ⟨h1, h2, ?_, fun h3 => ?_⟩
  · rw [hb]; cases c.2.has <;> rfl
  · rw [hb, h3]; rfl

end Go.Proofs.YtiihnoohodklhaaDoor

namespace Go.Proofs.YtiihnoohodklhaaDoor
open Go.RowKit

/-! One step of the walk side by side. -/
theorem turnK_drop {α β : Type} (a : KL α) (b : KL β) : turnK (a.map Prod.fst) (b.map Prod.fst) = match a, b with
    | [], _ => false
    | _ :: _, [] => true
    | x :: _, y :: _ => !ltK y.1 x.1 := by
  cases a <;> cases b <;> rfl
theorem side_go {α β : Type} (a : KL α) (b : KL β) (h : a ≠ [] ∨ b ≠ []) : ∃ k x y, side a b = (k, (x, y)) :: side (a.drop (turnK (a.map Prod.fst) (b.map Prod.fst)).toNat) (b.drop (turnK (b.map Prod.fst) (a.map Prod.fst)).toNat) ∧
    (match turnK (a.map Prod.fst) (b.map Prod.fst) with | true => ∃ z, a.head? = some (k, z) ∧ x = some z | false => x = none) ∧
    (match turnK (b.map Prod.fst) (a.map Prod.fst) with | true => ∃ z, b.head? = some (k, z) ∧ y = some z | false => y = none) ∧ (x.isSome = true ∨ y.isSome = true) := by
  cases a with
  | nil =>
    cases b with
    | nil => simp at h
    | cons y s => exact ⟨y.1, none, some y.2, by simp [side, turnK], by simp [turnK], by simp [turnK], by simp⟩
  | cons x r =>
    cases b with
    | nil => exact ⟨x.1, some x.2, none, by simp [side, turnK], by simp [turnK], by simp [turnK], by simp⟩
    | cons y s =>
      cases h1 : ltK x.1 y.1 with
      | true =>
        have h2 := ltK_asymm h1
        exact ⟨x.1, some x.2, none, by simp [side, turnK, h1, h2], by simp [turnK, h2], by simp [turnK, h1], by simp⟩
      | false =>
        cases h2 : ltK y.1 x.1 with
        | true => exact ⟨y.1, none, some y.2, by simp [side, turnK, h1, h2], by simp [turnK, h2], by simp [turnK, h1], by simp⟩
        | false =>
          have e0 : x.1 = y.1 := ltK_total h1 h2
          exact ⟨x.1, some x.2, some y.2, by simp [side, turnK, h1, h2], by simp [turnK, h2], by simp [turnK, e0, ltK_irrefl], by simp⟩
theorem side_at {α β : Type} (a : KL α) (b : KL β) (p q : Nat) (h : moreS (a.map Prod.fst) (b.map Prod.fst) (p, q)) : ∃ k x y,
    side (a.drop p) (b.drop q) = (k, (x, y)) :: side (a.drop (nxS (a.map Prod.fst) (b.map Prod.fst) (p, q)).1) (b.drop (nxS (a.map Prod.fst) (b.map Prod.fst) (p, q)).2) ∧
    (match turnA (a.map Prod.fst) (b.map Prod.fst) (p, q) with | true => ∃ z, a[p]? = some (k, z) ∧ x = some z | false => x = none) ∧
    (match turnB (a.map Prod.fst) (b.map Prod.fst) (p, q) with | true => ∃ z, b[q]? = some (k, z) ∧ y = some z | false => y = none) ∧ (x.isSome = true ∨ y.isSome = true) := by
  have hne : a.drop p ≠ [] ∨ b.drop q ≠ [] := by
    unfold moreS at h
    simp at h
    rcases h with h | h
    · left; simp; omega
    · right; simp; omega
  obtain ⟨k, x, y, h1, h2, h3, h4⟩ := side_go (a.drop p) (b.drop q) hne
  have ta : turnK ((a.drop p).map Prod.fst) ((b.drop q).map Prod.fst) = turnA (a.map Prod.fst) (b.map Prod.fst) (p, q) := by simp [turnA, List.map_drop]
  have tb : turnK ((b.drop q).map Prod.fst) ((a.drop p).map Prod.fst) = turnB (a.map Prod.fst) (b.map Prod.fst) (p, q) := by simp [turnB, List.map_drop]
  rw [ta] at h1 h2
  rw [tb] at h1 h3
  rw [List.drop_drop, List.drop_drop] at h1
  refine ⟨k, x, y, h1, ?_, ?_, h4⟩
  · rw [List.head?_drop] at h2; exact h2
  · rw [List.head?_drop] at h3; exact h3
theorem side_end {α β : Type} (a : KL α) (b : KL β) (p q : Nat) (h : ¬ moreS (a.map Prod.fst) (b.map Prod.fst) (p, q)) : side (a.drop p) (b.drop q) = [] := by
  unfold moreS at h
  simp at h
  rw [List.drop_eq_nil_of_le h.1, List.drop_eq_nil_of_le h.2]
  simp [side]
theorem nxS_le {ka kb : List ByteArray} {s : Nat × Nat} (h1 : s.1 ≤ ka.length) (h2 : s.2 ≤ kb.length) : (nxS ka kb s).1 ≤ ka.length ∧ (nxS ka kb s).2 ≤ kb.length := by
  unfold nxS
  refine ⟨?_, ?_⟩
  · cases h : turnA ka kb s with
    | false => simpa using h1
    | true => have := turnK_some h; simp at this; simp; omega
  · cases h : turnB ka kb s with
    | false => simpa using h2
    | true => have := turnK_some h; simp at this; simp; omega
theorem side_len {α β : Type} (a : KL α) (b : KL β) : (side a b).length ≤ a.length + b.length := by
  fun_induction side a b <;> simp_all <;> omega
theorem fm_len {γ δ : Type} (f : γ → Option δ) (l : KL γ) : (fm f l).length ≤ l.length := by unfold fm; exact List.length_filterMap_le _ _
theorem lists_len (a b : List Pr) : (listsD a b).length ≤ a.length + b.length := Nat.le_trans (fm_len _ _) (side_len a b)
theorem row2.frz {W : World} {b : Nat} {x y : Value} {t : TypeId} (h : row2 W b x y t) (o : Nat) : W.frozen? ⟨b, o, none⟩ = false := frozen_of_row _ _ _ _ _ h
theorem row2.both {W : World} {b : Nat} {x y : Value} {t : TypeId} (h : row2 W b x y t) (u v : Value) : row2 ((W.setCell ⟨b, 0, none⟩ u).setCell ⟨b, 1, none⟩ v) b u v t := (h.set0 u).set1 v
/-! How a body with a range over a function ends. -/
theorem postM_ret {n : Nat} {fn : Func} {R : Ending → World → Prop} {a : Act} {w : World} (v : Value) (hd : a.defers = []) (hr : (results fn a.tmps).run Tryd.prog w = .ok v w) (h : R (.returned v) w) : bodyPostM Fence.wide n Tryd.prog fn R .ret a w := by
  obtain ⟨tmps, defers⟩ := a
  subst hd
  exact ⟨v, hr, h⟩
theorem postM_mark {n D : Nat} {fn : Func} {R : Ending → World → Prop} {a : Act} {w : World} (v : Value) (hd : a.defers = [{ target := .collected D, args := #[] }]) (hk : w.heap[D]? = some (.deferred (some []))) (hr : (results fn a.tmps).run Tryd.prog (w.putObj D (.deferred none)) = .ok v (w.putObj D (.deferred none))) (h : R (.returned v) (w.putObj D (.deferred none))) : bodyPostM Fence.wide n Tryd.prog fn R .ret a w := by
  obtain ⟨tmps, defers⟩ := a
  subst hd
  exact ⟨by simp, .inl ⟨D, _, rfl, run_takeDeferred hk, v, hr, h⟩⟩
theorem results_two {fn : Func} {s t : Tmp} (h : fn.results = #[.tmp s, .tmp t]) (tmps : Array Value) (w : World) : (results fn tmps).run Tryd.prog w = .ok (.tuple #[tmps.getD s undef, tmps.getD t undef]) w := by
  simp [results, h, go_sem]

/-- The state of a loop that puts changes behind the others. -/
structure CI {α β : Type} (b8 : Nat) (w : World) (a : KL α) (b : KL β) (f : Option α × Option β → Option ChV) (s : Nat × Nat) (W : World) : Prop where
  p1 : s.1 ≤ a.length
  p2 : s.2 ≤ b.length
  bel : Below w.heap.size w W
  lst : ∃ v out, W.heap[b8]? = some (.cells #[v] 23 (0, 0)) ∧ ChO W w.heap.size v out ∧ out ++ fm f (side (a.drop s.1) (b.drop s.2)) = fm f (side a b)
theorem bel_but {w A B : World} {m : Nat} {X : Obj → Bool} (h : Below w.heap.size w A) (hk : But m X A B) (hm : w.heap.size ≤ m) : Below w.heap.size w B :=
  Below.trans h ((hk.mono (B' := w.heap.size) (X' := X) hm (fun _ h => h)).below h.size)
theorem PtP.bel {w w' : World} {v : Value} {k : ByteArray} {o : Option ByteArray} (h : PtP w v k o) (hb : Below w.heap.size w w') : PtP w' v k o := by
  cases o with
  | none => exact h
  | some y => obtain ⟨g, o, h1, h2, h3⟩ := h; exact ⟨g, o, h1, cell_bel hb h2, cell_bel hb h3⟩
theorem ptp_of {w : World} {a1 : Option Addr} {n c p : Nat} {a : List Pr} {k : ByteArray} {x : Option ByteArray} {t : Bool} (h : PrR w (.slice a1 n c) a) (ht : match t with | true => ∃ z, a[p]? = some (k, z) ∧ x = some z | false => x = none) : PtP w (ptrIf 2 t a1 p) k x := by
  cases t with
  | false => simp only at ht; subst ht; rfl
  | true =>
    obtain ⟨z, hz, rfl⟩ := ht
    obtain ⟨hp, hv⟩ := List.getElem?_eq_some_iff.1 hz
    obtain ⟨a', cap, he, hle, hnl, hc⟩ := h
    cases he
    obtain ⟨g, o, rfl, c0, c1⟩ := hc p hp
    rw [hv] at c0 c1
    exact ⟨g, o + p * 2, rfl, c0, c1⟩
theorem ok_side {a b : List Pr} (ha : OkL a) (hb : OkL b) {k : ByteArray} {x y : Option ByteArray} {p q : Nat} {t u : Bool} (hx : match t with | true => ∃ z, a[p]? = some (k, z) ∧ x = some z | false => x = none) (hy : match u with | true => ∃ z, b[q]? = some (k, z) ∧ y = some z | false => y = none) (hxy : x.isSome = true ∨ y.isSome = true) :
    k.size ≤ 140737488355328 ∧ (chgV x y).old.size ≤ 140737488355328 ∧ (chgV x y).new.size ≤ 140737488355328 := by
  have f : ∀ (l : List Pr) (h : OkL l) (t : Bool) (p : Nat) (x : Option ByteArray), (match t with | true => ∃ z, l[p]? = some (k, z) ∧ x = some z | false => x = none) → (x.getD nilB).size ≤ 140737488355328 ∧ (x.isSome = true → k.size ≤ 140737488355328) := by
    intro l h t p x ht
    cases t with
    | false => simp only at ht; subst ht; exact ⟨by decide, fun h => by cases h⟩
    | true =>
      obtain ⟨z, hz, rfl⟩ := ht
      have := h _ (List.mem_of_getElem? hz)
      exact ⟨this.2, fun _ => this.1⟩
  have fa := f a ha t p x hx
  have fb := f b hb u q y hy
  refine ⟨?_, fa.1, fb.1⟩
  rcases hxy with h | h
  · exact fa.2 h
  · exact fb.2 h
theorem len_out {α β : Type} {a : KL α} {b : KL β} {f : Option α × Option β → Option ChV} {out mid rest : List Ch} (h : (out ++ mid) ++ rest = fm f (side a b)) (hn : (a.length + b.length + 1) * 56 ≤ 140737488355328) : (out.length + 1) * 56 ≤ 140737488355328 := by
  have h1 : ((out ++ mid) ++ rest).length ≤ a.length + b.length := by rw [h]; exact Nat.le_trans (fm_len _ _) (side_len a b)
  rw [List.length_append, List.length_append] at h1
  refine Nat.le_trans (Nat.mul_le_mul_right 56 ?_) hn
  omega
theorem fm_act {γ : Type} (g : γ → ChV) (k : ByteArray) (e : γ) (l : KL γ) : fm (fun e => actV (g e)) ((k, e) :: l) = actL k (g e) ++ fm (fun e => actV (g e)) l := by
  rw [fm_cons]
  unfold actL
  cases actV (g e) <;> rfl
end Go.Proofs.YtiihnoohodklhaaDoor

namespace Go.Proofs.YtiihnoohodklhaaDoor
open Go.RowKit
attribute [local go_sem ↓] Go.wp_at_zero Go.wp_at_succ
end Go.Proofs.YtiihnoohodklhaaDoor
