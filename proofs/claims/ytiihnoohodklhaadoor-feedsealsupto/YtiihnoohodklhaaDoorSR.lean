import Derived.Test.YtiihnoohodklhaaDoorAN
import Derived.BigQuiet
import Derived.Deep.RegionLaw
namespace Go.Proofs.YtiihnoohodklhaaDoor
open Go.RowKit
attribute [local go_sem ↓] Go.wp_at_zero Go.wp_at_succ

def lastB (m : List Pr) (p : Pr) : Bool := match m.getLast? with
  | none => true
  | some q => ltK q.1 p.1
def stepS (m : List Pr) (p : Pr) : List Pr := if lastB m p then m ++ [p] else m
/-- The pairs of which those that do not rise are let go. -/
def stD (l : List Pr) : List Pr := l.foldl stepS []
theorem st_succ (l : List Pr) (k : Nat) (h : k < l.length) : stD (l.take (k + 1)) = stepS (stD (l.take k)) l[k] := by
  unfold stD
  rw [List.take_succ_eq_append_getElem h, List.foldl_append]
  rfl
theorem kr_last {m : List Pr} (h : KR m) {q : Pr} (hq : m.getLast? = some q) : ∀ x ∈ m, x = q ∨ ltK x.1 q.1 = true := by
  obtain ⟨ys, rfl⟩ := List.getLast?_eq_some_iff.1 hq
  intro x hx
  rcases List.mem_append.1 hx with hx | hx
  · exact .inr ((List.pairwise_append.1 h).2.2 x hx q (by simp))
  · exact .inl (by simpa using hx)
theorem step_kr {m : List Pr} (h : KR m) (p : Pr) : KR (stepS m p) := by
  unfold stepS
  split
  · rename_i hb
    refine List.pairwise_append.2 ⟨h, List.pairwise_singleton _ _, fun x hx y hy => ?_⟩
    obtain rfl : y = p := by simpa using hy
    unfold lastB at hb
    cases hg : m.getLast? with
    | none => rw [List.getLast?_eq_none_iff.1 hg] at hx; simp at hx
    | some q =>
      rw [hg] at hb
      rcases kr_last h hg x hx with rfl | hx'
      · exact hb
      · exact ltK_trans hx' hb
  · exact h
theorem fold_ok (l : List Pr) : ∀ m : List Pr, KR m → KR (l.foldl stepS m) ∧ (l.foldl stepS m).length ≤ m.length + l.length ∧ ∀ p ∈ l.foldl stepS m, p ∈ m ∨ p ∈ l := by
  induction l with
  | nil => intro m h; exact ⟨h, by simp, fun p hp => .inl hp⟩
  | cons p l ih =>
    intro m h
    obtain ⟨h1, h2, h3⟩ := ih (stepS m p) (step_kr h p)
    have hl : (stepS m p).length ≤ m.length + 1 := by unfold stepS; split <;> simp
    refine ⟨h1, ?_, fun x hx => ?_⟩
    · simp only [List.foldl_cons, List.length_cons]; omega
    · rcases h3 x hx with h | h
      · unfold stepS at h
        split at h
        · rcases List.mem_append.1 h with h | h
          · exact .inl h
          · exact .inr (by simp at h; simp [h])
        · exact .inl h
      · exact .inr (by simp [h])
theorem st_kr (l : List Pr) : KR (stD l) := (fold_ok l [] List.Pairwise.nil).1
theorem st_len (l : List Pr) : (stD l).length ≤ l.length := by have := (fold_ok l [] List.Pairwise.nil).2.1; rw [List.length_nil, Nat.zero_add] at this; exact this
theorem st_okl {l : List Pr} (h : OkL l) : OkL (stD l) := fun p hp => by
  rcases (fold_ok l [] List.Pairwise.nil).2.2 p hp with h' | h'
  · simp at h'
  · exact h p h'
theorem gt_eq (a b : ByteArray) : (!Op.bytesLess a.toList b.toList && !a.toList == b.toList) = ltK b a := by
  rw [list_eq]
  cases h1 : ltK b a with
  | true =>
    have h2 : Op.bytesLess a.toList b.toList = false := ltK_asymm h1
    have h3 : ¬ a = b := fun e => by rw [e, ltK_irrefl] at h1; cases h1
    simp [h2, h3]
  | false =>
    cases h2 : Op.bytesLess a.toList b.toList with
    | true => rfl
    | false => have := ltK_total h2 h1; simp [this]
theorem lastB_nil (p : Pr) : lastB [] p = true := rfl
theorem lastB_snoc (ys : List Pr) (q p : Pr) : lastB (ys ++ [q]) p = ltK q.1 p.1 := by simp [lastB]
theorem step_yes {m : List Pr} {p : Pr} (h : lastB m p = true) : stepS m p = m ++ [p] := by simp [stepS, h]
theorem step_no {m : List Pr} {p : Pr} (h : lastB m p = false) : stepS m p = m := by simp [stepS, h]
end Go.Proofs.YtiihnoohodklhaaDoor

namespace Go.Proofs.YtiihnoohodklhaaDoor
open Go.RowKit
attribute [local go_sem ↓] Go.wp_at_zero Go.wp_at_succ

end Go.Proofs.YtiihnoohodklhaaDoor

namespace Go.Proofs.YtiihnoohodklhaaDoor
open Go.RowKit
attribute [local go_sem ↓] Go.wp_at_zero Go.wp_at_succ

theorem side_ll {α β : Type} (x : ByteArray × α) (r : KL α) (y : ByteArray × β) (s : KL β) (h : ltK x.1 y.1 = true) : side (x :: r) (y :: s) = (x.1, (some x.2, none)) :: side r (y :: s) := by simp [side, h]
theorem side_rr {α β : Type} (x : ByteArray × α) (r : KL α) (y : ByteArray × β) (s : KL β) (h : ltK y.1 x.1 = true) : side (x :: r) (y :: s) = (y.1, (none, some y.2)) :: side (x :: r) s := by have h2 := ltK_asymm h; simp [side, h, h2]
theorem side_ee {α β : Type} (x : ByteArray × α) (r : KL α) (y : ByteArray × β) (s : KL β) (e : x.1 = y.1) : side (x :: r) (y :: s) = (x.1, (some x.2, some y.2)) :: side r s := by
  have h1 : ltK x.1 y.1 = false := by rw [e]; exact ltK_irrefl _
  have h2 : ltK y.1 x.1 = false := by rw [e]; exact ltK_irrefl _
  simp [side, h1, h2]
theorem side_l0 {α β : Type} (x : ByteArray × α) (r : KL α) : side (x :: r) ([] : KL β) = (x.1, (some x.2, none)) :: side r [] := by simp [side]
theorem side_0r {α β : Type} (y : ByteArray × β) (s : KL β) : side ([] : KL α) (y :: s) = (y.1, (none, some y.2)) :: side [] s := by simp [side]
theorem side_old {α β : Type} (a : KL α) (b : KL β) (i k : Nat) (hi : i < a.length) (hb : ∀ hk : k < b.length, ltK a[i].1 b[k].1 = true) : side (a.drop i) (b.drop k) = (a[i].1, (some a[i].2, none)) :: side (a.drop (i + 1)) (b.drop k) := by
  rw [List.drop_eq_getElem_cons hi]
  by_cases hk : k < b.length
  · rw [List.drop_eq_getElem_cons hk]
    exact side_ll _ _ _ _ (hb hk)
  · rw [List.drop_eq_nil_of_le (show b.length ≤ k from Nat.le_of_not_lt hk)]
    exact side_l0 _ _
theorem side_new {α β : Type} (a : KL α) (b : KL β) (i k : Nat) (hk : k < b.length) (hb : ∀ hi : i < a.length, ltK b[k].1 a[i].1 = true) : side (a.drop i) (b.drop k) = (b[k].1, (none, some b[k].2)) :: side (a.drop i) (b.drop (k + 1)) := by
  rw [List.drop_eq_getElem_cons hk]
  by_cases hi : i < a.length
  · rw [List.drop_eq_getElem_cons hi]
    exact side_rr _ _ _ _ (hb hi)
  · rw [List.drop_eq_nil_of_le (show a.length ≤ i from Nat.le_of_not_lt hi)]
    exact side_0r _ _
theorem side_both {α β : Type} (a : KL α) (b : KL β) (i k : Nat) (hi : i < a.length) (hk : k < b.length) (e : a[i].1 = b[k].1) : side (a.drop i) (b.drop k) = (a[i].1, (some a[i].2, some b[k].2)) :: side (a.drop (i + 1)) (b.drop (k + 1)) := by
  rw [List.drop_eq_getElem_cons hi, List.drop_eq_getElem_cons hk]
  exact side_ee _ _ _ _ e
abbrev fL (l : KL (Option ByteArray × Option ByteArray)) : List Ch := fm (fun e => actV (chgV e.1 e.2)) l
theorem fL_old (k x : ByteArray) (r) : fL ((k, (some x, none)) :: r) = [(k, ⟨true, false, x, ⟨#[]⟩⟩)] ++ fL r := by
  have h2 : actV (chgV (some x) none) = some ⟨true, false, x, ⟨#[]⟩⟩ := act_diff (by simp)
  show fm (fun e : Option ByteArray × Option ByteArray => actV (chgV e.1 e.2)) _ = _
  rw [fm_cons]
  simp only [h2]
theorem fL_new (k y : ByteArray) (r) : fL ((k, (none, some y)) :: r) = [(k, ⟨false, true, ⟨#[]⟩, y⟩)] ++ fL r := by
  have h2 : actV (chgV none (some y)) = some ⟨false, true, ⟨#[]⟩, y⟩ := act_diff (by simp)
  show fm (fun e : Option ByteArray × Option ByteArray => actV (chgV e.1 e.2)) _ = _
  rw [fm_cons]
  simp only [h2]
theorem fL_both (k x y : ByteArray) (r) (h : ¬ x = y) : fL ((k, (some x, some y)) :: r) = [(k, ⟨true, true, x, y⟩)] ++ fL r := by
  show fm (fun e : Option ByteArray × Option ByteArray => actV (chgV e.1 e.2)) _ = _
  have h2 : actV (chgV (some x) (some y)) = some ⟨true, true, x, y⟩ := act_diff (by simpa using h)
  rw [fm_cons]
  simp only [h2]
theorem fL_same (k x : ByteArray) (r) : fL ((k, (some x, some x)) :: r) = fL r := by
  show fm (fun e : Option ByteArray × Option ByteArray => actV (chgV e.1 e.2)) _ = _
  rw [fm_cons]
  simp only [act_same]
  rfl
theorem step_app2 {ops : Array Oper} {o : Oper} {a : Act} {w : World} {K : Act → World → Prop} {Q : Exit → Act → World → Prop} {E : Prop} (t : TypeId) (hgd : o.guard = none) (d x : Operand)
    (ho : o.op = .call { callee := .builtin .append, args := #[d, x], argTypes := #[t, t] }) (hty : o.type = t) (vd vx : Value) (hd : a.eval d = vd) (hx : a.eval x = vx) (v : Value) (w' : World)
    (hrun : (Builtin.append_ #[t, t] t #[vd, vx]).run Tryd.prog w = .ok v w') (h : K (a.put o.dst v) w') : if Region.wanted o (yielded ops a.tmps) = true then Oper.wp Tryd.prog o a w K Q else E := by
  have hw : Region.wanted o (yielded ops a.tmps) = true := by simp [Region.wanted, hgd]
  rw [if_pos hw]
  unfold Oper.wp
  simp [execOp, ho, resolve, invoke, builtin, hd, hx, hty, hrun, Result.andThen]
  exact h
end Go.Proofs.YtiihnoohodklhaaDoor

namespace Go.Proofs.YtiihnoohodklhaaDoor
open Go.RowKit
attribute [local go_sem ↓] Go.wp_at_zero Go.wp_at_succ

theorem lk_drop_yes (l : List Pr) (key : ByteArray) (q : Nat) (h : q < l.length) (hk : l[q].1 = key) : lk (l.drop q) key = some l[q].2 := by
  rw [List.drop_eq_getElem_cons h, lk, if_pos hk]
theorem lk_drop_no (l : List Pr) (key : ByteArray) (q : Nat) (h : q < l.length) (hk : ¬ l[q].1 = key) : lk (l.drop q) key = lk (l.drop (q + 1)) key := by
  rw [List.drop_eq_getElem_cons h, lk, if_neg hk]
theorem lk_drop_end {α : Type} (l : KL α) (key : ByteArray) (q : Nat) (h : l.length ≤ q) : lk (l.drop q) key = none := by
  rw [List.drop_eq_nil_of_le h]; rfl
end Go.Proofs.YtiihnoohodklhaaDoor

namespace Go.Proofs.YtiihnoohodklhaaDoor
open Go.RowKit
attribute [local go_sem ↓] Go.wp_at_zero Go.wp_at_succ

theorem inv_take (l : List Ch) (q : Nat) (h : q < l.length) : invertD (l.take (q + 1)) = invertD (l.take q) ++ [(l[q].1, invV l[q].2)] := by
  unfold invertD
  rw [List.take_succ_eq_append_getElem h, List.map_append]
  rfl
end Go.Proofs.YtiihnoohodklhaaDoor

namespace Go.Proofs.YtiihnoohodklhaaDoor
open Go.RowKit
attribute [local go_sem ↓] Go.wp_at_zero Go.wp_at_succ

abbrev behindB : ByteArray := ⟨#[98, 101, 104, 105, 110, 100]⟩
end Go.Proofs.YtiihnoohodklhaaDoor
