import Derived.Test.YtageokjobbjddaaGreatDoorGRW
import Derived.Test.YtageokjobbjddaaGreatDoorPOnl
import Derived.OrdersHeld
namespace Go.Proofs.YtageokjobbjddaaGreatDoor
open Go.RowKit

/-! A tidy query may be, and is written in less than 65536 bytes (data). -/
structure TidyQ (q : Qd) : Prop where
  t : isNameD q.table = true
  n : q.cs.length ≤ 2
  c : ∀ c ∈ q.cs, isNameD c.field = true ∧ 1 ≤ c.sign ∧ c.sign ≤ 5 ∧ Deep 4 c.item
  o : q.order = ⟨#[]⟩ ∨ isNameD q.order = true
  f : q.falling = true → q.order ≠ ⟨#[]⟩
  m1 : 0 ≤ q.limit
  m2 : q.limit ≤ 9223372036854775807
theorem TidyQ.condF {q : Qd} (h : TidyQ q) : ∀ c ∈ q.cs, condF c = 0 := by
  intro c hc
  obtain ⟨h1, h2, h3, h4⟩ := h.c c hc
  unfold Go.Proofs.YtageokjobbjddaaGreatDoor.condF
  rw [if_pos ⟨h1, h2, h3⟩]
  unfold packF
  have hf : faultR 4 [c.item] = 0 := deep_fault 4 [c.item] (by simp) (fun y hy => by rw [List.mem_singleton.1 hy]; exact h4)
  have hn := deep_cnt 4 c.item h4
  have he := enc_le _ [c.item] (Nat.le_refl _)
  rw [cnt_one] at he
  have h5 : limN 4 = 4961 := by decide
  rw [if_pos hf, if_neg (by omega)]
theorem TidyQ.fault {q : Qd} (h : TidyQ q) : qfaultD q = 0 := by
  unfold qfaultD
  rw [if_pos h.t, if_pos (firstN_all _ h.condF)]
  unfold endF
  rw [if_pos]
  exact ⟨h.o, fun hh => h.f hh.1 hh.2, h.m1⟩
theorem nm_size {s : ByteArray} (h : isNameD s = true) : s.size ≤ 32 := by
  unfold isNameD at h
  simp at h
  omega
theorem nmL_le {s : ByteArray} (h : s.size ≤ 32) : (nameL s).length ≤ 66 := by
  unfold nameL
  split
  · rw [q_len]; omega
  · have := qescL_len s.data.toList
    rw [q_len] at this
    simp; omega
theorem TidyQ.len {q : Qd} (h : TidyQ q) (hn : QNums q) : (textL q).length ≤ 60000 := by
  have hc : ∀ c ∈ q.cs, (condL c).length ≤ 14200 := by
    intro c hc
    obtain ⟨h1, h2, h3, h4⟩ := h.c c hc
    have a1 := nmL_le (nm_size h1)
    have a2 := deep_len 4 c.item h4 (hn.c c hc)
    have a3 : limL 4 = 14090 := by decide
    have a4 : (signL c.sign).length ≤ 2 := by
      unfold signL
      repeat' split
      all_goals simp
    unfold condL
    simp only [List.length_append, List.length_cons, List.length_nil]
    omega
  have hcs : (condsL q.cs).length ≤ 28500 := by
    have hl := h.n
    generalize q.cs = l at *
    match l, hl with
    | [], _ => simp [condsL]
    | [a], _ =>
      have := hc a (by simp)
      simp only [condsL, condT, whereL, List.length_append, List.length_cons, List.length_nil]; omega
    | [a, b], _ =>
      have := hc a (by simp)
      have := hc b (by simp)
      simp only [condsL, condT, whereL, andL, List.length_append, List.length_cons, List.length_nil]; omega
  have ht := nmL_le (nm_size h.t)
  have ho : (orderL q).length ≤ 76 := by
    unfold orderL
    split
    · simp
    · rename_i h0
      have := nmL_le (nm_size (h.o.resolve_left h0))
      simp; omega
  have hf : (fallL q).length ≤ 8 := by
    unfold fallL
    split <;> simp
  have hm : (limitL q).length ≤ 30 := by
    unfold limitL
    split
    · have := Lib.itoa_length_le q.limit (by have := h.m1; omega) h.m2
      simp; omega
    · simp
  unfold textL
  simp only [List.length_append, List.length_cons, List.length_nil]
  omega
theorem TidyQ.print {q : Qd} (h : TidyQ q) (hn : QNums q) : printF q = 0 ∧ (printT q).size ≤ 65536 := by
  have hl := h.len hn
  rcases print_parts h.fault with h1 | h1
  · exact h1
  · exfalso
    have h2 := h1.1
    unfold printF at h2
    rw [if_pos h.fault, if_neg (by omega)] at h2
    cases h2
theorem TidyQ.cnt {q : Qd} (h : TidyQ q) : cntC q.cs ≤ 16777216 := by
  have h5 : limN 4 = 4961 := by decide
  have hc : ∀ c ∈ q.cs, c.field.size + c.item.cnt ≤ 9000 := by
    intro c hc
    obtain ⟨h1, h2, h3, h4⟩ := h.c c hc
    have := deep_cnt 4 c.item h4
    have := nm_size h1
    omega
  have hl := h.n
  generalize q.cs = l at *
  match l, hl with
  | [], _ => simp [cntC]
  | [a], _ =>
    have := hc a (by simp)
    simp only [cntC]; omega
  | [a, b], _ =>
    have := hc a (by simp)
    have := hc b (by simp)
    simp only [cntC]; omega
end Go.Proofs.YtageokjobbjddaaGreatDoor

namespace Go.Proofs.YtageokjobbjddaaGreatDoor
open Go.RowKit

/-! Calls within a region that draws its order. -/
theorem step_nameof {ops : Array Oper} {o : Oper} {a : Act} {K : Act → World → Prop} {Q : Exit → Act → World → Prop} {E : Prop} (w : World) (hgd : o.guard = none) (x0 : Operand) (v0 : Value)
    (ho : o.op = .call { callee := .value (.func 12), args := #[x0], argTypes := #[9] }) (hx0 : a.eval x0 = v0)
    (h : Calls Tryz.prog 12 #[v0] w fun e w' => ∃ v, e = .returned v ∧ K (a.put o.dst v) w') :
    if Region.wanted o (yielded ops a.tmps) = true then Oper.wp Tryz.prog o a w K Q else E := by
  have hw : Region.wanted o (yielded ops a.tmps) = true := by simp [Region.wanted, hgd]
  rw [if_pos hw]
  have hrun : (execOp a.eval o).run Tryz.prog w = .ok (.enter 12 #[v0]) w := by
    have he : execOp a.eval o = callFunc 12 #[v0] := by
      obtain ⟨dst, op, ty, pos, after, guard⟩ := o
      simp only [] at ho
      subst ho
      have hy : execOp a.eval { dst := dst, op := .call { callee := .value (.func 12), args := #[x0], argTypes := #[9] }, type := ty, pos := pos, after := after, guard := guard } = callFunc 12 (#[] ++ #[x0].map a.eval ++ #[]) := rfl
      rw [hy]
      simp [hx0]
    rw [he]
    simp [callFunc, go_sem, Tryz.func12, Tryz.f12]
  unfold Oper.wp
  rw [hrun]
  refine h.mono ?_
  rintro e w' ⟨v, rfl, hk⟩
  exact hk
theorem step_pick {ops : Array Oper} {o : Oper} {a : Act} {K : Act → World → Prop} {Q : Exit → Act → World → Prop} {E : Prop} (w : World) (hgd : o.guard = none) (x0 x1 : Operand) (v0 v1 : Value)
    (ho : o.op = .call { callee := .value (.func 13), args := #[x0, x1], argTypes := #[3, 3] }) (hx0 : a.eval x0 = v0) (hx1 : a.eval x1 = v1)
    (h : Calls Tryz.prog 13 #[v0, v1] w fun e w' => ∃ v, e = .returned v ∧ K (a.put o.dst v) w') :
    if Region.wanted o (yielded ops a.tmps) = true then Oper.wp Tryz.prog o a w K Q else E := by
  have hw : Region.wanted o (yielded ops a.tmps) = true := by simp [Region.wanted, hgd]
  rw [if_pos hw]
  have hrun : (execOp a.eval o).run Tryz.prog w = .ok (.enter 13 #[v0, v1]) w := by
    have he : execOp a.eval o = callFunc 13 #[v0, v1] := by
      obtain ⟨dst, op, ty, pos, after, guard⟩ := o
      simp only [] at ho
      subst ho
      have hy : execOp a.eval { dst := dst, op := .call { callee := .value (.func 13), args := #[x0, x1], argTypes := #[3, 3] }, type := ty, pos := pos, after := after, guard := guard } = callFunc 13 (#[] ++ #[x0, x1].map a.eval ++ #[]) := rfl
      rw [hy]
      simp [hx0, hx1]
    rw [he]
    simp [callFunc, go_sem, Tryz.func13, Tryz.f13]
  unfold Oper.wp
  rw [hrun]
  refine h.mono ?_
  rintro e w' ⟨v, rfl, hk⟩
  exact hk
theorem step_deep {ops : Array Oper} {o : Oper} {a : Act} {K : Act → World → Prop} {Q : Exit → Act → World → Prop} {E : Prop} (w : World) (hgd : o.guard = none) (x0 x1 : Operand) (v0 v1 : Value)
    (ho : o.op = .call { callee := .value (.func 14), args := #[x0, x1], argTypes := #[32, 3] }) (hx0 : a.eval x0 = v0) (hx1 : a.eval x1 = v1)
    (h : Calls Tryz.prog 14 #[v0, v1] w fun e w' => ∃ v, e = .returned v ∧ K (a.put o.dst v) w') :
    if Region.wanted o (yielded ops a.tmps) = true then Oper.wp Tryz.prog o a w K Q else E := by
  have hw : Region.wanted o (yielded ops a.tmps) = true := by simp [Region.wanted, hgd]
  rw [if_pos hw]
  have hrun : (execOp a.eval o).run Tryz.prog w = .ok (.enter 14 #[v0, v1]) w := by
    have he : execOp a.eval o = callFunc 14 #[v0, v1] := by
      obtain ⟨dst, op, ty, pos, after, guard⟩ := o
      simp only [] at ho
      subst ho
      have hy : execOp a.eval { dst := dst, op := .call { callee := .value (.func 14), args := #[x0, x1], argTypes := #[32, 3] }, type := ty, pos := pos, after := after, guard := guard } = callFunc 14 (#[] ++ #[x0, x1].map a.eval ++ #[]) := rfl
      rw [hy]
      simp [hx0, hx1]
    rw [he]
    simp [callFunc, go_sem, Tryz.func14, Tryz.f14]
  unfold Oper.wp
  rw [hrun]
  refine h.mono ?_
  rintro e w' ⟨v, rfl, hk⟩
  exact hk
end Go.Proofs.YtageokjobbjddaaGreatDoor

namespace Go.Proofs.YtageokjobbjddaaGreatDoor
open Go Go.RowKit

/-! A region that draws its order, where the condition is asked behind some of its operations alone (D): for a load of the very cell that the region's last store writes. -/
def AnyD (P : Program) (md : Region.Mode) (ops : Array Oper) (Q : Exit → Act → World → Prop) (T : World → Prop) (D : Nat → Bool) : Nat → Array Bool → Act → World → Prop
  | 0, listed, a, w => Region.ready md ops listed = [] ∧ Q .normal a w
  | fuel + 1, listed, a, w => (Region.ready md ops listed = [] → Q .normal a w) ∧ ∀ j ∈ Region.ready md ops listed, wpOp P ops Q j (fun a' w' => (D j = true → T w') ∧ AnyD P md ops Q T D fuel (listed.setIfInBounds j true) a' w') a w
section
variable {P : Program} {md : Region.Mode} {ops : Array Oper} {Q : Exit → Act → World → Prop} {T : World → Prop} {D : Nat → Bool}
theorem AnyD.any : ∀ (fuel : Nat) (listed : Array Bool) (a : Act) (w : World), AnyD P md ops Q T D fuel listed a w → wpAny P md ops Q fuel listed a w
  | 0, _, _, _, h => h
  | fuel + 1, _, _, _, h => ⟨h.1, fun j hj => wpOp_mono (fun a' w' k => AnyD.any fuel _ a' w' k.2) (h.2 j hj)⟩
/-- What is ready beside i does not wait for it. -/
theorem ready_beside {i : Nat} {oj : Oper} {listed : Array Bool} (hi : i ∈ Region.ready md ops listed) (hall : ∀ e ∈ oj.after, Region.binds md e = true → listed.getD e.on false = true) : ∀ e ∈ oj.after, Region.binds md e = true → e.on ≠ i := fun e he hb heq => by
  have h1 := hall e he hb
  have h0 := (mem_ready.1 hi).1
  rw [heq] at h1
  rcases Nat.lt_or_ge i listed.size with h' | h'
  · simp [h'] at h0 h1; rw [h0] at h1; cases h1
  · simp [Array.getElem?_eq_none h'] at h1
theorem AnyD.first {i : Nat} {oi : Oper} {v : Value} (hi : ops[i]? = some oi) (hsel : ∀ (j : Nat) (o : Oper) cs b, ops[j]? = some o → o.op ≠ .select cs b) (hQ : ∀ c a w, Q (.panic c) (a.put oi.dst v) w → Q (.panic c) a w)
    (hDi : D i = true) (hD : ∀ j oj, ops[j]? = some oj → (∀ e ∈ oj.after, Region.binds md e = true → e.on ≠ i) → D j = true) :
    ∀ (fuel : Nat) (listed : Array Bool) (a : Act) (w : World),
      (∀ j oj, ops[j]? = some oj → j ≠ i → listed.getD j true = false → (∀ e ∈ oj.after, Region.binds md e = true → e.on ≠ i) → oi.apart ops oj = true) →
      i ∈ Region.ready md ops listed → YieldsIf P ops T oi v a → T w →
      AnyD P md ops Q T D fuel (listed.setIfInBounds i true) (a.put oi.dst v) w → AnyD P md ops Q T D (fuel + 1) listed a w := by
  intro fuel
  induction fuel with
  | zero =>
    intro listed a w _ hr hy hT H
    refine ⟨fun h => (by rw [h] at hr; cases hr), fun j hj => ?_⟩
    by_cases hji : j = i
    · subst hji; exact hy.wpOp hi hT ⟨fun _ => hT, H⟩
    · have := ready_mono hj hji
      rw [H.1] at this
      cases this
  | succ fuel ih =>
    intro listed a w hfree hr hy hT H
    refine ⟨fun h => (by rw [h] at hr; cases hr), fun j hj => ?_⟩
    by_cases hji : j = i
    · subst hji; exact hy.wpOp hi hT ⟨fun _ => hT, H⟩
    · have h1 := H.2 j (ready_mono hj hji)
      obtain ⟨hjun, oj, hoj, hall⟩ := mem_ready.1 hj
      have hnot := ready_beside hr hall
      have hDj := hD j oj hoj hnot
      have h2 := wpOp_putIf hoj (hfree j oj hoj hji hjun hnot) (fun cs b => hsel i oi cs b hi) (fun cs b => hsel j oj cs b hoj) hQ hy h1
      have hfree' : ∀ k ok, ops[k]? = some ok → k ≠ i → (listed.setIfInBounds j true).getD k true = false → (∀ e ∈ ok.after, Region.binds md e = true → e.on ≠ i) → oi.apart ops ok = true := fun k ok hk hki hun hno => by
        refine hfree k ok hk hki ?_ hno
        by_cases hjk : j = k
        · subst hjk; exact hjun
        · rw [getD_set_ne true hjk] at hun; exact hun
      refine wpOp_mono (fun a' w' h3 => ⟨h3.2.1, ih (listed.setIfInBounds j true) a' w' hfree' (ready_mono hr (Ne.symm hji)) h3.1 (h3.2.1 hDj) ?_⟩) h2
      rw [Array.setIfInBounds_comm _ _ hji]
      exact h3.2.2
/-- All but those that D leaves out wait not for i, or do. -/
def waitsB (md : Region.Mode) (ops : Array Oper) (D : Nat → Bool) (i : Nat) : Bool := (List.range ops.size).all fun j => D j || (match ops[j]? with | some o => o.after.any fun e => Region.binds md e && e.on == i | none => true)
theorem waitsB_spec {i : Nat} (h : waitsB md ops D i = true) : ∀ j oj, ops[j]? = some oj → (∀ e ∈ oj.after, Region.binds md e = true → e.on ≠ i) → D j = true := by
  intro j oj hj hno
  have hlt : j < ops.size := (Array.getElem?_eq_some_iff.1 hj).1
  have h1 := List.all_eq_true.1 h j (List.mem_range.2 hlt)
  rw [hj] at h1
  simp only [Bool.or_eq_true] at h1
  rcases h1 with h1 | h1
  · exact h1
  · rw [Array.any_eq_true] at h1
    obtain ⟨k, hk, he⟩ := h1
    simp only [Bool.and_eq_true, beq_iff_eq] at he
    exact absurd he.2 (hno _ (Array.getElem_mem hk) he.1)
theorem AnyD.take {i : Nat} {oi : Oper} {v : Value} {fuel : Nat} {listed : Array Bool} {a : Act} {w : World} (hi : ops[i]? = some oi) (hs : Region.noSelect ops = true) (hf : Region.free md ops listed i = true) (hr : (Region.ready md ops listed).contains i = true)
    (hDi : D i = true) (hw : waitsB md ops D i = true) (hQ : ∀ c a w, Q (.panic c) (a.put oi.dst v) w → Q (.panic c) a w) (hy : YieldsIf P ops T oi v a) (hT : T w)
    (h : AnyD P md ops Q T D fuel (listed.setIfInBounds i true) (a.put oi.dst v) w) : AnyD P md ops Q T D (fuel + 1) listed a w :=
  AnyD.first hi (Region.noSelect_spec hs) hQ hDi (waitsB_spec hw) fuel listed a w (Region.free_spec hi hf) (by simpa using hr) hy hT h
theorem AnyD.taked {i d : Nat} {oi : Oper} {v : Value} {fuel : Nat} {listed : Array Bool} {a : Act} {w : World} (hi : ops[i]? = some oi) (hd : oi.dst = some d) (hs : Region.noSelect ops = true) (hf : Region.free md ops listed i = true) (hr : (Region.ready md ops listed).contains i = true)
    (hDi : D i = true) (hw : waitsB md ops D i = true) (hQ : ∀ c a w, Q (.panic c) (a.put (some d) v) w → Q (.panic c) a w) (hy : YieldsIf P ops T oi v a) (hT : T w)
    (h : AnyD P md ops Q T D fuel (listed.setIfInBounds i true) (a.put (some d) v) w) : AnyD P md ops Q T D (fuel + 1) listed a w :=
  AnyD.take hi hs hf hr hDi hw (by rw [hd]; exact hQ) hy hT (by rw [hd]; exact h)
/-- One operation alone may come up. -/
theorem AnyD.one {i : Nat} {fuel : Nat} {listed : Array Bool} {a : Act} {w : World} (hr : Region.ready md ops listed = [i]) (h : wpOp P ops Q i (fun a' w' => (D i = true → T w') ∧ AnyD P md ops Q T D fuel (listed.setIfInBounds i true) a' w') a w) : AnyD P md ops Q T D (fuel + 1) listed a w :=
  ⟨(fun h0 => by rw [hr] at h0; cases h0), (fun j hj => by rw [hr] at hj; rw [List.mem_singleton.1 hj]; exact h)⟩
theorem AnyD.done {listed : Array Bool} {a : Act} {w : World} (hr : Region.ready md ops listed = []) (h : Q .normal a w) : ∀ fuel, AnyD P md ops Q T D fuel listed a w
  | 0 => ⟨hr, h⟩
  | _ + 1 => ⟨fun _ => h, by rw [hr]; simp⟩
theorem wpOp_of {i : Nat} {o : Oper} {K : Act → World → Prop} {a : Act} {w : World} (hi : ops[i]? = some o) (h : ∀ K' : Act → World → Prop, (∀ a w, K a w → K' a w) → if Region.wanted o (yielded ops a.tmps) = true then Oper.wp P o a w K' Q else K' (a.put o.dst undef) w) : wpOp P ops Q i K a w := by
  have h1 := h K (fun _ _ h => h)
  unfold wpOp
  simp only [hi]
  split
  · rename_i hw; rw [if_pos hw] at h1; exact .inl h1
  · rename_i hw; rw [if_neg hw] at h1; exact h1
/-- THE BEGINNING. -/
theorem AnyD.region {id : Nat} {a : Act} {w : World} (T : World → Prop) (D : Nat → Bool) (hm : P.follows .mixedOrders = true) (h : AnyD P .any ops Q T D ops.size (Array.replicate ops.size false) a w.drew) : (Code.region id ops true).wp P Q a w :=
  wp_region_any hm (AnyD.any _ _ _ _ h)
end
end Go.Proofs.YtageokjobbjddaaGreatDoor
