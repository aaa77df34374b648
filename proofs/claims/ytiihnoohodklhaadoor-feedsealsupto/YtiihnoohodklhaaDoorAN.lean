import Derived.Test.YtiihnoohodklhaaDoorKit
import Derived.OrdersHeld
import Derived.Test.YtiihnoohodklhaaDoorAP
import Derived.Test.YtiihnoohodklhaaDoorST
namespace Go.Proofs.YtiihnoohodklhaaDoor
open Go Go.RowKit

/-! A region that draws its order, where the condition is asked behind some of its operations alone (D): for a load of the very cell that the region's last store writes. -/
def AnyD (P : Program) (md : Region.Mode) (ops : Array Oper) (Q : Exit → Act → World → Prop) (T : World → Prop) (D : Nat → Bool) : Nat → Array Bool → Act → World → Prop
  | 0, listed, a, w => Region.ready md ops listed = [] ∧ Q .normal a w
  | fuel + 1, listed, a, w => (Region.ready md ops listed = [] → Q .normal a w) ∧ ∀ j ∈ Region.ready md ops listed, wpOp P ops Q j (fun a' w' => (D j = true → T w') ∧ AnyD P md ops Q T D fuel (listed.setIfInBounds j true) a' w') a w
section
variable {P : Program} {md : Region.Mode} {ops : Array Oper} {Q : Exit → Act → World → Prop} {T : World → Prop} {D : Nat → Bool}
theorem AnyD.any : ∀ (fuel : Nat) (listed : Array Bool) (a : Act) (w : World), AnyD P md ops Q T D fuel listed a w → wpAny P md ops Q fuel listed a w
  | 0, _, _, _, h => h
  | fuel + 1, _, _, _, h => ⟨h.1, fun j hj => wpOp_mono (fun a' w' k => AnyD.any fuel _ a' w' k.2) (h.2 j hj)⟩
/-- What is ready beside i does not wait for it. -/
theorem ready_beside {i : Nat} {oj : Oper} {listed : Array Bool} (hi : i ∈ Region.ready md ops listed) (hall : ∀ e ∈ oj.after, Region.binds md e = true → listed.getD e.on false = true) : ∀ e ∈ oj.after, Region.binds md e = true → e.on ≠ i := fun e he hb heq => by
  have h1 := hall e he hb
  have h0 := (mem_ready.1 hi).1
  rw [heq] at h1
  rcases Nat.lt_or_ge i listed.size with h' | h'
  · simp [h'] at h0 h1; rw [h0] at h1; cases h1
  · simp [Array.getElem?_eq_none h'] at h1
theorem AnyD.first {i : Nat} {oi : Oper} {v : Value} (hi : ops[i]? = some oi) (hsel : ∀ (j : Nat) (o : Oper) cs b, ops[j]? = some o → o.op ≠ .select cs b) (hQ : ∀ c a w, Q (.panic c) (a.put oi.dst v) w → Q (.panic c) a w)
    (hDi : D i = true) (hD : ∀ j oj, ops[j]? = some oj → (∀ e ∈ oj.after, Region.binds md e = true → e.on ≠ i) → D j = true) :
    ∀ (fuel : Nat) (listed : Array Bool) (a : Act) (w : World),
      (∀ j oj, ops[j]? = some oj → j ≠ i → listed.getD j true = false → (∀ e ∈ oj.after, Region.binds md e = true → e.on ≠ i) → oi.apart ops oj = true) →
      i ∈ Region.ready md ops listed → YieldsIf P ops T oi v a → T w →
      AnyD P md ops Q T D fuel (listed.setIfInBounds i true) (a.put oi.dst v) w → AnyD P md ops Q T D (fuel + 1) listed a w := by
  intro fuel
  induction fuel with
  | zero =>
    intro listed a w _ hr hy hT H
    refine ⟨fun h => (by rw [h] at hr; cases hr), fun j hj => ?_⟩
    by_cases hji : j = i
    · subst hji; exact hy.wpOp hi hT ⟨fun _ => hT, H⟩
    · have := ready_mono hj hji
      rw [H.1] at this
      cases this
  | succ fuel ih =>
    intro listed a w hfree hr hy hT H
    refine ⟨fun h => (by rw [h] at hr; cases hr), fun j hj => ?_⟩
    by_cases hji : j = i
    · subst hji; exact hy.wpOp hi hT ⟨fun _ => hT, H⟩
    · have h1 := H.2 j (ready_mono hj hji)
      obtain ⟨hjun, oj, hoj, hall⟩ := mem_ready.1 hj
      have hnot := ready_beside hr hall
      have hDj := hD j oj hoj hnot
      have h2 := wpOp_putIf hoj (hfree j oj hoj hji hjun hnot) (fun cs b => hsel i oi cs b hi) (fun cs b => hsel j oj cs b hoj) hQ hy h1
      have hfree' : ∀ k ok, ops[k]? = some ok → k ≠ i → (listed.setIfInBounds j true).getD k true = false → (∀ e ∈ ok.after, Region.binds md e = true → e.on ≠ i) → oi.apart ops ok = true := fun k ok hk hki hun hno => by
        refine hfree k ok hk hki ?_ hno
        by_cases hjk : j = k
        · subst hjk; exact hjun
        · rw [getD_set_ne true hjk] at hun; exact hun
      refine wpOp_mono (fun a' w' h3 => ⟨h3.2.1, ih (listed.setIfInBounds j true) a' w' hfree' (ready_mono hr (Ne.symm hji)) h3.1 (h3.2.1 hDj) ?_⟩) h2
      rw [Array.setIfInBounds_comm _ _ hji]
      exact h3.2.2
/-- All but those that D leaves out wait not for i, or do. -/
def waitsB (md : Region.Mode) (ops : Array Oper) (D : Nat → Bool) (i : Nat) : Bool := (List.range ops.size).all fun j => D j || (match ops[j]? with | some o => o.after.any fun e => Region.binds md e && e.on == i | none => true)
theorem waitsB_spec {i : Nat} (h : waitsB md ops D i = true) : ∀ j oj, ops[j]? = some oj → (∀ e ∈ oj.after, Region.binds md e = true → e.on ≠ i) → D j = true := by
  intro j oj hj hno
  have hlt : j < ops.size := (Array.getElem?_eq_some_iff.1 hj).1
  have h1 := List.all_eq_true.1 h j (List.mem_range.2 hlt)
  rw [hj] at h1
  simp only [Bool.or_eq_true] at h1
  rcases h1 with h1 | h1
  · exact h1
  · rw [Array.any_eq_true] at h1
    obtain ⟨k, hk, he⟩ := h1
    simp only [Bool.and_eq_true, beq_iff_eq] at he
    exact absurd he.2 (hno _ (Array.getElem_mem hk) he.1)
theorem AnyD.take {i : Nat} {oi : Oper} {v : Value} {fuel : Nat} {listed : Array Bool} {a : Act} {w : World} (hi : ops[i]? = some oi) (hs : Region.noSelect ops = true) (hf : Region.free md ops listed i = true) (hr : (Region.ready md ops listed).contains i = true)
    (hDi : D i = true) (hw : waitsB md ops D i = true) (hQ : ∀ c a w, Q (.panic c) (a.put oi.dst v) w → Q (.panic c) a w) (hy : YieldsIf P ops T oi v a) (hT : T w)
    (h : AnyD P md ops Q T D fuel (listed.setIfInBounds i true) (a.put oi.dst v) w) : AnyD P md ops Q T D (fuel + 1) listed a w :=
  AnyD.first hi (Region.noSelect_spec hs) hQ hDi (waitsB_spec hw) fuel listed a w (Region.free_spec hi hf) (by simpa using hr) hy hT h
theorem AnyD.taked {i d : Nat} {oi : Oper} {v : Value} {fuel : Nat} {listed : Array Bool} {a : Act} {w : World} (hi : ops[i]? = some oi) (hd : oi.dst = some d) (hs : Region.noSelect ops = true) (hf : Region.free md ops listed i = true) (hr : (Region.ready md ops listed).contains i = true)
    (hDi : D i = true) (hw : waitsB md ops D i = true) (hQ : ∀ c a w, Q (.panic c) (a.put (some d) v) w → Q (.panic c) a w) (hy : YieldsIf P ops T oi v a) (hT : T w)
    (h : AnyD P md ops Q T D fuel (listed.setIfInBounds i true) (a.put (some d) v) w) : AnyD P md ops Q T D (fuel + 1) listed a w :=
  AnyD.take hi hs hf hr hDi hw (by rw [hd]; exact hQ) hy hT (by rw [hd]; exact h)
/-- One operation alone may come up. -/
theorem AnyD.one {i : Nat} {fuel : Nat} {listed : Array Bool} {a : Act} {w : World} (hr : Region.ready md ops listed = [i]) (h : wpOp P ops Q i (fun a' w' => (D i = true → T w') ∧ AnyD P md ops Q T D fuel (listed.setIfInBounds i true) a' w') a w) : AnyD P md ops Q T D (fuel + 1) listed a w :=
  ⟨(fun h0 => by rw [hr] at h0; cases h0), (fun j hj => by rw [hr] at hj; rw [List.mem_singleton.1 hj]; exact h)⟩
theorem AnyD.done {listed : Array Bool} {a : Act} {w : World} (hr : Region.ready md ops listed = []) (h : Q .normal a w) : ∀ fuel, AnyD P md ops Q T D fuel listed a w
  | 0 => ⟨hr, h⟩
  | _ + 1 => ⟨fun _ => h, by rw [hr]; simp⟩
theorem wpOp_of {i : Nat} {o : Oper} {K : Act → World → Prop} {a : Act} {w : World} (hi : ops[i]? = some o) (h : ∀ K' : Act → World → Prop, (∀ a w, K a w → K' a w) → if Region.wanted o (yielded ops a.tmps) = true then Oper.wp P o a w K' Q else K' (a.put o.dst undef) w) : wpOp P ops Q i K a w := by
  have h1 := h K (fun _ _ h => h)
  unfold wpOp
  simp only [hi]
  split
  · rename_i hw; rw [if_pos hw] at h1; exact .inl h1
  · rename_i hw; rw [if_neg hw] at h1; exact h1
/-- THE BEGINNING. -/
theorem AnyD.region {id : Nat} {a : Act} {w : World} (T : World → Prop) (D : Nat → Bool) (hm : P.follows .mixedOrders = true) (h : AnyD P .any ops Q T D ops.size (Array.replicate ops.size false) a w.drew) : (Code.region id ops true).wp P Q a w :=
  wp_region_any hm (AnyD.any _ _ _ _ h)
end
end Go.Proofs.YtiihnoohodklhaaDoor

namespace Go.Proofs.YtiihnoohodklhaaDoor
open Go.RowKit
attribute [local go_sem ↓] Go.wp_at_zero Go.wp_at_succ

theorem ChAt.al {w : World} {g o : Nat} {c : Ch} (h : ChAt w g o c) (x : Obj) : ChAt (w.alloc x) g o c := h.block (Below.heap_alloc w x g h.lt)
end Go.Proofs.YtiihnoohodklhaaDoor

namespace Go.Proofs.YtiihnoohodklhaaDoor
open Go.RowKit
attribute [local go_sem ↓] Go.wp_at_zero Go.wp_at_succ

end Go.Proofs.YtiihnoohodklhaaDoor

namespace Go.Proofs.YtiihnoohodklhaaDoor
open Go.RowKit

/-- A block of one cell. -/
def row1 (W : World) (b : Nat) (x : Value) (t : TypeId) : Prop := W.heap[b]? = some (.cells #[x] t (0, 0))
theorem row1.bel {W W' : World} {b : Nat} {x : Value} {t : TypeId} (h : row1 W b x t) (hb : Below W.heap.size W W') : row1 W' b x t := (hb.block b (Array.getElem?_eq_some_iff.1 h).1).trans h
theorem row1.c0 {W : World} {b : Nat} {x : Value} {t : TypeId} (h : row1 W b x t) : W.cell? ⟨b, 0, none⟩ = some x := by rw [cell_of_row W b 0 _ _ _ h]; rfl
theorem row1.frz {W : World} {b : Nat} {x : Value} {t : TypeId} (h : row1 W b x t) (o : Nat) : W.frozen? ⟨b, o, none⟩ = false := frozen_of_row _ _ _ _ _ h
theorem row1.set {W : World} {b : Nat} {x : Value} {t : TypeId} (h : row1 W b x t) (v : Value) : row1 (W.setCell ⟨b, 0, none⟩ v) b v t := Go.heap_setCell_same W b 0 _ t v h
theorem row1.oth {W : World} {b : Nat} {x : Value} {t : TypeId} (h : row1 W b x t) {c : Nat} (hne : b ≠ c) (k : Nat) (v : Value) : row1 (W.setCell ⟨c, k, none⟩ v) b x t := (Below.heap_setCell W _ v b hne).trans h
theorem row1.but {W W' : World} {b m : Nat} {x : Value} {t : TypeId} {X : Obj → Bool} (h : row1 W b x t) (hk : But m X W W') (hX : X (.cells #[x] t (0, 0)) = false) : row1 W' b x t := hk.same _ _ h (fun hh => by rw [hX] at hh; cases hh.2)
theorem row1.put {W : World} {b D : Nat} {x : Value} {t : TypeId} {o o' : Obj} (h : row1 W b x t) (hd : W.heap[D]? = some o) (ho : o.isCells = false) : row1 (W.putObj D o') b x t := (World.putObj_heap_other (fun e => by rw [← e] at hd; rw [h] at hd; cases hd; cases ho)).trans h
theorem PtC.bel {w w' : World} {v : Value} {k : ByteArray} {o : Option ChV} (h : PtC w v k o) (hb : Below w.heap.size w w') : PtC w' v k o := by
  cases o with
  | none => exact h
  | some y => obtain ⟨g, o, h1, h2⟩ := h; exact ⟨g, o, h1, h2.block (hb.block g h2.lt)⟩
theorem ptc_of {w : World} {a1 : Option Addr} {n c p : Nat} {a : List Ch} {k : ByteArray} {x : Option ChV} {t : Bool} (h : ChR w (.slice a1 n c) a) (ht : match t with | true => ∃ z, a[p]? = some (k, z) ∧ x = some z | false => x = none) : PtC w (ptrIf 5 t a1 p) k x := by
  cases t with
  | false => simp only at ht; subst ht; rfl
  | true =>
    obtain ⟨z, hz, rfl⟩ := ht
    obtain ⟨hp, hv⟩ := List.getElem?_eq_some_iff.1 hz
    obtain ⟨a', cap, he, hle, hnl, hc⟩ := h
    cases he
    obtain ⟨g, o, rfl, c0⟩ := hc p hp
    rw [hv] at c0
    exact ⟨g, o + p * 5, rfl, c0⟩
/-- A change whose texts are such as a machine's can be. -/
def OkV (x : Option ChV) : Prop := ∀ c, x = some c → c.old.size ≤ 140737488355328 ∧ c.new.size ≤ 140737488355328
theorem okc_at {l : List Ch} (h : OkC l) {k : ByteArray} {x : Option ChV} {p : Nat} {t : Bool} (ht : match t with | true => ∃ z, l[p]? = some (k, z) ∧ x = some z | false => x = none) : OkV x ∧ (x.isSome = true → k.size ≤ 140737488355328) := by
  cases t with
  | false => simp only at ht; subst ht; exact ⟨fun c h => (by cases h), fun h => (by cases h)⟩
  | true =>
    obtain ⟨z, hz, rfl⟩ := ht
    have := h _ (List.mem_of_getElem? hz)
    exact ⟨fun c hc => (by cases hc; exact this.2), fun _ => this.1⟩
theorem okl_at {l : List Pr} (h : OkL l) {k : ByteArray} {x : Option ByteArray} {p : Nat} {t : Bool} (ht : match t with | true => ∃ z, l[p]? = some (k, z) ∧ x = some z | false => x = none) : (∀ z, x = some z → z.size ≤ 140737488355328) ∧ (x.isSome = true → k.size ≤ 140737488355328) := by
  cases t with
  | false => simp only at ht; subst ht; exact ⟨fun c h => (by cases h), fun h => (by cases h)⟩
  | true =>
    obtain ⟨z, hz, rfl⟩ := ht
    have := h _ (List.mem_of_getElem? hz)
    exact ⟨fun c hc => (by cases hc; exact this.2), fun _ => this.1⟩
theorem ok_join {x y : Option ChV} (hx : OkV x) (hy : OkV y) : (joinV (x, y)).old.size ≤ 140737488355328 ∧ (joinV (x, y)).new.size ≤ 140737488355328 := by
  cases x with
  | none =>
    cases y with
    | none => exact ⟨by decide, by decide⟩
    | some d => exact hy d rfl
  | some c =>
    cases y with
    | none => exact hx c rfl
    | some d => exact ⟨(hx c rfl).1, (hy d rfl).2⟩
theorem ok_made {x : Option ByteArray} {y : Option ChV} (hx : ∀ z, x = some z → z.size ≤ 140737488355328) (hy : OkV y) : ∀ z, madeV (x, y) = some z → z.size ≤ 140737488355328 := by
  intro z hz
  cases y with
  | none => cases x <;> simp [madeV] at hz; subst hz; exact hx _ rfl
  | some c =>
    have hz' : (if c.has then some c.new else none) = some z := by cases x <;> exact hz
    split at hz'
    · cases hz'; exact (hy c rfl).2
    · cases hz'
theorem ok_key {α β : Type} {x : Option α} {y : Option β} {k : ByteArray} (h1 : x.isSome = true → k.size ≤ 140737488355328) (h2 : y.isSome = true → k.size ≤ 140737488355328) (h : x.isSome = true ∨ y.isSome = true) : k.size ≤ 140737488355328 := h.elim h1 h2
theorem cell_off {w : World} {p q : Addr} {u : Value} (h : w.cell? p = some u) (hne : p.block ≠ q.block) (v : Value) : (w.setCell q v).cell? p = some u := (World.cell?_of_block (Below.heap_setCell w q v p.block hne)).trans h
/-- The state of Compose's loop: the two results lie in cells. -/
structure CJ (b4 b8 : Nat) (w : World) (a b : List Ch) (s : Nat × Nat) (W : World) : Prop where
  p1 : s.1 ≤ a.length
  p2 : s.2 ≤ b.length
  bel : Below w.heap.size w W
  r4 : row1 W b4 (.slice none 0 0) 23
  r5 : row1 W (b4 + 1) .nilIface 31
  ok : (side a b).all (fun e => okJ e.2) = (side (a.drop s.1) (b.drop s.2)).all (fun e => okJ e.2)
  lst : ∃ v out, row1 W b8 v 23 ∧ ChO W w.heap.size v out ∧ out ++ fm (fun e => actV (joinV e)) (side (a.drop s.1) (b.drop s.2)) = fm (fun e => actV (joinV e)) (side a b)
/-- Compose has found that they do not fit. -/
structure CX (b4 : Nat) (w : World) (a b : List Ch) (pL : Addr) (W : World) : Prop where
  bel : Below w.heap.size w W
  r4 : row1 W b4 (.slice none 0 0) 23
  r5 : row1 W (b4 + 1) (.iface 70 (.pointer (some pL))) 31
  no : (side a b).all (fun e => okJ e.2) = false
theorem len_outP {a : List Pr} {b : List Ch} {out mid rest : List Pr} (h : (out ++ mid) ++ rest = fm madeV (side a b)) (hn : (a.length + b.length + 1) * 56 ≤ 140737488355328) : (out.length + 1) * 32 ≤ 140737488355328 := by
  have h1 : ((out ++ mid) ++ rest).length ≤ a.length + b.length := by rw [h]; exact Nat.le_trans (fm_len _ _) (side_len a b)
  rw [List.length_append, List.length_append] at h1
  refine Nat.le_trans (Nat.le_trans (Nat.mul_le_mul_left _ (show 32 ≤ 56 by decide)) (Nat.mul_le_mul_right 56 ?_)) hn
  omega
theorem results_cs {fn : Func} {s u : Tmp} {b4 b5 : Nat} (h : fn.results = #[.cell s 23, .cell u 31]) (tmps : Array Value) (w : World) (hs : tmps.getD s undef = .pointer (some ⟨b4, 0, none⟩)) (hu : tmps.getD u undef = .pointer (some ⟨b5, 0, none⟩)) (a : Option Addr) (n c : Nat) (v5 : Value) (h4 : w.cell? ⟨b4, 0, none⟩ = some (.slice a n c)) (h5 : w.cell? ⟨b5, 0, none⟩ = some v5) : (results fn tmps).run Tryd.prog w = .ok (.tuple #[.slice a n c, v5]) w := by
  have hs' : tmps[s]?.getD undef = .pointer (some ⟨b4, 0, none⟩) := by simpa using hs
  have hu' : tmps[u]?.getD undef = .pointer (some ⟨b5, 0, none⟩) := by simpa using hu
  simp [results, h, go_sem, hs', hu', h4, h5]
theorem all_step {β : Type} {p : β → Bool} {e : β} {l m : List β} (h : l = e :: m) : l.all p = (p e && m.all p) := by rw [h, List.all_cons]
end Go.Proofs.YtiihnoohodklhaaDoor
