import Derived.Test.YthnidlhcpelomaaDoorDStep
import Derived.Test.YthnidlhcpelomaaDoorDFol
import Derived.Test.YthnidlhcpelomaaDoorDJo2
import Derived.Test.YthnidlhcpelomaaDoorDMad
namespace Go.Proofs.YthnidlhcpelomaaDoor
open Go.RowKit

/-- A block of one cell. -/
def row1 (W : World) (b : Nat) (x : Value) (t : TypeId) : Prop := W.heap[b]? = some (.cells #[x] t (0, 0))
theorem row1.bel {W W' : World} {b : Nat} {x : Value} {t : TypeId} (h : row1 W b x t) (hb : Below W.heap.size W W') : row1 W' b x t := (hb.block b (Array.getElem?_eq_some_iff.1 h).1).trans h
theorem row1.c0 {W : World} {b : Nat} {x : Value} {t : TypeId} (h : row1 W b x t) : W.cell? ⟨b, 0, none⟩ = some x := by rw [cell_of_row W b 0 _ _ _ h]; rfl
theorem row1.frz {W : World} {b : Nat} {x : Value} {t : TypeId} (h : row1 W b x t) (o : Nat) : W.frozen? ⟨b, o, none⟩ = false := frozen_of_row _ _ _ _ _ h
theorem row1.set {W : World} {b : Nat} {x : Value} {t : TypeId} (h : row1 W b x t) (v : Value) : row1 (W.setCell ⟨b, 0, none⟩ v) b v t := Go.heap_setCell_same W b 0 _ t v h
theorem row1.oth {W : World} {b : Nat} {x : Value} {t : TypeId} (h : row1 W b x t) {c : Nat} (hne : b ≠ c) (k : Nat) (v : Value) : row1 (W.setCell ⟨c, k, none⟩ v) b x t := (Below.heap_setCell W _ v b hne).trans h
theorem row1.but {W W' : World} {b m : Nat} {x : Value} {t : TypeId} {X : Obj → Bool} (h : row1 W b x t) (hk : But m X W W') (hX : X (.cells #[x] t (0, 0)) = false) : row1 W' b x t := hk.same _ _ h (fun hh => by rw [hX] at hh; cases hh.2)
theorem row1.put {W : World} {b D : Nat} {x : Value} {t : TypeId} {o o' : Obj} (h : row1 W b x t) (hd : W.heap[D]? = some o) (ho : o.isCells = false) : row1 (W.putObj D o') b x t := (World.putObj_heap_other (fun e => by rw [← e] at hd; rw [h] at hd; cases hd; cases ho)).trans h
theorem PtC.bel {w w' : World} {v : Value} {k : ByteArray} {o : Option ChV} (h : PtC w v k o) (hb : Below w.heap.size w w') : PtC w' v k o := by
  cases o with
  | none => exact h
  | some y => obtain ⟨g, o, h1, h2⟩ := h; exact ⟨g, o, h1, h2.block (hb.block g h2.lt)⟩
theorem ptc_of {w : World} {a1 : Option Addr} {n c p : Nat} {a : List Ch} {k : ByteArray} {x : Option ChV} {t : Bool} (h : ChR w (.slice a1 n c) a) (ht : match t with | true => ∃ z, a[p]? = some (k, z) ∧ x = some z | false => x = none) : PtC w (ptrIf 5 t a1 p) k x := by
  cases t with
  | false => simp only at ht; subst ht; rfl
  | true =>
    obtain ⟨z, hz, rfl⟩ := ht
    obtain ⟨hp, hv⟩ := List.getElem?_eq_some_iff.1 hz
    obtain ⟨a', cap, he, hle, hnl, hc⟩ := h
    cases he
    obtain ⟨g, o, rfl, c0⟩ := hc p hp
    rw [hv] at c0
    exact ⟨g, o + p * 5, rfl, c0⟩
/-- A change whose texts are such as a machine's can be. -/
def OkV (x : Option ChV) : Prop := ∀ c, x = some c → c.old.size ≤ 140737488355328 ∧ c.new.size ≤ 140737488355328
theorem okc_at {l : List Ch} (h : OkC l) {k : ByteArray} {x : Option ChV} {p : Nat} {t : Bool} (ht : match t with | true => ∃ z, l[p]? = some (k, z) ∧ x = some z | false => x = none) : OkV x ∧ (x.isSome = true → k.size ≤ 140737488355328) := by
  cases t with
  | false => simp only at ht; subst ht; exact ⟨fun c h => (by cases h), fun h => (by cases h)⟩
  | true =>
    obtain ⟨z, hz, rfl⟩ := ht
    have := h _ (List.mem_of_getElem? hz)
    exact ⟨fun c hc => (by cases hc; exact this.2), fun _ => this.1⟩
theorem okl_at {l : List Pr} (h : OkL l) {k : ByteArray} {x : Option ByteArray} {p : Nat} {t : Bool} (ht : match t with | true => ∃ z, l[p]? = some (k, z) ∧ x = some z | false => x = none) : (∀ z, x = some z → z.size ≤ 140737488355328) ∧ (x.isSome = true → k.size ≤ 140737488355328) := by
  cases t with
  | false => simp only at ht; subst ht; exact ⟨fun c h => (by cases h), fun h => (by cases h)⟩
  | true =>
    obtain ⟨z, hz, rfl⟩ := ht
    have := h _ (List.mem_of_getElem? hz)
    exact ⟨fun c hc => (by cases hc; exact this.2), fun _ => this.1⟩
theorem ok_join {x y : Option ChV} (hx : OkV x) (hy : OkV y) : (joinV (x, y)).old.size ≤ 140737488355328 ∧ (joinV (x, y)).new.size ≤ 140737488355328 := by
  cases x with
  | none =>
    cases y with
    | none => exact ⟨by decide, by decide⟩
    | some d => exact hy d rfl
  | some c =>
    cases y with
    | none => exact hx c rfl
    | some d => exact ⟨(hx c rfl).1, (hy d rfl).2⟩
theorem ok_made {x : Option ByteArray} {y : Option ChV} (hx : ∀ z, x = some z → z.size ≤ 140737488355328) (hy : OkV y) : ∀ z, madeV (x, y) = some z → z.size ≤ 140737488355328 := by
  intro z hz
  cases y with
  | none => cases x <;> simp [madeV] at hz; subst hz; exact hx _ rfl
  | some c =>
    have hz' : (if c.has then some c.new else none) = some z := by cases x <;> exact hz
    split at hz'
    · cases hz'; exact (hy c rfl).2
    · cases hz'
theorem ok_key {α β : Type} {x : Option α} {y : Option β} {k : ByteArray} (h1 : x.isSome = true → k.size ≤ 140737488355328) (h2 : y.isSome = true → k.size ≤ 140737488355328) (h : x.isSome = true ∨ y.isSome = true) : k.size ≤ 140737488355328 := h.elim h1 h2
def tV (t : TypeId) : Bool := tU t || t == 31
theorem tU_tV (o : Obj) (h : ofT tU o = true) : ofT tV o = true := by
  cases o with
  | cells cs t f => simp only [ofT, tV] at h ⊢; rw [h]; rfl
  | _ => cases h
theorem cell_off {w : World} {p q : Addr} {u : Value} (h : w.cell? p = some u) (hne : p.block ≠ q.block) (v : Value) : (w.setCell q v).cell? p = some u := (World.cell?_of_block (Below.heap_setCell w q v p.block hne)).trans h
/-- The state of Compose's loop: the two results lie in cells. -/
structure CJ (b4 b8 : Nat) (w : World) (a b : List Ch) (s : Nat × Nat) (W : World) : Prop where
  p1 : s.1 ≤ a.length
  p2 : s.2 ≤ b.length
  bel : Below w.heap.size w W
  r4 : row1 W b4 (.slice none 0 0) 23
  r5 : row1 W (b4 + 1) .nilIface 31
  ok : (side a b).all (fun e => okJ e.2) = (side (a.drop s.1) (b.drop s.2)).all (fun e => okJ e.2)
  lst : ∃ v out, row1 W b8 v 23 ∧ ChO W w.heap.size v out ∧ out ++ fm (fun e => actV (joinV e)) (side (a.drop s.1) (b.drop s.2)) = fm (fun e => actV (joinV e)) (side a b)
/-- Compose has found that they do not fit. -/
structure CX (b4 : Nat) (w : World) (a b : List Ch) (pL : Addr) (W : World) : Prop where
  bel : Below w.heap.size w W
  r4 : row1 W b4 (.slice none 0 0) 23
  r5 : row1 W (b4 + 1) (.iface 102 (.pointer (some pL))) 31
  no : (side a b).all (fun e => okJ e.2) = false
theorem CJ.keep {b4 b8 m : Nat} {w A B : World} {a b : List Ch} {s : Nat × Nat} (h : CJ b4 b8 w a b s A) (hk : But m (ofTN tK) A B) (hm : w.heap.size ≤ m) : CJ b4 b8 w a b s B := by
  obtain ⟨h1, h2, h3, h7, h8, h9, v, out, h4, h5, h6⟩ := h
  exact ⟨h1, h2, bel_but h3 hk hm, h7.but hk rfl, h8.but hk rfl, h9, v, out, h4.but hk rfl, h5.keep (fun g cs _ hg => hk.same _ _ hg (fun hh => by have := hh.2; simp [ofTN, tK] at this)), h6⟩
theorem CX.keep {b4 m : Nat} {w A B : World} {a b : List Ch} {pL : Addr} (h : CX b4 w a b pL A) (hk : But m (ofTN tK) A B) (hm : w.heap.size ≤ m) : CX b4 w a b pL B := by
  obtain ⟨h3, h7, h8, h9⟩ := h
  exact ⟨bel_but h3 hk hm, h7.but hk rfl, h8.but hk rfl, h9⟩
/-- The same of Patch's. -/
structure PJ (b4 b8 : Nat) (w : World) (a : List Pr) (b : List Ch) (s : Nat × Nat) (W : World) : Prop where
  p1 : s.1 ≤ a.length
  p2 : s.2 ≤ b.length
  bel : Below w.heap.size w W
  r4 : row1 W b4 (.slice none 0 0) 22
  r5 : row1 W (b4 + 1) .nilIface 31
  ok : (side a b).all (fun e => okM e.2) = (side (a.drop s.1) (b.drop s.2)).all (fun e => okM e.2)
  lst : ∃ v out, row1 W b8 v 22 ∧ PrO W w.heap.size v out ∧ out ++ fm madeV (side (a.drop s.1) (b.drop s.2)) = fm madeV (side a b)
structure PX (b4 : Nat) (w : World) (a : List Pr) (b : List Ch) (pL : Addr) (W : World) : Prop where
  bel : Below w.heap.size w W
  r4 : row1 W b4 (.slice none 0 0) 22
  r5 : row1 W (b4 + 1) (.iface 102 (.pointer (some pL))) 31
  no : (side a b).all (fun e => okM e.2) = false
theorem PJ.keep {b4 b8 m : Nat} {w A B : World} {a : List Pr} {b : List Ch} {s : Nat × Nat} (h : PJ b4 b8 w a b s A) (hk : But m (ofTN tK) A B) (hm : w.heap.size ≤ m) : PJ b4 b8 w a b s B := by
  obtain ⟨h1, h2, h3, h7, h8, h9, v, out, h4, h5, h6⟩ := h
  exact ⟨h1, h2, bel_but h3 hk hm, h7.but hk rfl, h8.but hk rfl, h9, v, out, h4.but hk rfl, h5.keep (fun g cs _ hg => hk.same _ _ hg (fun hh => by have := hh.2; simp [ofTN, tK] at this)), h6⟩
theorem PX.keep {b4 m : Nat} {w A B : World} {a : List Pr} {b : List Ch} {pL : Addr} (h : PX b4 w a b pL A) (hk : But m (ofTN tK) A B) (hm : w.heap.size ≤ m) : PX b4 w a b pL B := by
  obtain ⟨h3, h7, h8, h9⟩ := h
  exact ⟨bel_but h3 hk hm, h7.but hk rfl, h8.but hk rfl, h9⟩
theorem len_outP {a : List Pr} {b : List Ch} {out mid rest : List Pr} (h : (out ++ mid) ++ rest = fm madeV (side a b)) (hn : (a.length + b.length + 1) * 56 ≤ 140737488355328) : (out.length + 1) * 32 ≤ 140737488355328 := by
  have h1 : ((out ++ mid) ++ rest).length ≤ a.length + b.length := by rw [h]; exact Nat.le_trans (fm_len _ _) (side_len a b)
  rw [List.length_append, List.length_append] at h1
  refine Nat.le_trans (Nat.le_trans (Nat.mul_le_mul_left _ (show 32 ≤ 56 by decide)) (Nat.mul_le_mul_right 56 ?_)) hn
  omega
theorem results_cs {fn : Func} {s u : Tmp} {b4 b5 : Nat} (h : fn.results = #[.cell s 23, .cell u 31]) (tmps : Array Value) (w : World) (hs : tmps.getD s undef = .pointer (some ⟨b4, 0, none⟩)) (hu : tmps.getD u undef = .pointer (some ⟨b5, 0, none⟩)) (a : Option Addr) (n c : Nat) (v5 : Value) (h4 : w.cell? ⟨b4, 0, none⟩ = some (.slice a n c)) (h5 : w.cell? ⟨b5, 0, none⟩ = some v5) : (results fn tmps).run Tryd.prog w = .ok (.tuple #[.slice a n c, v5]) w := by
  have hs' : tmps[s]?.getD undef = .pointer (some ⟨b4, 0, none⟩) := by simpa using hs
  have hu' : tmps[u]?.getD undef = .pointer (some ⟨b5, 0, none⟩) := by simpa using hu
  simp [results, h, go_sem, hs', hu', h4, h5]
theorem results_ps {fn : Func} {s u : Tmp} {b4 b5 : Nat} (h : fn.results = #[.cell s 22, .cell u 31]) (tmps : Array Value) (w : World) (hs : tmps.getD s undef = .pointer (some ⟨b4, 0, none⟩)) (hu : tmps.getD u undef = .pointer (some ⟨b5, 0, none⟩)) (a : Option Addr) (n c : Nat) (v5 : Value) (h4 : w.cell? ⟨b4, 0, none⟩ = some (.slice a n c)) (h5 : w.cell? ⟨b5, 0, none⟩ = some v5) : (results fn tmps).run Tryd.prog w = .ok (.tuple #[.slice a n c, v5]) w := by
  have hs' : tmps[s]?.getD undef = .pointer (some ⟨b4, 0, none⟩) := by simpa using hs
  have hu' : tmps[u]?.getD undef = .pointer (some ⟨b5, 0, none⟩) := by simpa using hu
  simp [results, h, go_sem, hs', hu', h4, h5]
theorem all_step {β : Type} {p : β → Bool} {e : β} {l m : List β} (h : l = e :: m) : l.all p = (p e && m.all p) := by rw [h, List.all_cons]
end Go.Proofs.YthnidlhcpelomaaDoor
