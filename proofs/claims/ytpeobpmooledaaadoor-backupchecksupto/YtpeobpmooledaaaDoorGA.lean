import Derived.Test.YtpeobpmooledaaaDoorKit
import Derived.BigQuiet
import Derived.Laws.IdiomStrings
namespace Go.Proofs.YtpeobpmooledaaaDoor
open Go.RowKit

/-- A block of the call's own that holds a struct's cells. -/
def Boxed (b : Nat) (cs : List Value) (w : World) : Prop := b < w.heap.size ∧ ∀ j (h : j < cs.length), w.cell? ⟨b, j, none⟩ = some cs[j]
theorem Boxed.below {b : Nat} {cs : List Value} {w w' : World} (h : Boxed b cs w) (hb : Below w.heap.size w w') : Boxed b cs w' :=
  ⟨Nat.lt_of_lt_of_le h.1 hb.size, fun j hj => (hb.cell (p := ⟨b, j, none⟩) h.1).trans (h.2 j hj)⟩
theorem boxed_new (w : World) (cs : Array Value) (t : TypeId) : Boxed w.heap.size cs.toList (w.alloc (.cells cs t)) := by
  refine ⟨by simp, fun j hj => ?_⟩
  have h : (w.alloc (.cells cs t)).heap[w.heap.size]? = some (.cells cs t (0, 0)) := heap_alloc_new w _
  rw [cell_of_row _ w.heap.size j cs t (0, 0) h]
  simp only [Array.length_toList] at hj
  simp [hj]
theorem below_new (w : World) (o : Obj) : Below w.heap.size w (w.alloc o) := (Below.refl _ _).alloc (Nat.le_refl _) o
/-- Two steps, each kept below its own beginning. -/
theorem Below.next {a b c : World} (h : Below a.heap.size a b) (k : Below b.heap.size b c) : Below a.heap.size a c := h.trans (k.mono h.size)

end Go.Proofs.YtpeobpmooledaaaDoor

namespace Go.Proofs.YtpeobpmooledaaaDoor
open Go.RowKit

theorem ret_int {k : IntKind} {a b : Int} (h : a = b) : Ending.returned (.int k a) = .returned (.int k b) := by rw [h]
theorem take_all_eq {l1 l2 : List UInt8} (hl : l1.length = l2.length) (h : l1.take l1.length = l2.take l1.length) : l1 = l2 := by
  rw [List.take_of_length_le (Nat.le_refl _), List.take_of_length_le (Nat.le_of_eq hl.symm)] at h
  exact h
theorem below_drewN' {B : Nat} {a w : World} (h : Below B a w) (n : Nat) : Below B a (w.drewN n) := ⟨h.os, h.tape, h.output, h.size, h.block⟩

end Go.Proofs.YtpeobpmooledaaaDoor

namespace Go.Proofs.YtpeobpmooledaaaDoor
open Go.RowKit

theorem hide {p : Prop} (h : p) : Hid p := h

end Go.Proofs.YtpeobpmooledaaaDoor

namespace Go.Proofs.YtpeobpmooledaaaDoor
open Go.RowKit

/-- The slice value v reads as the values us, one cell each. -/
def RowR (w : World) (v : Value) (us : List Value) : Prop := ∃ a cap, v = .slice a us.length cap ∧ us.length ≤ cap ∧ (a = none → cap = 0) ∧ ∀ j u, us[j]? = some u → ∃ g o, a = some ⟨g, o, none⟩ ∧ w.cell? ⟨g, o + j, none⟩ = some u
theorem RowR.below {w w' : World} {v : Value} {us : List Value} (h : RowR w v us) (hb : Below w.heap.size w w') : RowR w' v us := by
  obtain ⟨a, cap, rfl, hle, hn, hc⟩ := h
  refine ⟨a, cap, rfl, hle, hn, fun j u hj => ?_⟩
  obtain ⟨g, o, ha, hcell⟩ := hc j u hj
  exact ⟨g, o, ha, (hb.cell (p := ⟨g, o + j, none⟩) (World.block_lt_of_cell? w _ hcell)).trans hcell⟩
theorem rowR_of_owns {w : World} {base e n : Nat} {v : Value} {us : List Value} (h : w.ownsRow base e 1 v n us) : RowR w v us := by
  have hl := h.1
  rw [Nat.mul_one] at hl
  rcases h.2 with ⟨rfl, hn⟩ | ⟨g, cap, cur, rfl, hb, hg, hnc, hcm, hcs, htk⟩
  · have h0 : us.length = 0 := by omega
    exact ⟨none, 0, by rw [h0], by omega, fun _ => rfl, fun j u hj => by rw [List.length_eq_zero_iff.1 h0] at hj; simp at hj⟩
  · refine ⟨some ⟨g, 0, none⟩, cap, by rw [hl], by omega, fun h => (by cases h), fun j u hj => ⟨g, 0, rfl, ?_⟩⟩
    have hj' := (List.getElem?_eq_some_iff.1 hj).1
    rw [Nat.zero_add, h.cellAt j (by omega)]; exact hj
theorem RowR.take {w : World} {a : Option Addr} {n m cap : Nat} {us : List Value} (h : RowR w (.slice a n cap) us) (hm : m ≤ n) : RowR w (.slice a m cap) (us.take m) := by
  obtain ⟨a', cap', he, hle, hn, hc⟩ := h
  cases he
  refine ⟨a, cap, by rw [List.length_take, Nat.min_eq_left hm], by rw [List.length_take]; omega, hn, fun j u hj => hc j u ?_⟩
  rw [List.getElem?_take] at hj
  split at hj
  · exact hj
  · cases hj
theorem add_plain' (b o c : Nat) : (⟨b, o, none⟩ : Addr).add c = ⟨b, o + c, none⟩ := by
  unfold Addr.add
  split
  · rename_i h; rw [h, Nat.add_zero]
  · rfl

/-- append(v, s...). -/
theorem append_row (t e : TypeId) (z : Value) (bytes : Nat) (hinfo : (Tryd.prog.info? e).map (fun i => (i.zero, i.size, i.bytes)) = some (some z, 1, bytes)) (ht : Tryd.prog.underlying t = some (.slice e)) (hz1 : z.cells.size = 1) (base n : Nat) (v : Value) (xs : List Value) (w : World) (hown : w.ownsRow base e 1 v n xs)
    (s : Value) (us : List Value) (hs : RowR w s us) (h1 : ∀ u ∈ us, u.oneCell' = true) (hb : (n + us.length) * bytes ≤ 140737488355328) (hb1 : 1 ≤ bytes) (hbase : base ≤ w.heap.size) :
    ∃ a' cap' w', (Builtin.append_ #[t, t] t #[v, s]).run Tryd.prog w = .ok (.slice a' (n + us.length) cap') w' ∧ w'.ownsRow base e 1 (.slice a' (n + us.length) cap') (n + us.length) (xs ++ us) ∧ w.grownBy w' v.ownBlock := by
  obtain ⟨i0, hi, hz, hsz, hby⟩ := info_parts hinfo
  obtain ⟨a, cap, rfl, hle, hnil, hc⟩ := hs
  cases a with
  | none =>
    have h0 : us = [] := by
      cases us with
      | nil => rfl
      | cons u r => obtain ⟨g, o, he, _⟩ := hc 0 u rfl; cases he
    subst h0
    rw [hnil rfl]
    have hr := run_append_owned_none (P := Tryd.prog) w base t t e i0 1 ht hi v n xs hown
    have hf : ∃ a' c', v = .slice a' n c' := by
      rcases hown.2 with ⟨rfl, rfl⟩ | ⟨g, cap, cur, rfl, _⟩
      · exact ⟨_, _, rfl⟩
      · exact ⟨_, _, rfl⟩
    obtain ⟨a', c', rfl⟩ := hf
    exact ⟨a', c', w, hr, by rw [List.append_nil]; exact hown, ⟨rfl, rfl, rfl, Nat.le_refl _, fun _ _ _ => rfl⟩⟩
  | some ad =>
    have hB : (n + us.length) * 1 ≤ (n + us.length) * bytes := Nat.mul_le_mul_left _ hb1
    obtain ⟨v', w', hr, hown', hgr, _⟩ := run_append_own (P := Tryd.prog) w base t t e i0 z 1 bytes ht hi hz hsz hby hz1 (by decide) v n xs hown ad us.length cap us (by rw [Nat.mul_one]) (fun j u hj => by
      obtain ⟨g, o, he, hcell⟩ := hc j u hj
      cases he
      rw [add_plain']; exact hcell) h1 (by unfold maxLen; omega) hb hbase
    have hf : ∃ a' c', v' = .slice a' (n + us.length) c' := by
      rcases hown'.2 with ⟨rfl, h0⟩ | ⟨g, cap, cur, rfl, _⟩
      · exact ⟨none, 0, by rw [h0]⟩
      · exact ⟨_, _, rfl⟩
    obtain ⟨a', c', rfl⟩ := hf
    exact ⟨a', c', w', hr, hown', hgr⟩

theorem wpList_append_run {ops : Array Oper} {rest : List Oper} {o : Oper} {a : Act} {w : World} {Q : Exit → Act → World → Prop} (t : TypeId) (hgd : o.guard = none) (d x : Operand)
    (ho : o.op = .call { callee := .builtin .append, args := #[d, x], argTypes := #[t, t] }) (hty : o.type = t) (vd vx : Value) (hd : a.eval d = vd) (hx : a.eval x = vx) (v : Value) (w' : World)
    (hrun : (Builtin.append_ #[t, t] t #[vd, vx]).run Tryd.prog w = .ok v w') (h : wpList Tryd.prog ops Q rest (a.put o.dst v) w') : wpList Tryd.prog ops Q (o :: rest) a w :=
  wpList_plain hgd fun _ hK => by
    unfold Oper.wp
    simp [execOp, ho, resolve, invoke, builtin, hd, hx, hty, hrun, Result.andThen]
    exact hK _ _ h

def ints (l : List Int) : List Value := l.map (Value.int .i64)
theorem ints_length (l : List Int) : (ints l).length = l.length := by simp [ints]
theorem ints_get (l : List Int) (j : Nat) (h : j < l.length) : (ints l)[j]? = some (.int .i64 l[j]) := by simp [ints, h]
theorem ints_one (l : List Int) : ∀ u ∈ ints l, u.oneCell' = true := by
  intro u hu
  simp only [ints, List.mem_map] at hu
  obtain ⟨c, _, rfl⟩ := hu
  rfl
theorem ints_append (a b : List Int) : ints (a ++ b) = ints a ++ ints b := by simp [ints]
theorem info3 : (Tryd.prog.info? 3).map (fun i => (i.zero, i.size, i.bytes)) = some (some (.int .i64 0), 1, 8) := by kernel_rfl

end Go.Proofs.YtpeobpmooledaaaDoor
