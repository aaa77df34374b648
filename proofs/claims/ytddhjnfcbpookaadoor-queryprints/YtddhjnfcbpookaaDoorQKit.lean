import Derived.Test.YtddhjnfcbpookaaDoorQCond
import Derived.Laws.ResultCell
import Derived.Deep.DrawnRows
import Derived.Laws.CopyOwn
import Derived.Deep.DeepCutAuto
import Derived.Deep.CutBlock
namespace Go.Proofs.YtddhjnfcbpookaaDoor
open Go.RowKit

theorem results_row_tmp {P : Program} {fn : Func} {p u : Tmp} {ty : TypeId} (h : fn.results = #[.cell p ty, .tmp u]) (tmps : Array Value) (w : World) (g : Nat) (t : TypeId) (cs : Array Value) (fr : Nat × Nat) (d : TypeDesc)
    (hp : tmps.getD p undef = .pointer (some ⟨g, 0, none⟩)) (hg : w.heap[g]? = some (.cells cs t fr)) (hu : P.underlying ty = some d) (hd : (match d with | .struct _ | .array _ _ => true | _ => false) = true) (hi : (P.info? ty).map (·.size) = some cs.size) :
    (results fn tmps).run P w = .ok (.tuple #[.agg cs, tmps.getD u undef]) w := by
  rw [results_cell_tmp h tmps P w, hp]
  simp [asAddr, run_loadVar_row w g t ty cs fr d hg hu hd hi, Result.andThen]
/-- A block that is a whole row. -/
def RowAt (w : World) (b : Nat) (cs : Array Value) (t : TypeId) : Prop := w.heap[b]? = some (.cells cs t (0, 0))
section
variable {w w' : World} {b : Nat} {cs : Array Value} {t : TypeId}
theorem RowAt.cell (h : RowAt w b cs t) (j : Nat) (hj : j < cs.size) : w.cell? ⟨b, j, none⟩ = some cs[j] := by
  rw [cell_of_row _ _ _ _ _ _ h]; simp [hj]
theorem RowAt.free (h : RowAt w b cs t) (j : Nat) : w.frozen? ⟨b, j, none⟩ = false := frozen_of_row _ _ _ _ _ h
theorem RowAt.lt (h : RowAt w b cs t) : b < w.heap.size := by
  rcases Nat.lt_or_ge b w.heap.size with h' | h'
  · exact h'
  · unfold RowAt at h; rw [Array.getElem?_eq_none h'] at h; cases h
theorem RowAt.below (h : RowAt w b cs t) (hb : Below w.heap.size w w') : RowAt w' b cs t := by
  unfold RowAt; rw [hb.block b h.lt]; exact h
theorem RowAt.new (w : World) (cs : Array Value) (t : TypeId) : RowAt (w.alloc (.cells cs t)) w.heap.size cs t := heap_alloc_new w _
theorem RowAt.other {g j : Nat} (h : RowAt w b cs t) (hne : b ≠ g) (u : Value) : RowAt (w.setCell ⟨g, j, none⟩ u) b cs t := by
  unfold RowAt; rw [Below.heap_setCell _ _ _ _ (fun e => hne e)]; exact h
/-- The cells of a query's row. -/
theorem RowAt.q5 {x0 x1 x2 x3 x4 : Value} (h : RowAt w b #[x0, x1, x2, x3, x4] t) : w.cell? ⟨b, 0, none⟩ = some x0 ∧ w.cell? ⟨b, 1, none⟩ = some x1 ∧ w.cell? ⟨b, 2, none⟩ = some x2 ∧ w.cell? ⟨b, 3, none⟩ = some x3 ∧ w.cell? ⟨b, 4, none⟩ = some x4 := ⟨h.cell 0 (by simp), h.cell 1 (by simp), h.cell 2 (by simp), h.cell 3 (by simp), h.cell 4 (by simp)⟩
theorem RowAt.q6 {x0 x1 x2 x3 x4 x5 : Value} (h : RowAt w b #[x0, x1, x2, x3, x4, x5] t) : w.cell? ⟨b, 0, none⟩ = some x0 ∧ w.cell? ⟨b, 1, none⟩ = some x1 ∧ w.cell? ⟨b, 2, none⟩ = some x2 ∧ w.cell? ⟨b, 3, none⟩ = some x3 ∧ w.cell? ⟨b, 4, none⟩ = some x4 ∧ w.cell? ⟨b, 5, none⟩ = some x5 := ⟨h.cell 0 (by simp), h.cell 1 (by simp), h.cell 2 (by simp), h.cell 3 (by simp), h.cell 4 (by simp), h.cell 5 (by simp)⟩
end
theorem hide {p : Prop} (h : p) : Hid p := h
theorem below_drewN' {B : Nat} {a w : World} (h : Below B a w) (n : Nat) : Below B a (w.drewN n) := ⟨h.os, h.tape, h.output, h.size, h.block⟩
/-- A query's value. -/
abbrev qV (q : Qd) (cv : Value) : Array Value := #[.string q.table, cv, .string q.order, .bool q.falling, .int .i64 q.limit]
/-- One item, in a block of its own. -/
theorem its_one {w : World} {F : Nat → Prop} {g : Nat} {x : It} {u : Value} {t : TypeId} (hr : RowAt w g #[.int .i64 x.kind, .int .i64 x.num, .string x.text, u] t) (hg : F g) (hx : x.Ok) (hu : ItsAt w F u x.list) : ItsAt w F (.slice (some ⟨g, 0, none⟩) 1 1) [x] := by
  refine .mk _ g 0 1 [x] (fun _ => u) (by simp) (fun _ => ⟨rfl, hg⟩) (fun i h => ?_) (fun i h => ?_) (fun i h => ?_) (fun i h => ?_) (fun i h => ?_) (fun i h => ?_)
  all_goals
    have e : i = 0 := by simpa using h
    subst e
  · exact hx
  · exact hr.cell 0 (by simp)
  · exact hr.cell 1 (by simp)
  · exact hr.cell 2 (by simp)
  · exact hr.cell 3 (by simp)
  · exact hu
theorem wpList_store_eq {P : Program} {ops : Array Oper} {rest : List Oper} {op : Oper} {a : Act} {w w' : World} {Q : Exit → Act → World → Prop} (hgd : op.guard = none) (ty : TypeId) (x y : Operand) (ho : op.op = .store ty x y)
    (p v : Value) (hx : a.eval x = p) (hy : a.eval y = v) (hrun : (Instr.storeAt ty p v).run P w = .ok () w') (h : wpList P ops Q rest (a.put op.dst undef) w') : wpList P ops Q (op :: rest) a w :=
  wpList_plain hgd fun _ hK => by
    unfold Oper.wp execOp
    simp only [ho, hx, hy, Sem.run_bind, hrun, Result.andThen_ok, Sem.run_pure]
    exact hK _ _ h
/-- A store of a whole struct. -/
theorem store_row (w : World) (H : Nat) (t : TypeId) (old cs : Array Value) (hr : RowAt w H old t) (hi : (Tryd.prog.info? t).map (·.size) = some cs.size) (ho : old.size = cs.size) (h1 : cs.all Value.oneCell' = true) : (Instr.storeAt t (.pointer (some ⟨H, 0, none⟩)) (.agg cs)).run Tryd.prog w = .ok () (w.setRow H cs) := by
  have := run_storeVar_row (P := Tryd.prog) w H t t old cs hr hi ho h1
  simp only [Instr.storeAt, Instr.sureAddr, Sem.run_bind, Sem.run_pure, Result.andThen_ok, this]
theorem row_set (w : World) (H : Nat) (t : TypeId) (old cs : Array Value) (hr : RowAt w H old t) : RowAt (w.setRow H cs) H cs t := setRow_heap w H old cs _ _ hr
theorem but_row (w : World) (H : Nat) (cs : Array Value) : But w (w.setRow H cs) (some H) := by
  have h := below_setRow (Below.refl H w) (Nat.le_refl H) cs
  refine ⟨h.size, fun k hk hne => ?_⟩
  exact setRow_other w H k cs (fun e => hne (by rw [e]))
theorem CsOwn.but {w w' : World} {base k : Nat} {v : Value} {l : List Cd} (h : CsOwn w base v l) (hb : But w w' (some k)) (hk : k < base) : CsOwn w' base v l := by
  obtain ⟨us, hus, how, hok, hin⟩ := h
  refine ⟨us, hus, ⟨how.1, ?_⟩, hok, fun i h h' => ((hin i h h').but hb (fun g hg e => by have := Option.some.inj e; have := hg.1; omega)).imp fun k hk => ⟨hk.1, hk.2.1, Nat.lt_of_lt_of_le hk.2.2 hb.size⟩⟩
  rcases how.2 with h' | ⟨g, cap, cur, h', h1, hg, hr⟩
  · exact .inl h'
  · exact .inr ⟨g, cap, cur, h', h1, (hb.block g (Array.getElem?_eq_some_iff.1 hg).1 (fun e => by have := Option.some.inj e; omega)).trans hg, hr⟩
theorem CsOwn.mono {w : World} {base b2 : Nat} {v : Value} {l : List Cd} (h : CsOwn w base v l) (hb : b2 ≤ base) : CsOwn w b2 v l := by
  obtain ⟨us, hus, how, hok, hin⟩ := h
  refine ⟨us, hus, ⟨how.1, ?_⟩, hok, fun i h h' => (hin i h h').imp fun k hk => ⟨Nat.le_trans hb hk.1, hk.2⟩⟩
  rcases how.2 with h' | ⟨g, cap, cur, h', h1, hg, hr⟩
  · exact .inl h'
  · exact .inr ⟨g, cap, cur, h', Nat.le_trans hb h1, hg, hr⟩
theorem cnt_one (x : It) : cntL [x] = x.cnt := by simp [cntL]
end Go.Proofs.YtddhjnfcbpookaaDoor
