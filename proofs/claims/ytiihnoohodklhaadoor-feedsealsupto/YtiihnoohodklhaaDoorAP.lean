import Derived.Test.YtiihnoohodklhaaDoorDSm2
import Derived.BigRegion
import Derived.BigQuiet
import Derived.Deep.RegionHeld3
import Derived.Deep.RegionLaw
namespace Go.Proofs.YtiihnoohodklhaaDoor
open Go.RowKit
attribute [local go_sem ↓] Go.wp_at_zero Go.wp_at_succ

def tCH (t : TypeId) : Bool := t == 39
/-- What a round puts behind the others. -/
def actL (k : ByteArray) (x : ChV) : List Ch := match actV x with
  | some d => [(k, d)]
  | none => []
theorem actL_idle (k : ByteArray) (x : ChV) (h : idleV x = true) : actL k x = [] := by simp [actL, actV, h]
theorem actL_act (k : ByteArray) (x : ChV) (h : idleV x = false) : actL k x = [(k, x)] := by simp [actL, actV, h]
end Go.Proofs.YtiihnoohodklhaaDoor

namespace Go.Proofs.YtiihnoohodklhaaDoor
open Go.RowKit
attribute [local go_sem ↓] Go.wp_at_zero Go.wp_at_succ

/-- A pointer to a pair, or none. -/
def PtP (w : World) (v : Value) (k : ByteArray) : Option ByteArray → Prop
  | none => v = .pointer none
  | some y => ∃ g o, v = .pointer (some ⟨g, o, none⟩) ∧ w.cell? ⟨g, o, none⟩ = some (.string k) ∧ w.cell? ⟨g, o + 1, none⟩ = some (.string y)
theorem cell_al {w : World} {p : Addr} {u : Value} (hc : w.cell? p = some u) : (∀ o, (w.alloc o).cell? p = some u) ∧ ∀ o o', ((w.alloc o).alloc o').cell? p = some u := by
  have hb := World.block_lt_of_cell? w _ hc
  exact ⟨fun o => (World.cell?_of_block (Below.heap_alloc w o p.block hb)).trans hc, fun o o' => (World.cell?_of_block ((Below.heap_alloc (w.alloc o) o' p.block (by simp; omega)).trans (Below.heap_alloc w o p.block hb))).trans hc⟩
theorem al_first (w : World) (o o' : Obj) : ((w.alloc o).alloc o').heap[w.heap.size]? = some o := (Below.heap_alloc _ _ _ (by simp)).trans (World.alloc_heap_new w _)
theorem al_below (w : World) (o o' : Obj) : Below w.heap.size w ((w.alloc o).alloc o') := ((Below.refl _ w).alloc (Nat.le_refl _) _).alloc (by simp) _
end Go.Proofs.YtiihnoohodklhaaDoor

namespace Go.Proofs.YtiihnoohodklhaaDoor
open Go.RowKit
attribute [local go_sem ↓] Go.wp_at_zero Go.wp_at_succ

/-- A pointer to a change, or none. -/
def PtC (w : World) (v : Value) (k : ByteArray) : Option ChV → Prop
  | none => v = .pointer none
  | some x => ∃ g o, v = .pointer (some ⟨g, o, none⟩) ∧ ChAt w g o (k, x)
def fitB (x : ChV) (t : Bool) (v : ByteArray) : Bool := x.had == t && decide (x.old = v)
end Go.Proofs.YtiihnoohodklhaaDoor

namespace Go.Proofs.YtiihnoohodklhaaDoor
open Go.RowKit
attribute [local go_sem ↓] Go.wp_at_zero Go.wp_at_succ

/-- What a patch makes of a key's pair. -/
def madeL (k : ByteArray) (e : Option ByteArray × Option ChV) : List Pr := match madeV e with
  | some y => [(k, y)]
  | none => []
theorem fm_made (k : ByteArray) (e : Option ByteArray × Option ChV) (l : KL (Option ByteArray × Option ChV)) : fm madeV ((k, e) :: l) = madeL k e ++ fm madeV l := by
  rw [fm_cons]
  unfold madeL
  cases madeV e <;> rfl
/-- A call of strings.Clone within a region that draws its order. -/
theorem step_scl {ops : Array Oper} {o : Oper} {a : Act} {K : Act → World → Prop} {Q : Exit → Act → World → Prop} {E : Prop} (w : World) (hgd : o.guard = none) (x0 : Operand) (v0 : Value)
    (ho : o.op = .call { callee := .value (.func 21), args := #[x0], argTypes := #[9] }) (hx0 : a.eval x0 = v0)
    (h : Calls Tryd.prog 21 #[v0] w fun e w' => ∃ v, e = .returned v ∧ K (a.put o.dst v) w') :
    if Region.wanted o (yielded ops a.tmps) = true then Oper.wp Tryd.prog o a w K Q else E := by
  have hw : Region.wanted o (yielded ops a.tmps) = true := by simp [Region.wanted, hgd]
  rw [if_pos hw]
  have hrun : (execOp a.eval o).run Tryd.prog w = .ok (.enter 21 #[v0]) w := by
    have he : execOp a.eval o = callFunc 21 #[v0] := by
      obtain ⟨dst, op, ty, pos, after, guard⟩ := o
      simp only [] at ho
      subst ho
      have hy : execOp a.eval { dst := dst, op := .call { callee := .value (.func 21), args := #[x0], argTypes := #[9] }, type := ty, pos := pos, after := after, guard := guard } = callFunc 21 (#[] ++ #[x0].map a.eval ++ #[]) := rfl
      rw [hy]
      simp [hx0]
    rw [he]
    simp [callFunc, go_sem, Tryd.func21, Tryd.f21]
  unfold Oper.wp
  rw [hrun]
  refine h.mono ?_
  rintro e w' ⟨v, rfl, hk⟩
  exact hk
theorem step_app {ops : Array Oper} {o : Oper} {a : Act} {w : World} {K : Act → World → Prop} {Q : Exit → Act → World → Prop} {E : Prop} (t : TypeId) (hgd : o.guard = none) (d x : Operand)
    (ho : o.op = .call { callee := .builtin .append, args := #[d, x], argTypes := #[t, t] }) (hty : o.type = t) (vd vx : Value) (hd : a.eval d = vd) (hx : a.eval x = vx) (v : Value) (w' : World)
    (hrun : (Builtin.append_ #[t, t] t #[vd, vx]).run Tryd.prog w = .ok v w') (h : K (a.put o.dst v) w') : if Region.wanted o (yielded ops a.tmps) = true then Oper.wp Tryd.prog o a w K Q else E := by
  have hw : Region.wanted o (yielded ops a.tmps) = true := by simp [Region.wanted, hgd]
  rw [if_pos hw]
  unfold Oper.wp
  simp [execOp, ho, resolve, invoke, builtin, hd, hx, hty, hrun, Result.andThen]
  exact h
end Go.Proofs.YtiihnoohodklhaaDoor
