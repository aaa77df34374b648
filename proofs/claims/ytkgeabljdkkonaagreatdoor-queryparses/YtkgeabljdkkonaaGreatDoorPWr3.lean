import Derived.Test.YtkgeabljdkkonaaGreatDoorPWr2
import Derived.Deep.RegionLaw
namespace Go.Proofs.YtkgeabljdkkonaaGreatDoor
open Go.RowKit

theorem step_append_run2 {ops : Array Oper} {o : Oper} {a : Act} {w : World} {K : Act → World → Prop} {Q : Exit → Act → World → Prop} {E : Prop} (t : TypeId) (hgd : o.guard = none) (d x : Operand)
    (ho : o.op = .call { callee := .builtin .append, args := #[d, x], argTypes := #[t, t] }) (hty : o.type = t) (vd vx : Value) (hd : a.eval d = vd) (hx : a.eval x = vx) (v : Value) (w' : World)
    (hrun : (Builtin.append_ #[t, t] t #[vd, vx]).run Tryz.prog w = .ok v w') (h : K (a.put o.dst v) w') : if Region.wanted o (yielded ops a.tmps) = true then Oper.wp Tryz.prog o a w K Q else E := by
  have hw : Region.wanted o (yielded ops a.tmps) = true := by simp [Region.wanted, hgd]
  rw [if_pos hw]
  unfold Oper.wp
  simp [execOp, ho, resolve, invoke, builtin, hd, hx, hty, hrun, Result.andThen]
  exact h
theorem and15 : ∀ x : Fin 256, bits BinOp.and IntKind.u8 (x.1 : Int) 15 = ((x.1 % 16 : Nat) : Int) := by decide +kernel
theorem quotedL_le (s : ByteArray) : (quotedL s).length ≤ 4 * s.size + 2 := by
  have := quoL_len s.data.toList
  rw [q_len] at this
  simp only [quotedL, List.length_cons, List.length_append, List.length_nil]
  omega
end Go.Proofs.YtkgeabljdkkonaaGreatDoor
