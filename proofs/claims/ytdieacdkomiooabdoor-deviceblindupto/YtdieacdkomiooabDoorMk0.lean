import Derived.Test.YtdieacdkomiooabDoorDMap
import Derived.Deep.MidRow
import Derived.Deep.WholeRow
import Derived.Laws.CopyOwn
namespace Go.Proofs.YtdieacdkomiooabDoor
open Go.RowKit Go.Maps

theorem zc : Tryd.zeroCells104 = (u8s (zeros 512)).toArray := by kernel_rfl
theorem sizeArr : (Tryd.prog.info? 104).map (·.size) = some 512 := by kernel_rfl
theorem size5 : (Tryd.prog.info? 5).map (·.size) = some 1 := by kernel_rfl
theorem byteCells_u8s (l : List UInt8) : Lib.byteCells l = u8s l := rfl
theorem zdrop (k n : Nat) : (u8s (zeros n)).drop k = u8s (zeros (n - k)) := by
  rw [u8s, u8s, zeros, zeros, List.map_replicate, List.map_replicate, List.drop_replicate]
theorem zjoin (t : ByteArray) : (Tryd.zeroCells104.toList.take 0 ++ Lib.byteCells t.data.toList ++ Tryd.zeroCells104.toList.drop (0 + t.size)).toArray = (u8s (bl (pad t))).toArray := by
  rw [zc, List.take_zero, List.nil_append, Nat.zero_add, zdrop, pad, bl_mkb, u8s_append]
  rfl
theorem zcopy (t : ByteArray) (w : World) (ht : t.size ≤ 512) : ∃ w2, (Builtin.copy_ #[36, 9] 3 #[.slice (some ⟨w.heap.size, 0, none⟩) 512 512, .string t]).run Tryd.prog (w.alloc (.cells Tryd.zeroCells104 104)) = .ok (goInt t.size) w2 ∧
    w2.heap[w.heap.size]? = some (.cells (u8s (bl (pad t))).toArray 104 (0, 0)) ∧ Below w.heap.size w w2 := by
  have hnew := heap_alloc_new w (.cells Tryd.zeroCells104 104)
  have hsz : Tryd.zeroCells104.size = 512 := by rw [zc, List.size_toArray, u8s_length, zeros_len]
  have hrun := Lib.run_copy_row_string (P := Tryd.prog) (w.alloc (.cells Tryd.zeroCells104 104)) 36 9 3 5 w.heap.size 0 512 512 t _ 104 Tryd.underlying36 size5 hnew ht (by rw [hsz]; omega)
  rw [zjoin] at hrun
  exact ⟨_, hrun, setRow_heap _ w.heap.size _ _ 104 _ hnew, below_setRow (below_new w _) (Nat.le_refl _) _⟩
theorem zload (w2 : World) (g : Nat) (t : ByteArray) (ht : t.size = 512) (h : w2.heap[g]? = some (.cells (u8s (bl t)).toArray 104 (0, 0))) : (Instr.loadAt 104 (.pointer (some ⟨g, 0, none⟩))).run Tryd.prog w2 = .ok (arr t) w2 := by
  simp only [Instr.loadAt, Instr.sureAddr, Sem.run_bind, Sem.run_pure, Result.andThen_ok]
  exact run_loadVar_row (P := Tryd.prog) w2 g 104 104 _ _ _ h und104 rfl (by rw [sizeArr, List.size_toArray, u8s_length, bl_len, ht])
theorem zguard (w : World) (x y : Operand) (t : ByteArray) : (eqGuard .eql 104 x y (arr t) (.agg Tryd.zeroCells104)).run Tryd.prog w = .ok () w := run_eqGuard_agg w .eql 104 x y _ _ (by kernel_rfl)
theorem zeq (w : World) (t : ByteArray) (ht : t.size = 512) : (binOp .eql 104 (arr t) (.agg Tryd.zeroCells104)).run Tryd.prog w = .ok (.bool (allZ t)) w := by
  rw [zc, arr, arr_eq w _ _ (by rw [bl_len]; exact ht) (zeros_len 512), allZ, ht]

theorem wpList_load_eq {P : Program} {ops : Array Oper} {rest : List Oper} {op : Oper} {a : Act} {w : World} {Q : Exit → Act → World → Prop} (hgd : op.guard = none) (ty : TypeId) (x : Operand) (ho : op.op = .load ty x)
    (p v : Value) (hx : a.eval x = p) (hrun : (Instr.loadAt ty p).run P w = .ok v w) (h : wpList P ops Q rest (a.put op.dst v) w) : wpList P ops Q (op :: rest) a w :=
  wpList_plain hgd fun _ hK => by
    unfold Oper.wp execOp
    simp only [ho, hx, Sem.run_bind, hrun, Result.andThen_ok, Sem.run_pure]
    exact hK _ _ h

end Go.Proofs.YtdieacdkomiooabDoor
