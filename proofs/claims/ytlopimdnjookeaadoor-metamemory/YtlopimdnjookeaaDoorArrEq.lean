import Derived.Test.YtlopimdnjookeaaDoorRowT
import Derived.ChangeKeysEq
namespace Go.Proofs.YtlopimdnjookeaaDoor
open Go.RowKit

theorem part5 (w : World) (l : List UInt8) (j : Nat) (h : j < l.length) : (part 5 (u8s l).toArray j).run Tryd.prog w = .ok (.int .u8 (l[j].toNat : Int)) w := by
  have ha : (isAgg 5).run Tryd.prog w = .ok false w := by kernel_rfl
  have hg : (u8s l).toArray[j]? = some (.int .u8 (l[j].toNat : Int)) := by simpa using u8s_get l j h
  simp [part, Sem.run_bind, ha, hg]
theorem eqItems5 (d : Nat) (w : World) (l1 l2 : List UInt8) (n : Nat) (h1 : l1.length = n) (h2 : l2.length = n) : ∀ (m k : Nat), k + m = n →
    (Op.eqItems (d + 1) 5 1 (u8s l1).toArray (u8s l2).toArray (List.range' k m)).run Tryd.prog w = .ok (decide (l1.drop k = l2.drop k)) w
  | 0, k, hk => by
    rw [List.drop_of_length_le (by omega), List.drop_of_length_le (by omega)]
    simp [Op.eqItems]
  | m + 1, k, hk => by
    have ih := eqItems5 d w l1 l2 n h1 h2 m (k + 1) (by omega)
    have p1 := part5 w l1 k (by omega)
    have p2 := part5 w l2 k (by omega)
    have pe := run_equalIn_int (P := Tryd.prog) w d 5 .u8 .u8 (l1[k].toNat : Int) (l2[k].toNat : Int) Tryd.underlying5
    rw [List.range'_succ]
    simp only [Op.eqItems, Sem.run_bind, Nat.mul_one, p1, p2, pe, Result.andThen_ok]
    rw [List.drop_eq_getElem_cons (show k < l1.length by omega), List.drop_eq_getElem_cons (show k < l2.length by omega)]
    by_cases he : l1[k] = l2[k]
    · rw [he]
      simp only [beq_self_eq_true, Bool.not_true, Bool.false_eq_true, if_false, ih, List.cons.injEq, true_and]
    · have hne : ((l1[k].toNat : Int) == (l2[k].toNat : Int)) = false := by
        rw [beq_eq_false_iff_ne]
        intro e
        exact he (UInt8.toNat_inj.1 (by omega))
      rw [hne, decide_eq_false (fun h => he (List.cons.inj h).1)]
      rfl
theorem under512 : Tryd.prog.underlying 69 = some (.array 512 5) := by kernel_rfl
theorem size512 : (Tryd.prog.info? 69).map (·.size) = some 512 := by kernel_rfl
theorem guard512 : Tryd.prog.eqGuardType Tryd.prog.depth 69 = false := by kernel_rfl
theorem cells5 : Tryd.prog.cellsOf 5 = 1 := by kernel_rfl
theorem eq512 (w : World) (l1 l2 : List UInt8) (h1 : l1.length = 512) (h2 : l2.length = 512) :
    (binOp .eql 69 (.agg (u8s l1).toArray) (.agg (u8s l2).toArray)).run Tryd.prog w = .ok (.bool (decide (l1 = l2))) w := by
  obtain ⟨i0, hi, _, _, _⟩ := info_parts Tryd.info5
  have h := run_equalIn_array (P := Tryd.prog) w 9999 (t := 69) (u8s l1).toArray (u8s l2).toArray under512 hi
  rw [cells5, List.range_eq_range', eqItems5 9998 w l1 l2 512 h1 h2 512 0 rfl] at h
  rw [run_eql_struct, h]
  simp [Result.andThen]
theorem neq512 (w : World) (l1 l2 : List UInt8) (h1 : l1.length = 512) (h2 : l2.length = 512) :
    (binOp .neq 69 (.agg (u8s l1).toArray) (.agg (u8s l2).toArray)).run Tryd.prog w = .ok (.bool (!decide (l1 = l2))) w := by
  obtain ⟨i0, hi, _, _, _⟩ := info_parts Tryd.info5
  have h := run_equalIn_array (P := Tryd.prog) w 9999 (t := 69) (u8s l1).toArray (u8s l2).toArray under512 hi
  rw [cells5, List.range_eq_range', eqItems5 9998 w l1 l2 512 h1 h2 512 0 rfl] at h
  rw [run_neq_struct, h]
  simp [Result.andThen]

end Go.Proofs.YtlopimdnjookeaaDoor
