import Derived.Test.YtlopimdnjookeabGreatDoorKit
import Derived.Test.YtlopimdnjookeabGreatDoorMtMath
import Derived.Lib.BufferWrite
import Derived.Deep.WholeRow
import Derived.ChangeKeysEq
namespace Go.Proofs.YtlopimdnjookeabGreatDoor
open Go.RowKit

theorem hide {p : Prop} (h : p) : Hid p := h

end Go.Proofs.YtlopimdnjookeabGreatDoor

namespace Go.Proofs.YtlopimdnjookeabGreatDoor
open Go.RowKit

/-- Of the blocks that were there all but rb are as they were. -/
structure Sole (rb : Nat) (w w' : World) : Prop where
  os : w'.os = w.os
  tape : w'.tape = w.tape
  output : w'.output = w.output
  size : w.heap.size ≤ w'.heap.size
  block : ∀ k, k < w.heap.size → k ≠ rb → w'.heap[k]? = w.heap[k]?
theorem Sole.refl (rb : Nat) (w : World) : Sole rb w w := ⟨rfl, rfl, rfl, Nat.le_refl _, fun _ _ _ => rfl⟩
theorem Sole.trans {rb : Nat} {a b c : World} (h : Sole rb a b) (k : Sole rb b c) : Sole rb a c :=
  ⟨k.os.trans h.os, k.tape.trans h.tape, k.output.trans h.output, Nat.le_trans h.size k.size, fun i hi hn => (k.block i (Nat.lt_of_lt_of_le hi h.size) hn).trans (h.block i hi hn)⟩
theorem Sole.of_below {rb : Nat} {w w' : World} (h : Below w.heap.size w w') : Sole rb w w' := ⟨h.os, h.tape, h.output, h.size, fun k hk _ => h.block k hk⟩
theorem Sole.set (rb o : Nat) (w : World) (u : Value) : Sole rb w (w.setCell ⟨rb, o, none⟩ u) :=
  ⟨rfl, rfl, rfl, by simp [World.setCell], fun k _ hn => Below.heap_setCell w ⟨rb, o, none⟩ u k (fun e => hn e)⟩
theorem Sole.setRow (rb : Nat) (w : World) (cs : Array Value) : Sole rb w (w.setRow rb cs) :=
  ⟨rfl, rfl, rfl, by simp [World.setRow], fun k _ hn => setRow_other w rb k cs hn⟩
theorem Sole.below {rb : Nat} {w0 w w' : World} (h : Sole rb w w') (hb : Below w0.heap.size w0 w) (hr : w0.heap.size ≤ rb) : Below w0.heap.size w0 w' :=
  hb.trans ⟨h.os, h.tape, h.output, h.size, fun k hk => h.block k (Nat.lt_of_lt_of_le hk hb.size) (by omega)⟩
theorem Sole.cell {rb : Nat} {w w' : World} (h : Sole rb w w') {a : Addr} {v : Value} (hc : w.cell? a = some v) (hn : a.block ≠ rb) : w'.cell? a = some v :=
  (World.cell?_of_block (a := a) (h.block a.block (World.block_lt_of_cell? w a hc) hn)).trans hc

/-- The block g, of a type t, holds just these bytes. -/
def RowT (t : TypeId) (w : World) (g : Nat) (l : List UInt8) : Prop := w.heap[g]? = some (.cells (u8s l).toArray t (0, 0))
theorem RowT.lt {t : TypeId} {w : World} {g : Nat} {l : List UInt8} (h : RowT t w g l) : g < w.heap.size := by
  rcases Nat.lt_or_ge g w.heap.size with h' | h'
  · exact h'
  · unfold RowT at h; rw [Array.getElem?_eq_none h'] at h; cases h
theorem RowT.cell {t : TypeId} {w : World} {g : Nat} {l : List UInt8} (h : RowT t w g l) (j : Nat) (hj : j < l.length) : w.cell? ⟨g, j, none⟩ = some (.int .u8 (l[j].toNat : Int)) := by
  rw [cell_of_row w g j _ _ _ h]
  simpa using u8s_get l j hj
theorem RowT.below {t : TypeId} {w w' : World} {g : Nat} {l : List UInt8} (h : RowT t w g l) (hb : Below w.heap.size w w') : RowT t w' g l := by
  unfold RowT; rw [hb.block g h.lt]; exact h
theorem RowT.sole {t : TypeId} {w w' : World} {g rb : Nat} {l : List UInt8} (h : RowT t w g l) (hb : Sole rb w w') (hn : g ≠ rb) : RowT t w' g l := by
  unfold RowT; rw [hb.block g h.lt hn]; exact h
theorem RowT.rd {t : TypeId} {w : World} {g n : Nat} {l : List UInt8} (h : RowT t w g l) (hn : l.length = n) (hm : n ≤ maxLen) : Rd w (.slice (some ⟨g, 0, none⟩) n n) l := by
  subst hn
  exact .inr ⟨g, l.length, rfl, Nat.le_refl _, hm, h.lt, h.cell⟩
theorem u8s_splice (l : List UInt8) (o : Nat) (c : List UInt8) : splice (u8s l) o (u8s c) = u8s (splice l o c) := by
  simp [splice, u8s]
theorem rowT_new (t : TypeId) (w : World) (l : List UInt8) : RowT t (w.alloc (.cells (u8s l).toArray t)) w.heap.size l := heap_alloc_new w _

/-- A copy of bytes that lie elsewhere into a row of bytes. -/
theorem copy_row {t : TypeId} {w : World} {g o cap n g2 o2 c2 : Nat} {l c : List UInt8} (hr : RowT t w g l) (hn : c.length = n) (hc : ∀ j (h : j < c.length), w.cell? ⟨g2, o2 + j, none⟩ = some (.int .u8 (c[j].toNat : Int))) (hfit : o + c.length ≤ l.length) :
    ∃ w2, (Builtin.copy_ #[33, 33] 3 #[.slice (some ⟨g, o, none⟩) n cap, .slice (some ⟨g2, o2, none⟩) n c2]).run Tryz.prog w = .ok (goInt n) w2 ∧ RowT t w2 g (splice l o c) ∧ Sole g w w2 := by
  subst hn
  have hrun := run_copy_row (P := Tryz.prog) w 33 33 3 5 g o c.length cap ⟨g2, o2, none⟩ c.length c2 _ t (u8s c) Tryz.underlying33 size5 hr (by rw [u8s_length]; exact (Nat.min_self _).symm)
    (fun j v hv => by
      by_cases hj : j < c.length
      · rw [u8s_get c j hj] at hv
        cases hv
        rw [show (⟨g2, o2, none⟩ : Addr).add j = ⟨g2, o2 + j, none⟩ by simp [Addr.add]]
        exact hc j hj
      · rw [List.getElem?_eq_none (by rw [u8s_length]; omega)] at hv; cases hv)
    (by rw [u8s_length]; simp [u8s_length]; omega) (u8s_one c)
  rw [u8s_length] at hrun
  refine ⟨_, hrun, ?_, Sole.setRow g w _⟩
  have hrow := setRow_heap w g _ ((u8s l).toArray.toList.take o ++ u8s c ++ (u8s l).toArray.toList.drop (o + c.length)).toArray t _ hr
  unfold RowT
  rw [hrow, ← u8s_splice, splice, u8s_length, List.append_assoc]

/-- What a 'copy(s[:], mark)' leaves. -/
theorem copy_mark {t : TypeId} {w : World} {g cap n m : Nat} {l : List UInt8} (s : ByteArray) (hr : RowT t w g l) (hm : m = s.size) (hn : s.size ≤ n) (hfit : s.size ≤ l.length) :
    ∃ w2, (Builtin.copy_ #[33, 9] 3 #[.slice (some ⟨g, 0, none⟩) n cap, .string s]).run Tryz.prog w = .ok (goInt m) w2 ∧ RowT t w2 g (splice l 0 s.data.toList) ∧ Sole g w w2 := by
  subst hm
  have hrun := Lib.run_copy_row_string (P := Tryz.prog) w 33 9 3 5 g 0 n cap s _ t Tryz.underlying33 size5 hr hn (by simp [u8s_length]; omega)
  refine ⟨_, hrun, ?_, Sole.setRow g w _⟩
  have hrow := setRow_heap w g _ ((u8s l).toArray.toList.take 0 ++ Lib.byteCells s.data.toList ++ (u8s l).toArray.toList.drop (0 + s.size)).toArray t _ hr
  unfold RowT
  rw [hrow, ← u8s_splice, splice, u8s_length, bsize, List.append_assoc]
  rfl

/-- The places of a meta, written one behind the other. -/
theorem splice_all (x0 x1 x2 x3 x4 x5 x6 x7 x8 x9 x10 x11 x12 x13 x14 x15 x16 x17 x18 x19 x20 x21 x22 x23 x24 x25 x26 x27 : UInt8) (body : List UInt8) (p r t : Nat) :
    splice (splice (splice (splice (x0 :: x1 :: x2 :: x3 :: x4 :: x5 :: x6 :: x7 :: x8 :: x9 :: x10 :: x11 :: x12 :: x13 :: x14 :: x15 :: x16 :: x17 :: x18 :: x19 :: x20 :: x21 :: x22 :: x23 :: x24 :: x25 :: x26 :: x27 :: body) 0 markL) 8 (beBytes p 4)) 12 (beBytes r 4)) 16 (beBytes t 8) =
      67 :: 79 :: 80 :: 83 :: 69 :: 0 :: 1 :: 0 :: dig p 4 :: dig p 5 :: dig p 6 :: dig p 7 :: dig r 4 :: dig r 5 :: dig r 6 :: dig r 7 :: dig t 0 :: dig t 1 :: dig t 2 :: dig t 3 :: dig t 4 :: dig t 5 :: dig t 6 :: dig t 7 :: x24 :: x25 :: x26 :: x27 :: body := rfl
theorem mbare_eq (p r t s : Nat) : mbare p r t s = 67 :: 79 :: 80 :: 83 :: 69 :: 0 :: 1 :: 0 :: dig p 4 :: dig p 5 :: dig p 6 :: dig p 7 :: dig r 4 :: dig r 5 :: dig r 6 :: dig r 7 :: dig t 0 :: dig t 1 :: dig t 2 :: dig t 3 :: dig t 4 :: dig t 5 :: dig t 6 :: dig t 7 :: dig s 4 :: dig s 5 :: dig s 6 :: dig s 7 :: tailZ := rfl
theorem dig_zero (j : Nat) : dig 0 j = 0 := by unfold dig; simp
theorem zeros512 : List.replicate 512 (0 : UInt8) = 0 :: 0 :: 0 :: 0 :: 0 :: 0 :: 0 :: 0 :: 0 :: 0 :: 0 :: 0 :: 0 :: 0 :: 0 :: 0 :: 0 :: 0 :: 0 :: 0 :: 0 :: 0 :: 0 :: 0 :: 0 :: 0 :: 0 :: 0 :: tailZ := rfl
theorem splice_bare (p r t : Nat) : splice (splice (splice (splice (List.replicate 512 0) 0 markL) 8 (beBytes p 4)) 12 (beBytes r 4)) 16 (beBytes t 8) = mbare p r t 0 := by
  rw [zeros512, splice_all, mbare_eq]
  simp only [dig_zero]
theorem splice_sum (p r t s : Nat) : splice (mbare p r t 0) 24 (beBytes s 4) = mbare p r t s := by
  rw [mbare_eq, mbare_eq]; rfl

end Go.Proofs.YtlopimdnjookeabGreatDoor

namespace Go.Proofs.YtlopimdnjookeabGreatDoor
open Go.RowKit

theorem part5 (w : World) (l : List UInt8) (j : Nat) (h : j < l.length) : (part 5 (u8s l).toArray j).run Tryz.prog w = .ok (.int .u8 (l[j].toNat : Int)) w := by
  have ha : (isAgg 5).run Tryz.prog w = .ok false w := by kernel_rfl
  have hg : (u8s l).toArray[j]? = some (.int .u8 (l[j].toNat : Int)) := by simpa using u8s_get l j h
  simp [part, Sem.run_bind, ha, hg]
theorem eqItems5 (d : Nat) (w : World) (l1 l2 : List UInt8) (n : Nat) (h1 : l1.length = n) (h2 : l2.length = n) : ∀ (m k : Nat), k + m = n →
    (Op.eqItems (d + 1) 5 1 (u8s l1).toArray (u8s l2).toArray (List.range' k m)).run Tryz.prog w = .ok (decide (l1.drop k = l2.drop k)) w
  | 0, k, hk => by
    rw [List.drop_of_length_le (by omega), List.drop_of_length_le (by omega)]
    simp [Op.eqItems]
  | m + 1, k, hk => by
    have ih := eqItems5 d w l1 l2 n h1 h2 m (k + 1) (by omega)
    have p1 := part5 w l1 k (by omega)
    have p2 := part5 w l2 k (by omega)
    have pe := run_equalIn_int (P := Tryz.prog) w d 5 .u8 .u8 (l1[k].toNat : Int) (l2[k].toNat : Int) Tryz.underlying5
    rw [List.range'_succ]
    simp only [Op.eqItems, Sem.run_bind, Nat.mul_one, p1, p2, pe, Result.andThen_ok]
    rw [List.drop_eq_getElem_cons (show k < l1.length by omega), List.drop_eq_getElem_cons (show k < l2.length by omega)]
    by_cases he : l1[k] = l2[k]
    · rw [he]
      simp only [beq_self_eq_true, Bool.not_true, Bool.false_eq_true, if_false, ih, List.cons.injEq, true_and]
    · have hne : ((l1[k].toNat : Int) == (l2[k].toNat : Int)) = false := by
        rw [beq_eq_false_iff_ne]
        intro e
        exact he (UInt8.toNat_inj.1 (by omega))
      rw [hne, decide_eq_false (fun h => he (List.cons.inj h).1)]
      rfl
theorem under512 : Tryz.prog.underlying 87 = some (.array 512 5) := by kernel_rfl
theorem size512 : (Tryz.prog.info? 87).map (·.size) = some 512 := by kernel_rfl
theorem guard512 : Tryz.prog.eqGuardType Tryz.prog.depth 87 = false := by kernel_rfl
theorem cells5 : Tryz.prog.cellsOf 5 = 1 := by kernel_rfl
theorem eq512 (w : World) (l1 l2 : List UInt8) (h1 : l1.length = 512) (h2 : l2.length = 512) :
    (binOp .eql 87 (.agg (u8s l1).toArray) (.agg (u8s l2).toArray)).run Tryz.prog w = .ok (.bool (decide (l1 = l2))) w := by
  obtain ⟨i0, hi, _, _, _⟩ := info_parts Tryz.info5
  have h := run_equalIn_array (P := Tryz.prog) w 9999 (t := 87) (u8s l1).toArray (u8s l2).toArray under512 hi
  rw [cells5, List.range_eq_range', eqItems5 9998 w l1 l2 512 h1 h2 512 0 rfl] at h
  rw [run_eql_struct, h]
  simp [Result.andThen]
theorem neq512 (w : World) (l1 l2 : List UInt8) (h1 : l1.length = 512) (h2 : l2.length = 512) :
    (binOp .neq 87 (.agg (u8s l1).toArray) (.agg (u8s l2).toArray)).run Tryz.prog w = .ok (.bool (!decide (l1 = l2))) w := by
  obtain ⟨i0, hi, _, _, _⟩ := info_parts Tryz.info5
  have h := run_equalIn_array (P := Tryz.prog) w 9999 (t := 87) (u8s l1).toArray (u8s l2).toArray under512 hi
  rw [cells5, List.range_eq_range', eqItems5 9998 w l1 l2 512 h1 h2 512 0 rfl] at h
  rw [run_neq_struct, h]
  simp [Result.andThen]

end Go.Proofs.YtlopimdnjookeabGreatDoor
