import Derived.Test.YtiihnoohodklhaaDoorBX
import Derived.Lib.BufferWrite
import Derived.Deep.WholeRow
import Derived.Laws.CopyOwn
namespace Go.Proofs.YtiihnoohodklhaaDoor
open Go.RowKit

theorem size5 : (Tryd.prog.info? 5).map (·.size) = some 1 := by kernel_rfl
/-- Of the blocks that were there all but rb are as they were. -/
structure Sole (rb : Nat) (w w' : World) : Prop where
  os : w'.os = w.os
  tape : w'.tape = w.tape
  output : w'.output = w.output
  size : w.heap.size ≤ w'.heap.size
  block : ∀ k, k < w.heap.size → k ≠ rb → w'.heap[k]? = w.heap[k]?
theorem Sole.refl (rb : Nat) (w : World) : Sole rb w w := ⟨rfl, rfl, rfl, Nat.le_refl _, fun _ _ _ => rfl⟩
theorem Sole.trans {rb : Nat} {a b c : World} (h : Sole rb a b) (k : Sole rb b c) : Sole rb a c :=
  ⟨k.os.trans h.os, k.tape.trans h.tape, k.output.trans h.output, Nat.le_trans h.size k.size, fun i hi hn => (k.block i (Nat.lt_of_lt_of_le hi h.size) hn).trans (h.block i hi hn)⟩
theorem Sole.of_below {rb : Nat} {w w' : World} (h : Below w.heap.size w w') : Sole rb w w' := ⟨h.os, h.tape, h.output, h.size, fun k hk _ => h.block k hk⟩
theorem Sole.set (rb o : Nat) (w : World) (u : Value) : Sole rb w (w.setCell ⟨rb, o, none⟩ u) :=
  ⟨rfl, rfl, rfl, by simp [World.setCell], fun k _ hn => Below.heap_setCell w ⟨rb, o, none⟩ u k (fun e => hn e)⟩
theorem Sole.setRow (rb : Nat) (w : World) (cs : Array Value) : Sole rb w (w.setRow rb cs) :=
  ⟨rfl, rfl, rfl, by simp [World.setRow], fun k _ hn => setRow_other w rb k cs hn⟩
theorem Sole.below {rb : Nat} {w0 w w' : World} (h : Sole rb w w') (hb : Below w0.heap.size w0 w) (hr : w0.heap.size ≤ rb) : Below w0.heap.size w0 w' :=
  hb.trans ⟨h.os, h.tape, h.output, h.size, fun k hk => h.block k (Nat.lt_of_lt_of_le hk hb.size) (by omega)⟩
theorem Sole.cell {rb : Nat} {w w' : World} (h : Sole rb w w') {a : Addr} {v : Value} (hc : w.cell? a = some v) (hn : a.block ≠ rb) : w'.cell? a = some v :=
  (World.cell?_of_block (a := a) (h.block a.block (World.block_lt_of_cell? w a hc) hn)).trans hc

/-- The block g, of a type t, holds just these bytes. -/
def RowT (t : TypeId) (w : World) (g : Nat) (l : List UInt8) : Prop := w.heap[g]? = some (.cells (u8s l).toArray t (0, 0))
theorem RowT.lt {t : TypeId} {w : World} {g : Nat} {l : List UInt8} (h : RowT t w g l) : g < w.heap.size := by
  rcases Nat.lt_or_ge g w.heap.size with h' | h'
  · exact h'
  · unfold RowT at h; rw [Array.getElem?_eq_none h'] at h; cases h
theorem RowT.cell {t : TypeId} {w : World} {g : Nat} {l : List UInt8} (h : RowT t w g l) (j : Nat) (hj : j < l.length) : w.cell? ⟨g, j, none⟩ = some (.int .u8 (l[j].toNat : Int)) := by
  rw [cell_of_row w g j _ _ _ h]
  simpa using u8s_get l j hj
theorem RowT.below {t : TypeId} {w w' : World} {g : Nat} {l : List UInt8} (h : RowT t w g l) (hb : Below w.heap.size w w') : RowT t w' g l := by
  unfold RowT; rw [hb.block g h.lt]; exact h
theorem RowT.sole {t : TypeId} {w w' : World} {g rb : Nat} {l : List UInt8} (h : RowT t w g l) (hb : Sole rb w w') (hn : g ≠ rb) : RowT t w' g l := by
  unfold RowT; rw [hb.block g h.lt hn]; exact h
theorem u8s_splice (l : List UInt8) (o : Nat) (c : List UInt8) : splice (u8s l) o (u8s c) = u8s (splice l o c) := by
  simp [splice, u8s]
theorem rowT_new (t : TypeId) (w : World) (l : List UInt8) : RowT t (w.alloc (.cells (u8s l).toArray t)) w.heap.size l := heap_alloc_new w _

/-- A copy of bytes that lie elsewhere into a row of bytes. -/
theorem copy_row {t : TypeId} {w : World} {g o cap n g2 o2 c2 : Nat} {l c : List UInt8} (hr : RowT t w g l) (hn : c.length = n) (hc : ∀ j (h : j < c.length), w.cell? ⟨g2, o2 + j, none⟩ = some (.int .u8 (c[j].toNat : Int))) (hfit : o + c.length ≤ l.length) :
    ∃ w2, (Builtin.copy_ #[49, 49] 3 #[.slice (some ⟨g, o, none⟩) n cap, .slice (some ⟨g2, o2, none⟩) n c2]).run Tryd.prog w = .ok (goInt n) w2 ∧ RowT t w2 g (splice l o c) ∧ Sole g w w2 := by
  subst hn
  have hrun := run_copy_row (P := Tryd.prog) w 49 49 3 5 g o c.length cap ⟨g2, o2, none⟩ c.length c2 _ t (u8s c) Tryd.underlying49 size5 hr (by rw [u8s_length]; exact (Nat.min_self _).symm)
    (fun j v hv => by
      by_cases hj : j < c.length
      · rw [u8s_get c j hj] at hv
        cases hv
        rw [show (⟨g2, o2, none⟩ : Addr).add j = ⟨g2, o2 + j, none⟩ by simp [Addr.add]]
        exact hc j hj
      · rw [List.getElem?_eq_none (by rw [u8s_length]; omega)] at hv; cases hv)
    (by rw [u8s_length]; simp [u8s_length]; omega) (u8s_one c)
  rw [u8s_length] at hrun
  refine ⟨_, hrun, ?_, Sole.setRow g w _⟩
  have hrow := setRow_heap w g _ ((u8s l).toArray.toList.take o ++ u8s c ++ (u8s l).toArray.toList.drop (o + c.length)).toArray t _ hr
  unfold RowT
  rw [hrow, ← u8s_splice, splice, u8s_length, List.append_assoc]

/-- What a 'copy(s[:], mark)' leaves. -/
theorem copy_mark {t : TypeId} {w : World} {g cap n m : Nat} {l : List UInt8} (s : ByteArray) (hr : RowT t w g l) (hm : m = s.size) (hn : s.size ≤ n) (hfit : s.size ≤ l.length) :
    ∃ w2, (Builtin.copy_ #[49, 9] 3 #[.slice (some ⟨g, 0, none⟩) n cap, .string s]).run Tryd.prog w = .ok (goInt m) w2 ∧ RowT t w2 g (splice l 0 s.data.toList) ∧ Sole g w w2 := by
  subst hm
  have hrun := Lib.run_copy_row_string (P := Tryd.prog) w 49 9 3 5 g 0 n cap s _ t Tryd.underlying49 size5 hr hn (by simp [u8s_length]; omega)
  refine ⟨_, hrun, ?_, Sole.setRow g w _⟩
  have hrow := setRow_heap w g _ ((u8s l).toArray.toList.take 0 ++ Lib.byteCells s.data.toList ++ (u8s l).toArray.toList.drop (0 + s.size)).toArray t _ hr
  unfold RowT
  rw [hrow, ← u8s_splice, splice, u8s_length, bsize, List.append_assoc]
  rfl

end Go.Proofs.YtiihnoohodklhaaDoor

namespace Go.Proofs.YtiihnoohodklhaaDoor
open Go.RowKit

/-- Where a slice value's bytes lie. -/
def RdA (w : World) (v : Value) (l : List UInt8) : Prop := ∃ a cap, v = .slice a l.length cap ∧ ∀ j (h : j < l.length), ∃ g o, a = some ⟨g, o, none⟩ ∧ w.cell? ⟨g, o + j, none⟩ = some (.int .u8 (l[j].toNat : Int))
theorem run_str (w : World) (v : Value) (l : List UInt8) (h : RdA w v l) (hl : 0 < l.length) : (convert 49 9 v).run Tryd.prog w = .ok (.string ⟨l.toArray⟩) w := by
  obtain ⟨a, cap, rfl, hc⟩ := h
  obtain ⟨g, o, rfl, _⟩ := hc 0 hl
  refine run_convert_bytes_back w 49 9 5 ⟨g, o, none⟩ cap l Tryd.underlying49 Tryd.underlying5 Tryd.underlying9 (fun j hj => ?_)
  obtain ⟨g', o', he, hcell⟩ := hc j hj
  cases he
  rw [show (⟨g, o, none⟩ : Addr).add j = ⟨g, o + j, none⟩ by simp [Addr.add]]
  exact hcell

end Go.Proofs.YtiihnoohodklhaaDoor
