import Derived.Test.YtpeobpmooledaaaDoorPut
import Derived.Test.YtpeobpmooledaaaDoorBack1
import Derived.Laws.CopyOwn
import Derived.Lib.BufferWrite
namespace Go.Proofs.YtpeobpmooledaaaDoor.S
open Go.RowKit

/-- Of the blocks that were there all but rb are as they were. -/
structure Sole (rb : Nat) (w w' : World) : Prop where
  os : w'.os = w.os
  tape : w'.tape = w.tape
  output : w'.output = w.output
  size : w.heap.size ≤ w'.heap.size
  block : ∀ k, k < w.heap.size → k ≠ rb → w'.heap[k]? = w.heap[k]?
theorem Sole.refl (rb : Nat) (w : World) : Sole rb w w := ⟨rfl, rfl, rfl, Nat.le_refl _, fun _ _ _ => rfl⟩
theorem Sole.trans {rb : Nat} {a b c : World} (h : Sole rb a b) (k : Sole rb b c) : Sole rb a c :=
  ⟨k.os.trans h.os, k.tape.trans h.tape, k.output.trans h.output, Nat.le_trans h.size k.size, fun i hi hn => (k.block i (Nat.lt_of_lt_of_le hi h.size) hn).trans (h.block i hi hn)⟩
theorem Sole.of_below {rb : Nat} {w w' : World} (h : Below w.heap.size w w') : Sole rb w w' := ⟨h.os, h.tape, h.output, h.size, fun k hk _ => h.block k hk⟩
theorem Sole.set (rb o : Nat) (w : World) (u : Value) : Sole rb w (w.setCell ⟨rb, o, none⟩ u) :=
  ⟨rfl, rfl, rfl, by simp [World.setCell], fun k _ hn => Below.heap_setCell w ⟨rb, o, none⟩ u k (fun e => hn e)⟩
theorem Sole.setRow (rb : Nat) (w : World) (cs : Array Value) : Sole rb w (w.setRow rb cs) :=
  ⟨rfl, rfl, rfl, by simp [World.setRow], fun k _ hn => setRow_other w rb k cs hn⟩
theorem Sole.below {rb : Nat} {w0 w w' : World} (h : Sole rb w w') (hb : Below w0.heap.size w0 w) (hr : w0.heap.size ≤ rb) : Below w0.heap.size w0 w' :=
  hb.trans ⟨h.os, h.tape, h.output, h.size, fun k hk => h.block k (Nat.lt_of_lt_of_le hk hb.size) (by omega)⟩
theorem Sole.cell {rb : Nat} {w w' : World} (h : Sole rb w w') {a : Addr} {v : Value} (hc : w.cell? a = some v) (hn : a.block ≠ rb) : w'.cell? a = some v :=
  (World.cell?_of_block (a := a) (h.block a.block (World.block_lt_of_cell? w a hc) hn)).trans hc

/-- The block g holds just these bytes. -/
def RowB (w : World) (g : Nat) (l : List UInt8) : Prop := w.heap[g]? = some (.cells (u8s l).toArray 5 (0, 0))
theorem RowB.lt {w : World} {g : Nat} {l : List UInt8} (h : RowB w g l) : g < w.heap.size := by
  rcases Nat.lt_or_ge g w.heap.size with h' | h'
  · exact h'
  · unfold RowB at h; rw [Array.getElem?_eq_none h'] at h; cases h
theorem RowB.cell {w : World} {g : Nat} {l : List UInt8} (h : RowB w g l) (j : Nat) (hj : j < l.length) : w.cell? ⟨g, j, none⟩ = some (.int .u8 (l[j].toNat : Int)) := by
  rw [cell_of_row w g j _ _ _ h]
  simpa using u8s_get l j hj
theorem RowB.below {w w' : World} {g : Nat} {l : List UInt8} (h : RowB w g l) (hb : Below w.heap.size w w') : RowB w' g l := by
  unfold RowB; rw [hb.block g h.lt]; exact h
theorem RowB.sole {w w' : World} {g rb : Nat} {l : List UInt8} (h : RowB w g l) (hb : Sole rb w w') (hn : g ≠ rb) : RowB w' g l := by
  unfold RowB; rw [hb.block g h.lt hn]; exact h
theorem RowB.owns {w : World} {g : Nat} {l : List UInt8} (h : RowB w g l) (base : Nat) (hb : base ≤ g) (hl : l.length ≤ maxLen) :
    w.ownsRow base 5 1 (.slice (some ⟨g, 0, none⟩) l.length l.length) l.length (u8s l) := by
  refine ⟨by rw [u8s_length, Nat.mul_one], .inr ⟨g, l.length, _, rfl, hb, h, Nat.le_refl _, hl, by simp [u8s_length], ?_⟩⟩
  rw [Nat.mul_one]
  exact List.take_of_length_le (by rw [u8s_length]; exact Nat.le_refl _)
theorem u8s_splice (l : List UInt8) (o : Nat) (c : List UInt8) : splice (u8s l) o (u8s c) = u8s (splice l o c) := by
  simp [splice, u8s]

/-- A copy of bytes that lie elsewhere into a row of bytes. -/
theorem copy_page {w : World} {g o cap g2 o2 c2 : Nat} {l c : List UInt8} (hr : RowB w g l) (hc : ∀ j (h : j < c.length), w.cell? ⟨g2, o2 + j, none⟩ = some (.int .u8 (c[j].toNat : Int))) (hfit : o + c.length ≤ l.length) :
    ∃ w2, (Builtin.copy_ #[41, 41] 3 #[.slice (some ⟨g, o, none⟩) c.length cap, .slice (some ⟨g2, o2, none⟩) c.length c2]).run Tryd.prog w = .ok (goInt c.length) w2 ∧ RowB w2 g (splice l o c) ∧ Sole g w w2 := by
  have hrun := run_copy_row (P := Tryd.prog) w 41 41 3 5 g o c.length cap ⟨g2, o2, none⟩ c.length c2 _ 5 (u8s c) Tryd.underlying41 size5 hr (by rw [u8s_length]; exact (Nat.min_self _).symm)
    (fun j v hv => by
      by_cases hj : j < c.length
      · rw [u8s_get c j hj] at hv
        cases hv
        rw [show (⟨g2, o2, none⟩ : Addr).add j = ⟨g2, o2 + j, none⟩ by simp [Addr.add]]
        exact hc j hj
      · rw [List.getElem?_eq_none (by rw [u8s_length]; omega)] at hv; cases hv)
    (by rw [u8s_length]; simp [u8s_length]; omega) (u8s_one c)
  rw [u8s_length] at hrun
  refine ⟨_, hrun, ?_, Sole.setRow g w _⟩
  have hrow := setRow_heap w g _ ((u8s l).toArray.toList.take o ++ u8s c ++ (u8s l).toArray.toList.drop (o + c.length)).toArray 5 _ hr
  unfold RowB
  rw [hrow, ← u8s_splice, splice, u8s_length, List.append_assoc]
theorem copy_body {w : World} {g o cap n : Nat} {l : List UInt8} (s : ByteArray) (hr : RowB w g l) (hn : n = s.size) (hfit : o + s.size ≤ l.length) :
    ∃ w2, (Builtin.copy_ #[41, 9] 3 #[.slice (some ⟨g, o, none⟩) n cap, .string s]).run Tryd.prog w = .ok (goInt s.size) w2 ∧ RowB w2 g (splice l o s.data.toList) ∧ Sole g w w2 := by
  have hrun := Lib.run_copy_row_string (P := Tryd.prog) w 41 9 3 5 g o n cap s _ 5 Tryd.underlying41 size5 hr (by omega) (by simp [u8s_length]; omega)
  refine ⟨_, hrun, ?_, Sole.setRow g w _⟩
  have hrow := setRow_heap w g _ ((u8s l).toArray.toList.take o ++ Lib.byteCells s.data.toList ++ (u8s l).toArray.toList.drop (o + s.size)).toArray 5 _ hr
  unfold RowB
  rw [hrow, ← u8s_splice, splice, u8s_length, bsize, List.append_assoc]
  rfl

/-- A sheet as data. -/
structure Sh where
  kind : Int
  id : Int
  txid : Nat
  count : Int
  body : ByteArray
def Sh.cells (s : Sh) : List Value := [.int .i64 s.kind, .int .i64 s.id, .int .u64 (s.txid : Int), .int .i64 s.count, .string s.body]
/-- The numbers of a sheet are those of their types. -/
def Sh.num (s : Sh) : Prop := -9223372036854775808 ≤ s.kind ∧ s.kind ≤ 9223372036854775807 ∧ -9223372036854775808 ≤ s.id ∧ s.id ≤ 9223372036854775807 ∧ s.txid < 18446744073709551616 ∧ -9223372036854775808 ≤ s.count ∧ s.count ≤ 9223372036854775807
def May (s : Sh) : Prop := (s.kind = 66 ∨ s.kind = 76) ∧ (0 ≤ s.count ∧ s.count ≤ 65535) ∧ (2 ≤ s.id ∧ s.id < 1048576) ∧ s.body.size = 4072
instance (s : Sh) : Decidable (May s) := inferInstanceAs (Decidable (_ ∧ _))

def bare (k c i t sum : Nat) (body : List UInt8) : List UInt8 :=
  beBytes k 1 ++ ([0] ++ (beBytes c 2 ++ (beBytes i 4 ++ (beBytes t 8 ++ (beBytes sum 4 ++ ([0, 0, 0, 0] ++ body))))))
def pageB (s : Sh) (sum : Nat) : List UInt8 := bare s.kind.toNat s.count.toNat s.id.toNat s.txid sum s.body.data.toList
def page (s : Sh) : List UInt8 := pageB s (crcV (pageB s 0))
theorem bare_len (k c i t sum : Nat) (body : List UInt8) : (bare k c i t sum body).length = 24 + body.length := by
  simp [bare, beBytes_len]; omega
theorem pageB_len (s : Sh) (sum : Nat) (h : May s) : (pageB s sum).length = 4096 := by
  rw [pageB, bare_len, bsize, h.2.2.2]
theorem page_len (s : Sh) (h : May s) : (page s).length = 4096 := pageB_len s _ h

def place (k : Nat) : Nat := match k with | 0 => 0 | 1 => 2 | 2 => 4 | 3 => 8 | _ => 16
def width (k : Nat) : Nat := match k with | 0 => 1 | 1 => 2 | 2 => 4 | 3 => 8 | _ => 4
/-- A page with the first so many numbers of a head written into it. -/
def headTo (l : List UInt8) (h : Nat → Nat) : Nat → List UInt8
  | 0 => l
  | k + 1 => splice (headTo l h k) (place k) (beBytes (h k) (width k))
def hd5 (a b c d e : Nat) : Nat → Nat := fun k => match k with | 0 => a | 1 => b | 2 => c | 3 => d | _ => e
theorem place_le (k : Nat) : place k + width k ≤ 20 := by
  unfold place width; split <;> simp_all
theorem width_le (k : Nat) : 1 ≤ width k ∧ width k ≤ 8 := by
  unfold width; split <;> simp
theorem headTo_len (l : List UInt8) (h : Nat → Nat) (hl : 20 ≤ l.length) (k : Nat) : (headTo l h k).length = l.length := by
  induction k with
  | zero => rfl
  | succ k ih =>
    have h1 := place_le k
    have h2 := beBytes_len (h k) (width k) (width_le k).2
    rw [headTo, length_splice _ _ _ (by rw [h2, ih]; omega), ih]
theorem headTo_five (x0 x1 x2 x3 x4 x5 x6 x7 x8 x9 x10 x11 x12 x13 x14 x15 x16 x17 x18 x19 x20 x21 x22 x23 : UInt8) (body : List UInt8) (a b c d e : Nat) :
    headTo (x0 :: x1 :: x2 :: x3 :: x4 :: x5 :: x6 :: x7 :: x8 :: x9 :: x10 :: x11 :: x12 :: x13 :: x14 :: x15 :: x16 :: x17 :: x18 :: x19 :: x20 :: x21 :: x22 :: x23 :: body) (hd5 a b c d e) 5 =
      dig a 7 :: x1 :: dig b 6 :: dig b 7 :: dig c 4 :: dig c 5 :: dig c 6 :: dig c 7 :: dig d 0 :: dig d 1 :: dig d 2 :: dig d 3 :: dig d 4 :: dig d 5 :: dig d 6 :: dig d 7 :: dig e 4 :: dig e 5 :: dig e 6 :: dig e 7 :: x20 :: x21 :: x22 :: x23 :: body := rfl
theorem bare_eq (a b c d e : Nat) (body : List UInt8) : bare a b c d e body =
      dig a 7 :: 0 :: dig b 6 :: dig b 7 :: dig c 4 :: dig c 5 :: dig c 6 :: dig c 7 :: dig d 0 :: dig d 1 :: dig d 2 :: dig d 3 :: dig d 4 :: dig d 5 :: dig d 6 :: dig d 7 :: dig e 4 :: dig e 5 :: dig e 6 :: dig e 7 :: 0 :: 0 :: 0 :: 0 :: body := rfl
theorem dig_zero (j : Nat) : dig 0 j = 0 := by unfold dig; simp
theorem head_first (a b c d : Nat) (body : List UInt8) : headTo (List.replicate 24 0 ++ body) (hd5 a b c d 0) 5 = bare a b c d 0 body := by
  show headTo (0 :: 0 :: 0 :: 0 :: 0 :: 0 :: 0 :: 0 :: 0 :: 0 :: 0 :: 0 :: 0 :: 0 :: 0 :: 0 :: 0 :: 0 :: 0 :: 0 :: 0 :: 0 :: 0 :: 0 :: body) (hd5 a b c d 0) 5 = _
  rw [headTo_five, bare_eq]
theorem head_then (a b c d e e' : Nat) (body : List UInt8) : headTo (bare a b c d e body) (hd5 a b c d e') 5 = bare a b c d e' body := by
  rw [bare_eq, headTo_five, bare_eq]

end Go.Proofs.YtpeobpmooledaaaDoor.S
