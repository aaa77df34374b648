import Derived.Test.YtnaedmmfiiebaaaGreatDoorG26
import Derived.Deep.AppendLies
import Derived.Test.YtnaedmmfiiebaaaGreatDoorSLen64
import Derived.Laws.CopyOwn
import Derived.Lib.BufferWrite
namespace Go.Proofs.YtnaedmmfiiebaaaGreatDoor.S
open Go.RowKit

set_option maxHeartbeats 400000 in
theorem clone_any (b off len cap : Nat) (l : List UInt8) (w : World) (hlen : l.length = len) (h1 : 1 ≤ len) (hm : len ≤ 8)
    (hc : ∀ j (h : j < l.length), w.cell? ⟨b, off + j, none⟩ = some (.int .u8 (l[j].toNat : Int))) :
    Calls Tryz.prog 239 #[.slice (some ⟨b, off, none⟩) len cap] w fun e w' => ∃ g c2, e = .returned (.slice (some ⟨g, 0, none⟩) len c2) ∧ w'.ownsRow w.heap.size 5 1 (.slice (some ⟨g, 0, none⟩) len c2) len (u8s l) ∧ Below w.heap.size w w' := by
  obtain ⟨i0, hi, hz0, hz1, hz2⟩ := info_parts Tryz.info5
  have hnil : ∀ w, (binOp .eql 145 (.slice (some ⟨b, off, none⟩) len cap) (.slice none 0 0)).run Tryz.prog w = .ok (.bool false) w := fun w => by
    have h2 : ∀ d : Nat, (Op.equalIn (d + 1) 145 (.slice (some ⟨b, off, none⟩) len cap) (.slice none 0 0)).run Tryz.prog w = .ok false w := fun d => by
      simp [Op.equalIn, run_underlying Tryz.underlying145]
    simp only [binOp]
    simp [Op.equal, Op.maxDepth, h2 9999]
  go_enter Tryz.func239, Tryz.ntmps239
  have hb : b < w.heap.size := World.block_lt_of_cell? w _ (hc 0 (by omega))
  go_wp2_with (first
    | (at_builtin; refine wpList_append_lies _ rfl _ _ 145 rfl w.heap.size 5 i0 (.int .u8 0) 1 1 Tryz.underlying145 hi hz0 hz1 hz2 rfl (by decide) _ 0 [] rfl ?c0 ⟨b, off, none⟩ len cap (u8s l) rfl ?c8 ?c1 (u8s_one l) ?c3 ?c4 ?c5 ?c6 (w.heap.size + 1) ?c7 ?_))
  case c0 => exact World.ownsRow_lit w #[] 0 (Nat.le_refl _) (Nat.zero_le _) rfl
  case c8 => rw [u8s_length, hlen, Nat.mul_one]
  case c1 =>
    intro j u hu
    by_cases hj : j < l.length
    · rw [u8s_get l j hj] at hu
      cases hu
      have e : (⟨b, off, none⟩ : Addr).add j = ⟨b, off + j, none⟩ := by simp [Addr.add]
      rw [e, (below_new w _).cell (p := ⟨b, off + j, none⟩) hb]
      exact hc j hj
    · rw [List.getElem?_eq_none (by rw [u8s_length]; omega)] at hu; cases hu
  case c3 => omega
  case c4 => unfold maxLen; omega
  case c5 => omega
  case c6 => simp
  case c7 => simp
  intro g c2 w1 hown hgrow hat hlg
  have hb1 : Below w.heap.size w w1 := (below_new w _).grown hgrow (by simp) (fun k hk => by simp [Value.ownBlock] at hk; omega)
  clear hgrow hat hlg hc
  go_wp2
  go_ret
  exact ⟨g, c2, rfl, hown, hb1⟩

end Go.Proofs.YtnaedmmfiiebaaaGreatDoor.S

namespace Go.Proofs.YtnaedmmfiiebaaaGreatDoor.S
open Go.RowKit

def fits (n : Nat) (width : Int) : Prop := 1 ≤ width ∧ width ≤ 8 ∧ n < 2 ^ (8 * width.toNat)

def dig (n j : Nat) : UInt8 := UInt8.ofNat (n / 2 ^ (8 * (7 - j)))
def digs (n : Nat) : List UInt8 := (List.range 8).map (dig n)
def digTo (n k : Nat) : List UInt8 := List.replicate (8 - k) 0 ++ (digs n).drop (8 - k)
/-- The number in so many bytes, the highest first. -/
def beBytes (n width : Nat) : List UInt8 := (digs n).drop (8 - width)
theorem digs_len (n : Nat) : (digs n).length = 8 := by simp [digs]
theorem digTo_len (n k : Nat) (_h : k ≤ 8) : (digTo n k).length = 8 := by
  rw [digTo, List.length_append, List.length_replicate, List.length_drop, digs_len]; omega
theorem beBytes_len (n width : Nat) (h : width ≤ 8) : (beBytes n width).length = width := by
  rw [beBytes, List.length_drop, digs_len]; omega
theorem digs_get (n j : Nat) (h : j < (digs n).length) : (digs n)[j] = dig n j := by simp [digs]
theorem digTo_succ (n k : Nat) (h : k < 8) : digTo n (k + 1) = (digTo n k).set (7 - k) (dig n (7 - k)) := by
  have e1 : 8 - (k + 1) = 7 - k := by omega
  have e2 : 8 - k = (7 - k) + 1 := by omega
  unfold digTo
  rw [e1, e2, List.replicate_succ', List.append_assoc, List.set_append_right _ _ (by simp)]
  have hd : (digs n).drop (7 - k) = dig n (7 - k) :: (digs n).drop (7 - k + 1) := by
    rw [List.drop_eq_getElem_cons (by rw [digs_len]; omega), digs_get]
  rw [hd]
  simp
theorem dig_val (n k : Nat) (hk : k < 8) : (n : Int) / 2 ^ (8 * k) % 256 = ((dig n (7 - k)).toNat : Int) := by
  unfold dig
  rw [show 7 - (7 - k) = k by omega]
  simp only [UInt8.toNat_ofNat']
  generalize hx : n / 2 ^ (8 * k) = x
  have e : (n : Int) / 2 ^ (8 * k) = (x : Int) := by
    rw [← hx, Int.natCast_ediv]
    simp
  rw [e]
  omega

theorem owns_base {w : World} {b b2 e size n : Nat} {v : Value} {xs : List Value} (h : w.ownsRow b e size v n xs) (hb : b2 ≤ b) : w.ownsRow b2 e size v n xs := by
  refine ⟨h.1, ?_⟩
  rcases h.2 with h' | ⟨g, cap, cur, h', h1, hr⟩
  · exact .inl h'
  · exact .inr ⟨g, cap, cur, h', Nat.le_trans hb h1, hr⟩
set_option maxHeartbeats 600000 in
theorem put_ok (n m : Nat) (w : World) (hn : n < 18446744073709551616) (h1 : 1 ≤ m) (h8 : m ≤ 8) (hfit : n < 2 ^ (8 * m)) :
    Calls Tryz.prog 217 #[.int .u64 (n : Int), .int .i64 (m : Int)] w fun e w' => ∃ g c2, e = .returned (.tuple #[.slice (some ⟨g, 0, none⟩) m c2, .nilIface]) ∧ w'.ownsRow w.heap.size 5 1 (.slice (some ⟨g, 0, none⟩) m c2) m (u8s (beBytes n m)) ∧ Below w.heap.size w w' := by
  have hd1 : decide ((m : Int) < 1) = false := decide_eq_false (by omega)
  have hd2 : decide (8 < (m : Int)) = false := decide_eq_false (by omega)
  have hb : Lib.bitLen n ≤ 8 * m := (bitLen_fits n (8 * m) (by omega) hn).2 hfit
  have hd3 : decide (8 * (m : Int) < ((Lib.bitLen n : Nat) : Int)) = false := decide_eq_false (by omega)
  clear hfit hb
  have hnew := heap_alloc_new w (.cells #[.int .u8 0, .int .u8 0, .int .u8 0, .int .u8 0, .int .u8 0, .int .u8 0, .int .u8 0, .int .u8 0] 328)
  have hbn := below_new w (.cells #[.int .u8 0, .int .u8 0, .int .u8 0, .int .u8 0, .int .u8 0, .int .u8 0, .int .u8 0, .int .u8 0] 328)
  have HN : Hid ((w.alloc (.cells #[.int .u8 0, .int .u8 0, .int .u8 0, .int .u8 0, .int .u8 0, .int .u8 0, .int .u8 0, .int .u8 0] 328)).heap[w.heap.size]? = some (.cells (u8s (digTo n 0)).toArray 328 (0, 0))) := by
    show _ = _
    rw [hnew]
    rfl
  have HBN : Hid (Below w.heap.size w (w.alloc (.cells #[.int .u8 0, .int .u8 0, .int .u8 0, .int .u8 0, .int .u8 0, .int .u8 0, .int .u8 0, .int .u8 0] 328))) := hbn
  clear hnew hbn
  go_enter Tryz.func217, Tryz.ntmps217
  go_wp2_with (go_at_call 146; refine (len64_any n _ hn).mono ?_; rintro e w' ⟨rfl, rfl⟩)
  go_loopw [22] (fun i wr => ∃ k : Nat, k ≤ 8 ∧ i = .int .i64 k ∧ wr.heap[w.heap.size]? = some (.cells (u8s (digTo n k)).toArray 328 (0, 0)) ∧ Below w.heap.size w wr) (fun i _ => 8 - (intOf i).toNat)
  case atStart => exact ⟨0, by omega, rfl, HN.out, HBN.out⟩
  case round =>
    obtain ⟨k, hk, rfl, hrow, hbr⟩ := hrel
    clear HN HBN
    have HR : Hid (wr.heap[w.heap.size]? = some (.cells (u8s (digTo n k)).toArray 328 (0, 0))) := hrow
    clear hrow
    by_cases hlt : k < 8
    · have hl := digTo_len n k hk
      have hcell : wr.cell? ⟨w.heap.size, 7 - k, none⟩ = some (.int .u8 (((digTo n k)[7 - k]'(by omega)).toNat : Int)) := by
        rw [cell_of_row wr w.heap.size (7 - k) _ 328 (0, 0) HR.out]
        simpa using u8s_get (digTo n k) (7 - k) (by omega)
      obtain ⟨old, hold⟩ : ∃ old : Int, old = (((digTo n k)[7 - k]'(by omega)).toNat : Int) := ⟨_, rfl⟩
      rw [← hold] at hcell
      clear hold
      have hfr : wr.frozen? ⟨w.heap.size, 7 - k, none⟩ = false := frozen_of_row wr w.heap.size (7 - k) _ 328 HR.out
      have hv := dig_val n k hlt
      have HS : Hid ((wr.setCell ⟨w.heap.size, 7 - k, none⟩ (.int .u8 ((dig n (7 - k)).toNat : Int))).heap[w.heap.size]? = some (.cells (u8s (digTo n (k + 1))).toArray 328 (0, 0))) := by
        show _ = _
        rw [heap_setCell_same wr w.heap.size (7 - k) _ 328 _ HR.out, digTo_succ n k hlt]
        simp [u8s, List.map_set]
      generalize dig n (7 - k) = dg at *
      go_wp2
      go_roundw
      case rel => exact ⟨k + 1, by omega, by go_num, HS.out, hbr.setCell (Nat.le_refl _) _⟩
      case measure => simp [intOf]; omega
    · have hke : k = 8 := by omega
      subst hke
      have hsl := slice_arr w.heap.size m h1 h8
      have hl := beBytes_len n m h8
      have HC : Hid (∀ j (h : j < (beBytes n m).length), wr.cell? ⟨w.heap.size, 8 - m + j, none⟩ = some (.int .u8 ((beBytes n m)[j].toNat : Int))) := by
        intro j hj
        have e8 : digTo n 8 = digs n := by simp [digTo]
        rw [cell_of_row wr w.heap.size (8 - m + j) _ 328 (0, 0) HR.out, e8]
        have hj2 : 8 - m + j < (digs n).length := by rw [digs_len]; omega
        have := u8s_get (digs n) (8 - m + j) hj2
        simp only [List.getElem?_toArray]
        rw [this]
        simp [beBytes]
      clear HR
      go_wp2_with fail
      refine (clone_any w.heap.size (8 - m) m m (beBytes n m) _ hl h1 h8 HC.out).mono ?_
      rintro e w2 ⟨g, c2, rfl, hown, hb2⟩
      have hbf := Below.next hbr hb2
      have hown2 : w2.ownsRow w.heap.size 5 1 (.slice (some ⟨g, 0, none⟩) m c2) m (u8s (beBytes n m)) := owns_base hown hbr.size
      clear hown hb2 hbr HC hsl
      go_wp2_with fail
      go_ret2
      exact ⟨g, c2, rfl, hown2, hbf⟩

end Go.Proofs.YtnaedmmfiiebaaaGreatDoor.S

namespace Go.Proofs.YtnaedmmfiiebaaaGreatDoor.S
open Go.RowKit

theorem be_snoc (n m : Nat) (hm : m + 1 ≤ 8) : beBytes n (m + 1) = beBytes (n / 256) m ++ [UInt8.ofNat n] := by
  apply List.ext_getElem
  · rw [List.length_append, beBytes_len n _ hm, beBytes_len _ m (by omega)]; rfl
  · intro i h1 h2
    rw [beBytes_len n _ hm] at h1
    simp only [beBytes, List.getElem_drop]
    rw [digs_get]
    by_cases hi : i < m
    · rw [List.getElem_append_left (by rw [List.length_drop, digs_len]; omega)]
      simp only [List.getElem_drop]
      rw [digs_get]
      unfold dig
      rw [Nat.div_div_eq_div_mul, show (256 : Nat) = 2 ^ 8 from rfl, ← Nat.pow_add, show 8 * (7 - (8 - (m + 1) + i)) = 8 + 8 * (7 - (8 - m + i)) by omega]
    · have he : i = m := by omega
      subst he
      rw [List.getElem_append_right (by rw [List.length_drop, digs_len]; omega)]
      simp [dig, show 7 - (7 - i + i) = 0 by omega]
theorem back_num (m : Nat) : ∀ n, m ≤ 8 → n < 2 ^ (8 * m) → beNat (beBytes n m) = n := by
  induction m with
  | zero =>
    intro n _ hn
    have h0 : n = 0 := by simpa using hn
    subst h0
    decide
  | succ m ih =>
    intro n hm hn
    have h1 : n / 256 < 2 ^ (8 * m) := by
      rw [show 8 * (m + 1) = 8 * m + 8 by omega, Nat.pow_add] at hn
      exact Nat.div_lt_of_lt_mul (by rw [Nat.mul_comm]; simpa using hn)
    rw [be_snoc n m hm, beNat_snoc, ih (n / 256) (by omega) h1]
    simp only [UInt8.toNat_ofNat']
    omega
end Go.Proofs.YtnaedmmfiiebaaaGreatDoor.S

namespace Go.Proofs.YtnaedmmfiiebaaaGreatDoor.S
open Go.RowKit

/-- Of the blocks that were there all but rb are as they were. -/
structure Sole (rb : Nat) (w w' : World) : Prop where
  os : w'.os = w.os
  tape : w'.tape = w.tape
  output : w'.output = w.output
  size : w.heap.size ≤ w'.heap.size
  block : ∀ k, k < w.heap.size → k ≠ rb → w'.heap[k]? = w.heap[k]?
theorem Sole.refl (rb : Nat) (w : World) : Sole rb w w := ⟨rfl, rfl, rfl, Nat.le_refl _, fun _ _ _ => rfl⟩
theorem Sole.trans {rb : Nat} {a b c : World} (h : Sole rb a b) (k : Sole rb b c) : Sole rb a c :=
  ⟨k.os.trans h.os, k.tape.trans h.tape, k.output.trans h.output, Nat.le_trans h.size k.size, fun i hi hn => (k.block i (Nat.lt_of_lt_of_le hi h.size) hn).trans (h.block i hi hn)⟩
theorem Sole.of_below {rb : Nat} {w w' : World} (h : Below w.heap.size w w') : Sole rb w w' := ⟨h.os, h.tape, h.output, h.size, fun k hk _ => h.block k hk⟩
theorem Sole.set (rb o : Nat) (w : World) (u : Value) : Sole rb w (w.setCell ⟨rb, o, none⟩ u) :=
  ⟨rfl, rfl, rfl, by simp [World.setCell], fun k _ hn => Below.heap_setCell w ⟨rb, o, none⟩ u k (fun e => hn e)⟩
theorem Sole.setRow (rb : Nat) (w : World) (cs : Array Value) : Sole rb w (w.setRow rb cs) :=
  ⟨rfl, rfl, rfl, by simp [World.setRow], fun k _ hn => setRow_other w rb k cs hn⟩
theorem Sole.below {rb : Nat} {w0 w w' : World} (h : Sole rb w w') (hb : Below w0.heap.size w0 w) (hr : w0.heap.size ≤ rb) : Below w0.heap.size w0 w' :=
  hb.trans ⟨h.os, h.tape, h.output, h.size, fun k hk => h.block k (Nat.lt_of_lt_of_le hk hb.size) (by omega)⟩
theorem Sole.cell {rb : Nat} {w w' : World} (h : Sole rb w w') {a : Addr} {v : Value} (hc : w.cell? a = some v) (hn : a.block ≠ rb) : w'.cell? a = some v :=
  (World.cell?_of_block (a := a) (h.block a.block (World.block_lt_of_cell? w a hc) hn)).trans hc

/-- The block g holds just these bytes. -/
def RowB (w : World) (g : Nat) (l : List UInt8) : Prop := w.heap[g]? = some (.cells (u8s l).toArray 5 (0, 0))
theorem RowB.lt {w : World} {g : Nat} {l : List UInt8} (h : RowB w g l) : g < w.heap.size := by
  rcases Nat.lt_or_ge g w.heap.size with h' | h'
  · exact h'
  · unfold RowB at h; rw [Array.getElem?_eq_none h'] at h; cases h
theorem RowB.cell {w : World} {g : Nat} {l : List UInt8} (h : RowB w g l) (j : Nat) (hj : j < l.length) : w.cell? ⟨g, j, none⟩ = some (.int .u8 (l[j].toNat : Int)) := by
  rw [cell_of_row w g j _ _ _ h]
  simpa using u8s_get l j hj
theorem RowB.below {w w' : World} {g : Nat} {l : List UInt8} (h : RowB w g l) (hb : Below w.heap.size w w') : RowB w' g l := by
  unfold RowB; rw [hb.block g h.lt]; exact h
theorem RowB.sole {w w' : World} {g rb : Nat} {l : List UInt8} (h : RowB w g l) (hb : Sole rb w w') (hn : g ≠ rb) : RowB w' g l := by
  unfold RowB; rw [hb.block g h.lt hn]; exact h
theorem u8s_splice (l : List UInt8) (o : Nat) (c : List UInt8) : splice (u8s l) o (u8s c) = u8s (splice l o c) := by
  simp [splice, u8s]

/-- A copy of bytes that lie elsewhere into a row of bytes. -/
theorem copy_page {w : World} {g o cap g2 o2 c2 : Nat} {l c : List UInt8} (hr : RowB w g l) (hc : ∀ j (h : j < c.length), w.cell? ⟨g2, o2 + j, none⟩ = some (.int .u8 (c[j].toNat : Int))) (hfit : o + c.length ≤ l.length) :
    ∃ w2, (Builtin.copy_ #[145, 145] 3 #[.slice (some ⟨g, o, none⟩) c.length cap, .slice (some ⟨g2, o2, none⟩) c.length c2]).run Tryz.prog w = .ok (goInt c.length) w2 ∧ RowB w2 g (splice l o c) ∧ Sole g w w2 := by
  have hrun := run_copy_row (P := Tryz.prog) w 145 145 3 5 g o c.length cap ⟨g2, o2, none⟩ c.length c2 _ 5 (u8s c) Tryz.underlying145 size5 hr (by rw [u8s_length]; exact (Nat.min_self _).symm)
    (fun j v hv => by
      by_cases hj : j < c.length
      · rw [u8s_get c j hj] at hv
        cases hv
        rw [show (⟨g2, o2, none⟩ : Addr).add j = ⟨g2, o2 + j, none⟩ by simp [Addr.add]]
        exact hc j hj
      · rw [List.getElem?_eq_none (by rw [u8s_length]; omega)] at hv; cases hv)
    (by rw [u8s_length]; simp [u8s_length]; omega) (u8s_one c)
  rw [u8s_length] at hrun
  refine ⟨_, hrun, ?_, Sole.setRow g w _⟩
  have hrow := setRow_heap w g _ ((u8s l).toArray.toList.take o ++ u8s c ++ (u8s l).toArray.toList.drop (o + c.length)).toArray 5 _ hr
  unfold RowB
  rw [hrow, ← u8s_splice, splice, u8s_length, List.append_assoc]
theorem copy_body {w : World} {g o cap n : Nat} {l : List UInt8} (s : ByteArray) (hr : RowB w g l) (hn : n = s.size) (hfit : o + s.size ≤ l.length) :
    ∃ w2, (Builtin.copy_ #[145, 9] 3 #[.slice (some ⟨g, o, none⟩) n cap, .string s]).run Tryz.prog w = .ok (goInt s.size) w2 ∧ RowB w2 g (splice l o s.data.toList) ∧ Sole g w w2 := by
  have hrun := Lib.run_copy_row_string (P := Tryz.prog) w 145 9 3 5 g o n cap s _ 5 Tryz.underlying145 size5 hr (by omega) (by simp [u8s_length]; omega)
  refine ⟨_, hrun, ?_, Sole.setRow g w _⟩
  have hrow := setRow_heap w g _ ((u8s l).toArray.toList.take o ++ Lib.byteCells s.data.toList ++ (u8s l).toArray.toList.drop (o + s.size)).toArray 5 _ hr
  unfold RowB
  rw [hrow, ← u8s_splice, splice, u8s_length, bsize, List.append_assoc]
  rfl

/-- A sheet as data. -/
structure Sh where
  kind : Int
  id : Int
  txid : Nat
  count : Int
  body : ByteArray
def Sh.cells (s : Sh) : List Value := [.int .i64 s.kind, .int .i64 s.id, .int .u64 (s.txid : Int), .int .i64 s.count, .string s.body]
/-- The numbers of a sheet are those of their types. -/
def Sh.num (s : Sh) : Prop := -9223372036854775808 ≤ s.kind ∧ s.kind ≤ 9223372036854775807 ∧ -9223372036854775808 ≤ s.id ∧ s.id ≤ 9223372036854775807 ∧ s.txid < 18446744073709551616 ∧ -9223372036854775808 ≤ s.count ∧ s.count ≤ 9223372036854775807
def May (s : Sh) : Prop := (s.kind = 66 ∨ s.kind = 76) ∧ (0 ≤ s.count ∧ s.count ≤ 65535) ∧ (2 ≤ s.id ∧ s.id < 1048576) ∧ s.body.size = 4072
instance (s : Sh) : Decidable (May s) := inferInstanceAs (Decidable (_ ∧ _))

def bare (k c i t sum : Nat) (body : List UInt8) : List UInt8 :=
  beBytes k 1 ++ ([0] ++ (beBytes c 2 ++ (beBytes i 4 ++ (beBytes t 8 ++ (beBytes sum 4 ++ ([0, 0, 0, 0] ++ body))))))
def pageB (s : Sh) (sum : Nat) : List UInt8 := bare s.kind.toNat s.count.toNat s.id.toNat s.txid sum s.body.data.toList
def page (s : Sh) : List UInt8 := pageB s (crcV (pageB s 0))
theorem bare_len (k c i t sum : Nat) (body : List UInt8) : (bare k c i t sum body).length = 24 + body.length := by
  simp [bare, beBytes_len]; omega
theorem pageB_len (s : Sh) (sum : Nat) (h : May s) : (pageB s sum).length = 4096 := by
  rw [pageB, bare_len, bsize, h.2.2.2]
theorem page_len (s : Sh) (h : May s) : (page s).length = 4096 := pageB_len s _ h

def place (k : Nat) : Nat := match k with | 0 => 0 | 1 => 2 | 2 => 4 | 3 => 8 | _ => 16
def width (k : Nat) : Nat := match k with | 0 => 1 | 1 => 2 | 2 => 4 | 3 => 8 | _ => 4
/-- A page with the first so many numbers of a head written into it. -/
def headTo (l : List UInt8) (h : Nat → Nat) : Nat → List UInt8
  | 0 => l
  | k + 1 => splice (headTo l h k) (place k) (beBytes (h k) (width k))
def hd5 (a b c d e : Nat) : Nat → Nat := fun k => match k with | 0 => a | 1 => b | 2 => c | 3 => d | _ => e
theorem place_le (k : Nat) : place k + width k ≤ 20 := by
  unfold place width; split <;> simp_all
theorem width_le (k : Nat) : 1 ≤ width k ∧ width k ≤ 8 := by
  unfold width; split <;> simp
theorem headTo_len (l : List UInt8) (h : Nat → Nat) (hl : 20 ≤ l.length) (k : Nat) : (headTo l h k).length = l.length := by
  induction k with
  | zero => rfl
  | succ k ih =>
    have h1 := place_le k
    have h2 := beBytes_len (h k) (width k) (width_le k).2
    rw [headTo, length_splice _ _ _ (by rw [h2, ih]; omega), ih]
theorem headTo_five (x0 x1 x2 x3 x4 x5 x6 x7 x8 x9 x10 x11 x12 x13 x14 x15 x16 x17 x18 x19 x20 x21 x22 x23 : UInt8) (body : List UInt8) (a b c d e : Nat) :
    headTo (x0 :: x1 :: x2 :: x3 :: x4 :: x5 :: x6 :: x7 :: x8 :: x9 :: x10 :: x11 :: x12 :: x13 :: x14 :: x15 :: x16 :: x17 :: x18 :: x19 :: x20 :: x21 :: x22 :: x23 :: body) (hd5 a b c d e) 5 =
      dig a 7 :: x1 :: dig b 6 :: dig b 7 :: dig c 4 :: dig c 5 :: dig c 6 :: dig c 7 :: dig d 0 :: dig d 1 :: dig d 2 :: dig d 3 :: dig d 4 :: dig d 5 :: dig d 6 :: dig d 7 :: dig e 4 :: dig e 5 :: dig e 6 :: dig e 7 :: x20 :: x21 :: x22 :: x23 :: body := rfl
theorem bare_eq (a b c d e : Nat) (body : List UInt8) : bare a b c d e body =
      dig a 7 :: 0 :: dig b 6 :: dig b 7 :: dig c 4 :: dig c 5 :: dig c 6 :: dig c 7 :: dig d 0 :: dig d 1 :: dig d 2 :: dig d 3 :: dig d 4 :: dig d 5 :: dig d 6 :: dig d 7 :: dig e 4 :: dig e 5 :: dig e 6 :: dig e 7 :: 0 :: 0 :: 0 :: 0 :: body := rfl
theorem head_first (a b c d : Nat) (body : List UInt8) : headTo (List.replicate 24 0 ++ body) (hd5 a b c d 0) 5 = bare a b c d 0 body := by
  show headTo (0 :: 0 :: 0 :: 0 :: 0 :: 0 :: 0 :: 0 :: 0 :: 0 :: 0 :: 0 :: 0 :: 0 :: 0 :: 0 :: 0 :: 0 :: 0 :: 0 :: 0 :: 0 :: 0 :: 0 :: body) (hd5 a b c d 0) 5 = _
  rw [headTo_five, bare_eq]
theorem head_then (a b c d e e' : Nat) (body : List UInt8) : headTo (bare a b c d e body) (hd5 a b c d e') 5 = bare a b c d e' body := by
  rw [bare_eq, headTo_five, bare_eq]

end Go.Proofs.YtnaedmmfiiebaaaGreatDoor.S

namespace Go.Proofs.YtnaedmmfiiebaaaGreatDoor.S
open Go.RowKit

/-- Where the numbers of a head lie: the package's table. -/
def Lay (w : World) : Prop := 14 < w.heap.size ∧ w.cell? ⟨14, 0, none⟩ = some (.int .i64 0) ∧ w.cell? ⟨14, 1, none⟩ = some (.int .i64 1) ∧ w.cell? ⟨14, 2, none⟩ = some (.int .i64 2) ∧ w.cell? ⟨14, 3, none⟩ = some (.int .i64 2) ∧ w.cell? ⟨14, 4, none⟩ = some (.int .i64 4) ∧ w.cell? ⟨14, 5, none⟩ = some (.int .i64 4) ∧ w.cell? ⟨14, 6, none⟩ = some (.int .i64 8) ∧ w.cell? ⟨14, 7, none⟩ = some (.int .i64 8) ∧ w.cell? ⟨14, 8, none⟩ = some (.int .i64 16) ∧ w.cell? ⟨14, 9, none⟩ = some (.int .i64 4)
theorem Lay.below {w w' : World} (h : Lay w) (hb : Below w.heap.size w w') : Lay w' := by
  obtain ⟨h0, c0, c1, c2, c3, c4, c5, c6, c7, c8, c9⟩ := h
  exact ⟨Nat.lt_of_lt_of_le h0 hb.size, (hb.cell h0).trans c0, (hb.cell h0).trans c1, (hb.cell h0).trans c2, (hb.cell h0).trans c3, (hb.cell h0).trans c4, (hb.cell h0).trans c5, (hb.cell h0).trans c6, (hb.cell h0).trans c7, (hb.cell h0).trans c8, (hb.cell h0).trans c9⟩
theorem Lay.sole {rb : Nat} {w w' : World} (h : Lay w) (hb : Sole rb w w') (hn : 14 ≠ rb) : Lay w' := by
  obtain ⟨h0, c0, c1, c2, c3, c4, c5, c6, c7, c8, c9⟩ := h
  exact ⟨Nat.lt_of_lt_of_le h0 hb.size, hb.cell c0 hn, hb.cell c1 hn, hb.cell c2 hn, hb.cell c3 hn, hb.cell c4 hn, hb.cell c5 hn, hb.cell c6 hn, hb.cell c7 hn, hb.cell c8 hn, hb.cell c9 hn⟩

set_option maxHeartbeats 400000 in
theorem wh1_any (g hb o m k n cap : Nat) (l : List UInt8) (w : World) (hk : k < 5) (hn : n < 18446744073709551616) (h1 : 1 ≤ m) (h8 : m ≤ 8) (hfit : n < 2 ^ (8 * m)) (hr : RowB w g l) (hpl : o + m ≤ l.length)
    (hc : w.cell? ⟨hb, k, none⟩ = some (.int .u64 (n : Int))) :
    Calls Tryz.prog 216 #[.int .i64 (k : Int), .slice (some ⟨g, o, none⟩) m cap, .pointer (some ⟨hb, 0, none⟩)] w fun e w' => e = .returned (.tuple #[]) ∧ RowB w' g (splice l o (beBytes n m)) ∧ Sole g w w' := by
  have HR : Hid (RowB w g l) := hr
  have HP : Hid (o + m ≤ l.length) := hpl
  have HF : Hid (n < 2 ^ (8 * m)) := hfit
  have hl := beBytes_len n m h8
  have k0 : (0 : Int) ≤ (k : Int) := by omega
  have k5 : (k : Int) < 5 := by omega
  clear hr hpl hfit
  go_enter Tryz.func216, Tryz.ntmps216
  go_wp2_with (go_at_call 217; refine (put_ok n m _ hn h1 h8 HF.out).mono ?_; rintro e w1 ⟨g2, c2, rfl, hown, hb1⟩; have hr1 := HR.out.below hb1; obtain ⟨w2, hcp, hr2, hs2⟩ := copy_page (o2 := 0) (g2 := g2) (c2 := c2) (cap := cap) (c := beBytes n m) hr1 (fun j hj => by rw [Nat.zero_add, hown.cellAt j (by omega), u8s_get _ j hj]) (by rw [hl]; exact HP.out); rw [hl] at hcp; have HS : Hid (Sole g w w2) := (Sole.of_below hb1).trans hs2; have HR2 : Hid (RowB w2 g (splice l o (beBytes n m))) := hr2; clear hr1 hr2 hs2 hb1 hown)
  go_end0
  exact ⟨rfl, HR2.out, HS.out⟩

end Go.Proofs.YtnaedmmfiiebaaaGreatDoor.S

namespace Go.Proofs.YtnaedmmfiiebaaaGreatDoor.S
open Go.RowKit

theorem Lay.alloc {w : World} (h : Lay w) (o : Obj) : Lay (w.alloc o) := h.below (below_new w o)
theorem RowB.alloc {w : World} {g : Nat} {l : List UInt8} (h : RowB w g l) (o : Obj) : RowB (w.alloc o) g l := h.below (below_new w o)

def HeadFits (h : Nat → Nat) : Prop := ∀ k, k < 5 → h k < 2 ^ (8 * width k)
theorem HeadFits.u64 {h : Nat → Nat} (hf : HeadFits h) (k : Nat) (hk : k < 5) : h k < 18446744073709551616 :=
  Nat.lt_of_lt_of_le (hf k hk) (Nat.le_trans (Nat.pow_le_pow_right (n := 2) (i := 8 * width k) (j := 64) (by decide) (by have := (width_le k).2; omega)) (by decide))

@[reducible] def layV : Value := .agg #[.int .i64 0, .int .i64 1, .int .i64 2, .int .i64 2, .int .i64 4, .int .i64 4, .int .i64 8, .int .i64 8, .int .i64 16, .int .i64 4]
theorem lay_index (w : World) (k : Nat) (hk : k < 5) : (Instr.index 327 layV (.int .i64 (k : Int))).run Tryz.prog w = .ok (.agg #[.int .i64 (place k : Int), .int .i64 (width k : Int)]) w := by
  obtain rfl | rfl | rfl | rfl | rfl : k = 0 ∨ k = 1 ∨ k = 2 ∨ k = 3 ∨ k = 4 := by omega
  all_goals kernel_rfl

set_option maxHeartbeats 1000000 in
theorem eachW_any (g hb : Nat) (h : Nat → Nat) (l : List UInt8) (w : World) (hl : l.length = 4096) (hgb : g ≠ hb) (hL : Lay w) (hr : RowB w g l) (hf : HeadFits h)
    (hc : ∀ k, k < 5 → w.cell? ⟨hb, k, none⟩ = some (.int .u64 (h k : Int))) :
    Calls Tryz.prog 215 #[.slice (some ⟨g, 0, none⟩) 4096 4096, .func (.func 216) #[] #[.pointer (some ⟨hb, 0, none⟩)]] w fun e w' => e = .returned (.tuple #[]) ∧ RowB w' g (headTo l h 5) ∧ Sole g w w' := by
  obtain ⟨hL0, c0, c1, c2, c3, c4, c5, c6, c7, c8, c9⟩ := hL
  have HC : Hid (∀ k, k < 5 → w.cell? ⟨hb, k, none⟩ = some (.int .u64 (h k : Int))) := hc
  have HR : Hid (RowB w g l) := hr
  have HF : Hid (HeadFits h) := hf
  have HL : Hid (l.length = 4096) := hl
  clear hc hr hf hl hL0
  go_enter Tryz.func215, Tryz.ntmps215
  go_wp2_with fail
  go_loopw [7] (fun i wr => ∃ k : Nat, k ≤ 5 ∧ i = .int .i64 (k : Int) ∧ RowB wr g (headTo l h k) ∧ Sole g w wr) (fun i _ => 5 - (intOf i).toNat)
  case atStart => exact ⟨0, by omega, rfl, HR.out, Sole.refl _ _⟩
  case round =>
    obtain ⟨k, hk, rfl, hrow, hs⟩ := hrel
    clear c0 c1 c2 c3 c4 c5 c6 c7 c8 c9
    have HS : Hid (Sole g w wr) := hs
    have HW : Hid (RowB wr g (headTo l h k)) := hrow
    clear hs hrow
    by_cases hlt : k < 5
    · have HCK : Hid (∀ o, (wr.alloc o).cell? ⟨hb, k, none⟩ = some (.int .u64 (h k : Int))) := fun o =>
        ((below_new wr o).cell (p := ⟨hb, k, none⟩) (Nat.lt_of_lt_of_le (World.block_lt_of_cell? w _ (HC.out k hlt)) HS.out.size)).trans (HS.out.cell (HC.out k hlt) (fun e => hgb e.symm))
      have HLN : Hid ((headTo l h k).length = 4096) := by show _ = _; rw [headTo_len _ _ (by rw [HL.out]; omega), HL.out]
      have HFK : Hid (h k < 2 ^ (8 * width k)) := HF.out k hlt
      have HUK : Hid (h k < 18446744073709551616) := HF.out.u64 k hlt
      obtain rfl | rfl | rfl | rfl | rfl : k = 0 ∨ k = 1 ∨ k = 2 ∨ k = 3 ∨ k = 4 := by omega
      · have li := fun w => lay_index w 0 (by decide)
        rw [show ((0 : Nat) : Int) = 0 from rfl] at li ⊢
        simp only [place, width, Int.cast_ofNat_Int] at li
        go_wp2_with (go_at_call 216; refine (wh1_any g hb 0 1 0 (h 0) 4096 (headTo l h 0) _ (by decide) HUK.out (by decide) (by decide) HFK.out (HW.out.alloc _) (by rw [HLN.out]; decide) (HCK.out _)).mono ?_; rintro e w1 ⟨rfl, hr1, hs1⟩; have HR1 : Hid (RowB w1 g (headTo l h (0 + 1))) := hr1; have HS1 : Hid (Sole g w w1) := HS.out.trans ((Sole.of_below (below_new wr _)).trans hs1); clear hr1 hs1)
        go_roundw
        case rel => exact ⟨1, by omega, by go_num, HR1.out, HS1.out⟩
        case measure => simp [intOf]
      · have li := fun w => lay_index w 1 (by decide)
        rw [show ((1 : Nat) : Int) = 1 from rfl] at li ⊢
        simp only [place, width, Int.cast_ofNat_Int] at li
        go_wp2_with (go_at_call 216; refine (wh1_any g hb 2 2 1 (h 1) 4094 (headTo l h 1) _ (by decide) HUK.out (by decide) (by decide) HFK.out (HW.out.alloc _) (by rw [HLN.out]; decide) (HCK.out _)).mono ?_; rintro e w1 ⟨rfl, hr1, hs1⟩; have HR1 : Hid (RowB w1 g (headTo l h (1 + 1))) := hr1; have HS1 : Hid (Sole g w w1) := HS.out.trans ((Sole.of_below (below_new wr _)).trans hs1); clear hr1 hs1)
        go_roundw
        case rel => exact ⟨2, by omega, by go_num, HR1.out, HS1.out⟩
        case measure => simp [intOf]
      · have li := fun w => lay_index w 2 (by decide)
        rw [show ((2 : Nat) : Int) = 2 from rfl] at li ⊢
        simp only [place, width, Int.cast_ofNat_Int] at li
        go_wp2_with (go_at_call 216; refine (wh1_any g hb 4 4 2 (h 2) 4092 (headTo l h 2) _ (by decide) HUK.out (by decide) (by decide) HFK.out (HW.out.alloc _) (by rw [HLN.out]; decide) (HCK.out _)).mono ?_; rintro e w1 ⟨rfl, hr1, hs1⟩; have HR1 : Hid (RowB w1 g (headTo l h (2 + 1))) := hr1; have HS1 : Hid (Sole g w w1) := HS.out.trans ((Sole.of_below (below_new wr _)).trans hs1); clear hr1 hs1)
        go_roundw
        case rel => exact ⟨3, by omega, by go_num, HR1.out, HS1.out⟩
        case measure => simp [intOf]
      · have li := fun w => lay_index w 3 (by decide)
        rw [show ((3 : Nat) : Int) = 3 from rfl] at li ⊢
        simp only [place, width, Int.cast_ofNat_Int] at li
        go_wp2_with (go_at_call 216; refine (wh1_any g hb 8 8 3 (h 3) 4088 (headTo l h 3) _ (by decide) HUK.out (by decide) (by decide) HFK.out (HW.out.alloc _) (by rw [HLN.out]; decide) (HCK.out _)).mono ?_; rintro e w1 ⟨rfl, hr1, hs1⟩; have HR1 : Hid (RowB w1 g (headTo l h (3 + 1))) := hr1; have HS1 : Hid (Sole g w w1) := HS.out.trans ((Sole.of_below (below_new wr _)).trans hs1); clear hr1 hs1)
        go_roundw
        case rel => exact ⟨4, by omega, by go_num, HR1.out, HS1.out⟩
        case measure => simp [intOf]
      · have li := fun w => lay_index w 4 (by decide)
        rw [show ((4 : Nat) : Int) = 4 from rfl] at li ⊢
        simp only [place, width, Int.cast_ofNat_Int] at li
        go_wp2_with (go_at_call 216; refine (wh1_any g hb 16 4 4 (h 4) 4080 (headTo l h 4) _ (by decide) HUK.out (by decide) (by decide) HFK.out (HW.out.alloc _) (by rw [HLN.out]; decide) (HCK.out _)).mono ?_; rintro e w1 ⟨rfl, hr1, hs1⟩; have HR1 : Hid (RowB w1 g (headTo l h (4 + 1))) := hr1; have HS1 : Hid (Sole g w w1) := HS.out.trans ((Sole.of_below (below_new wr _)).trans hs1); clear hr1 hs1)
        go_roundw
        case rel => exact ⟨5, by omega, by go_num, HR1.out, HS1.out⟩
        case measure => simp [intOf]
    · obtain rfl : k = 5 := by omega
      rw [show ((5 : Nat) : Int) = 5 from rfl]
      go_wp2_with fail
      go_end0
      exact ⟨rfl, HW.out, HS.out⟩

end Go.Proofs.YtnaedmmfiiebaaaGreatDoor.S
