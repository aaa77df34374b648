import Derived.Test.YtnaedmmfiiebaaaGreatDoorG00
import Derived.Deep.AppendLies
import Derived.Test.YtnaedmmfiiebaaaGreatDoorLen64
import Derived.Test.YtnaedmmfiiebaaaGreatDoorG10
import Derived.Deep.RegionHeld3
import Derived.Laws.BitsLemmas
import Derived.Laws.ResultCell
namespace Go.Proofs.YtnaedmmfiiebaaaGreatDoor
open Go.RowKit

set_option maxHeartbeats 400000 in
theorem clone_any (b off len cap : Nat) (l : List UInt8) (w : World) (hlen : l.length = len) (h1 : 1 ≤ len) (hm : len ≤ 8)
    (hc : ∀ j (h : j < l.length), w.cell? ⟨b, off + j, none⟩ = some (.int .u8 (l[j].toNat : Int))) :
    Calls Tryz.prog 239 #[.slice (some ⟨b, off, none⟩) len cap] w fun e w' => ∃ g c2, e = .returned (.slice (some ⟨g, 0, none⟩) len c2) ∧ w'.ownsRow w.heap.size 5 1 (.slice (some ⟨g, 0, none⟩) len c2) len (u8s l) ∧ Below w.heap.size w w' := by
  obtain ⟨i0, hi, hz0, hz1, hz2⟩ := info_parts Tryz.info5
  have hnil : ∀ w, (binOp .eql 145 (.slice (some ⟨b, off, none⟩) len cap) (.slice none 0 0)).run Tryz.prog w = .ok (.bool false) w := fun w => by
    have h2 : ∀ d : Nat, (Op.equalIn (d + 1) 145 (.slice (some ⟨b, off, none⟩) len cap) (.slice none 0 0)).run Tryz.prog w = .ok false w := fun d => by
      simp [Op.equalIn, run_underlying Tryz.underlying145]
    simp only [binOp]
    simp [Op.equal, Op.maxDepth, h2 9999]
  go_enter Tryz.func239, Tryz.ntmps239
  have hb : b < w.heap.size := World.block_lt_of_cell? w _ (hc 0 (by omega))
  go_wp2_with (first
    | (at_builtin; refine wpList_append_lies _ rfl _ _ 145 rfl w.heap.size 5 i0 (.int .u8 0) 1 1 Tryz.underlying145 hi hz0 hz1 hz2 rfl (by decide) _ 0 [] rfl ?c0 ⟨b, off, none⟩ len cap (u8s l) rfl ?c8 ?c1 (u8s_one l) ?c3 ?c4 ?c5 ?c6 (w.heap.size + 1) ?c7 ?_))
  case c0 => exact World.ownsRow_lit w #[] 0 (Nat.le_refl _) (Nat.zero_le _) rfl
  case c8 => rw [u8s_length, hlen, Nat.mul_one]
  case c1 =>
    intro j u hu
    by_cases hj : j < l.length
    · rw [u8s_get l j hj] at hu
      cases hu
      have e : (⟨b, off, none⟩ : Addr).add j = ⟨b, off + j, none⟩ := by simp [Addr.add]
      rw [e, (below_new w _).cell (p := ⟨b, off + j, none⟩) hb]
      exact hc j hj
    · rw [List.getElem?_eq_none (by rw [u8s_length]; omega)] at hu; cases hu
  case c3 => omega
  case c4 => unfold maxLen; omega
  case c5 => omega
  case c6 => simp
  case c7 => simp
  intro g c2 w1 hown hgrow hat hlg
  have hb1 : Below w.heap.size w w1 := (below_new w _).grown hgrow (by simp) (fun k hk => by simp [Value.ownBlock] at hk; omega)
  clear hgrow hat hlg hc
  go_wp2
  go_ret
  exact ⟨g, c2, rfl, hown, hb1⟩

end Go.Proofs.YtnaedmmfiiebaaaGreatDoor

namespace Go.Proofs.YtnaedmmfiiebaaaGreatDoor
open Go.RowKit

theorem arrLen : Tryz.prog.arrayLen 328 = 8 := by kernel_rfl
theorem arrElem : Tryz.prog.elem 328 = 5 := by kernel_rfl
theorem slice_arr (b len : Nat) (h1 : 1 ≤ len) (h8 : len ≤ 8) (w : World) :
    (Instr.sliceAt 328 (.pointer (some ⟨b, 0, none⟩)) (some (.int .i64 (8 - (len : Int)))) none none).run Tryz.prog w = .ok (.slice (some ⟨b, 8 - len, none⟩) len len) w := by
  have hz : (sizeOf 5).run Tryz.prog w = .ok 1 w := by kernel_rfl
  have e : (8 - (len : Int)).toNat = 8 - len := by omega
  rw [run_sliceAt_array_l w 328 ⟨b, 0, none⟩ (by kernel_rfl) .i64 _ (by omega) (by rw [arrLen]; omega), arrLen, arrElem, e, hz]
  by_cases h : len = 8
  · subst h; rfl
  · simp [slicedAt, Addr.add, show 8 ≠ 8 - len by omega, show 8 - (8 - len) = len by omega, show ¬ 8 - len = 0 by omega]

def dig (n j : Nat) : UInt8 := UInt8.ofNat (n / 2 ^ (8 * (7 - j)))
def digs (n : Nat) : List UInt8 := (List.range 8).map (dig n)
def digTo (n k : Nat) : List UInt8 := List.replicate (8 - k) 0 ++ (digs n).drop (8 - k)
/-- The number in so many bytes, the highest first. -/
def beBytes (n width : Nat) : List UInt8 := (digs n).drop (8 - width)
theorem digs_len (n : Nat) : (digs n).length = 8 := by simp [digs]
theorem digTo_len (n k : Nat) (_h : k ≤ 8) : (digTo n k).length = 8 := by
  rw [digTo, List.length_append, List.length_replicate, List.length_drop, digs_len]; omega
theorem beBytes_len (n width : Nat) (h : width ≤ 8) : (beBytes n width).length = width := by
  rw [beBytes, List.length_drop, digs_len]; omega
theorem digs_get (n j : Nat) (h : j < (digs n).length) : (digs n)[j] = dig n j := by simp [digs]
theorem digTo_succ (n k : Nat) (h : k < 8) : digTo n (k + 1) = (digTo n k).set (7 - k) (dig n (7 - k)) := by
  have e1 : 8 - (k + 1) = 7 - k := by omega
  have e2 : 8 - k = (7 - k) + 1 := by omega
  unfold digTo
  rw [e1, e2, List.replicate_succ', List.append_assoc, List.set_append_right _ _ (by simp)]
  have hd : (digs n).drop (7 - k) = dig n (7 - k) :: (digs n).drop (7 - k + 1) := by
    rw [List.drop_eq_getElem_cons (by rw [digs_len]; omega), digs_get]
  rw [hd]
  simp
theorem dig_val (n k : Nat) (hk : k < 8) : (n : Int) / 2 ^ (8 * k) % 256 = ((dig n (7 - k)).toNat : Int) := by
  unfold dig
  rw [show 7 - (7 - k) = k by omega]
  simp only [UInt8.toNat_ofNat']
  generalize hx : n / 2 ^ (8 * k) = x
  have e : (n : Int) / 2 ^ (8 * k) = (x : Int) := by
    rw [← hx, Int.natCast_ediv]
    simp
  rw [e]
  omega

theorem owns_base {w : World} {b b2 e size n : Nat} {v : Value} {xs : List Value} (h : w.ownsRow b e size v n xs) (hb : b2 ≤ b) : w.ownsRow b2 e size v n xs := by
  refine ⟨h.1, ?_⟩
  rcases h.2 with h' | ⟨g, cap, cur, h', h1, hr⟩
  · exact .inl h'
  · exact .inr ⟨g, cap, cur, h', Nat.le_trans hb h1, hr⟩
set_option maxHeartbeats 600000 in
theorem put_ok (n m : Nat) (w : World) (hn : n < 18446744073709551616) (h1 : 1 ≤ m) (h8 : m ≤ 8) (hfit : n < 2 ^ (8 * m)) :
    Calls Tryz.prog 217 #[.int .u64 (n : Int), .int .i64 (m : Int)] w fun e w' => ∃ g c2, e = .returned (.tuple #[.slice (some ⟨g, 0, none⟩) m c2, .nilIface]) ∧ w'.ownsRow w.heap.size 5 1 (.slice (some ⟨g, 0, none⟩) m c2) m (u8s (beBytes n m)) ∧ Below w.heap.size w w' := by
  have hd1 : decide ((m : Int) < 1) = false := decide_eq_false (by omega)
  have hd2 : decide (8 < (m : Int)) = false := decide_eq_false (by omega)
  have hb : Lib.bitLen n ≤ 8 * m := (bitLen_fits n (8 * m) (by omega) hn).2 hfit
  have hd3 : decide (8 * (m : Int) < ((Lib.bitLen n : Nat) : Int)) = false := decide_eq_false (by omega)
  clear hfit hb
  have hnew := heap_alloc_new w (.cells #[.int .u8 0, .int .u8 0, .int .u8 0, .int .u8 0, .int .u8 0, .int .u8 0, .int .u8 0, .int .u8 0] 328)
  have hbn := below_new w (.cells #[.int .u8 0, .int .u8 0, .int .u8 0, .int .u8 0, .int .u8 0, .int .u8 0, .int .u8 0, .int .u8 0] 328)
  have HN : Hid ((w.alloc (.cells #[.int .u8 0, .int .u8 0, .int .u8 0, .int .u8 0, .int .u8 0, .int .u8 0, .int .u8 0, .int .u8 0] 328)).heap[w.heap.size]? = some (.cells (u8s (digTo n 0)).toArray 328 (0, 0))) := by
    show _ = _
    rw [hnew]
    rfl
  have HBN : Hid (Below w.heap.size w (w.alloc (.cells #[.int .u8 0, .int .u8 0, .int .u8 0, .int .u8 0, .int .u8 0, .int .u8 0, .int .u8 0, .int .u8 0] 328))) := hbn
  clear hnew hbn
  go_enter Tryz.func217, Tryz.ntmps217
  go_wp2_with (go_at_call 146; refine (len64_any n _ hn).mono ?_; rintro e w' ⟨rfl, rfl⟩)
  go_loopw [22] (fun i wr => ∃ k : Nat, k ≤ 8 ∧ i = .int .i64 k ∧ wr.heap[w.heap.size]? = some (.cells (u8s (digTo n k)).toArray 328 (0, 0)) ∧ Below w.heap.size w wr) (fun i _ => 8 - (intOf i).toNat)
  case atStart => exact ⟨0, by omega, rfl, HN.out, HBN.out⟩
  case round =>
    obtain ⟨k, hk, rfl, hrow, hbr⟩ := hrel
    clear HN HBN
    have HR : Hid (wr.heap[w.heap.size]? = some (.cells (u8s (digTo n k)).toArray 328 (0, 0))) := hrow
    clear hrow
    by_cases hlt : k < 8
    · have hl := digTo_len n k hk
      have hcell : wr.cell? ⟨w.heap.size, 7 - k, none⟩ = some (.int .u8 (((digTo n k)[7 - k]'(by omega)).toNat : Int)) := by
        rw [cell_of_row wr w.heap.size (7 - k) _ 328 (0, 0) HR.out]
        simpa using u8s_get (digTo n k) (7 - k) (by omega)
      obtain ⟨old, hold⟩ : ∃ old : Int, old = (((digTo n k)[7 - k]'(by omega)).toNat : Int) := ⟨_, rfl⟩
      rw [← hold] at hcell
      clear hold
      have hfr : wr.frozen? ⟨w.heap.size, 7 - k, none⟩ = false := frozen_of_row wr w.heap.size (7 - k) _ 328 HR.out
      have hv := dig_val n k hlt
      have HS : Hid ((wr.setCell ⟨w.heap.size, 7 - k, none⟩ (.int .u8 ((dig n (7 - k)).toNat : Int))).heap[w.heap.size]? = some (.cells (u8s (digTo n (k + 1))).toArray 328 (0, 0))) := by
        show _ = _
        rw [heap_setCell_same wr w.heap.size (7 - k) _ 328 _ HR.out, digTo_succ n k hlt]
        simp [u8s, List.map_set]
      generalize dig n (7 - k) = dg at *
      go_wp2
      go_roundw
      case rel => exact ⟨k + 1, by omega, by go_num, HS.out, hbr.setCell (Nat.le_refl _) _⟩
      case measure => simp [intOf]; omega
    · have hke : k = 8 := by omega
      subst hke
      have hsl := slice_arr w.heap.size m h1 h8
      have hl := beBytes_len n m h8
      have HC : Hid (∀ j (h : j < (beBytes n m).length), wr.cell? ⟨w.heap.size, 8 - m + j, none⟩ = some (.int .u8 ((beBytes n m)[j].toNat : Int))) := by
        intro j hj
        have e8 : digTo n 8 = digs n := by simp [digTo]
        rw [cell_of_row wr w.heap.size (8 - m + j) _ 328 (0, 0) HR.out, e8]
        have hj2 : 8 - m + j < (digs n).length := by rw [digs_len]; omega
        have := u8s_get (digs n) (8 - m + j) hj2
        simp only [List.getElem?_toArray]
        rw [this]
        simp [beBytes]
      clear HR
      go_wp2_with fail
      refine (clone_any w.heap.size (8 - m) m m (beBytes n m) _ hl h1 h8 HC.out).mono ?_
      rintro e w2 ⟨g, c2, rfl, hown, hb2⟩
      have hbf := Below.next hbr hb2
      have hown2 : w2.ownsRow w.heap.size 5 1 (.slice (some ⟨g, 0, none⟩) m c2) m (u8s (beBytes n m)) := owns_base hown hbr.size
      clear hown hb2 hbr HC hsl
      go_wp2_with fail
      go_ret2
      exact ⟨g, c2, rfl, hown2, hbf⟩

end Go.Proofs.YtnaedmmfiiebaaaGreatDoor

namespace Go.Proofs.YtnaedmmfiiebaaaGreatDoor

/-! The cells of pairs, as data. -/
def headP (k v : Nat) : List UInt8 := [UInt8.ofNat k, hi8 v, lo8 v]
def cellP (p : Pr) : ByteArray := ⟨(headP p.1.size p.2.size ++ (p.1.data.toList ++ p.2.data.toList)).toArray⟩
theorem cellP_list (p : Pr) : (cellP p).data.toList = headP p.1.size p.2.size ++ (p.1.data.toList ++ p.2.data.toList) := by simp [cellP]
/-- The pair of a cell of three bytes or more, if it is one's. -/
def keyC (c : List UInt8) : Nat := min (c.getD 0 0).toNat (c.length - 3)
def pairC (c : ByteArray) : Pr := (⟨((c.data.toList.drop 3).take (keyC c.data.toList)).toArray⟩, ⟨((c.data.toList.drop 3).drop (keyC c.data.toList)).toArray⟩)
def okC (c : ByteArray) : Bool := decide (3 ≤ c.size ∧ cellP (pairC c) = c)
theorem keyC_le (c : List UInt8) : keyC c ≤ 255 ∧ keyC c ≤ c.length - 3 := by
  have := (c.getD 0 0).toNat_lt
  unfold keyC; omega
theorem pairC_k (c : ByteArray) : (pairC c).1.size = keyC c.data.toList := by
  have := (keyC_le c.data.toList).2
  rw [← bsize]; simp only [pairC]
  rw [List.length_take, List.length_drop]; omega
theorem pairC_v (c : ByteArray) : (pairC c).2.size = c.size - 3 - keyC c.data.toList := by
  rw [← bsize]; simp only [pairC]
  rw [List.length_drop, List.length_drop, bsize]
theorem pairC_flat (c : ByteArray) : (pairC c).1.data.toList ++ (pairC c).2.data.toList = c.data.toList.drop 3 := by
  simp only [pairC]; rw [List.take_append_drop]
/-- Just if the three bytes are the lengths. -/
theorem okC_head (c : ByteArray) (h : 3 ≤ c.size) : okC c = decide (headP (pairC c).1.size (pairC c).2.size = c.data.toList.take 3) := by
  unfold okC
  congr 1
  apply propext
  constructor
  · rintro ⟨_, he⟩
    have := congrArg (fun b : ByteArray => b.data.toList.take 3) he
    simp only [cellP_list] at this
    rw [List.take_append_of_le_length (by simp [headP]), List.take_of_length_le (by simp [headP])] at this
    exact this
  · intro he
    refine ⟨h, ba_ext' ?_⟩
    rw [cellP_list, he, pairC_flat, List.take_append_drop]
/-- What Decode answers. -/
def DecOk (n : Nat) (b : List UInt8) : Prop := OkR b n ∧ (∀ c ∈ cellsB b n, okC c = true) ∧ chk ((cellsB b n).map pairC) true = none
def decL (n : Nat) (b : List UInt8) : List Pr := (cellsB b n).map pairC
end Go.Proofs.YtnaedmmfiiebaaaGreatDoor

namespace Go.Proofs.YtnaedmmfiiebaaaGreatDoor
open Go.RowKit

/-- Where a slice value's bytes lie. -/
def RdA (w : World) (v : Value) (l : List UInt8) : Prop := ∃ a cap, v = .slice a l.length cap ∧ ∀ j (h : j < l.length), ∃ g o, a = some ⟨g, o, none⟩ ∧ w.cell? ⟨g, o + j, none⟩ = some (.int .u8 (l[j].toNat : Int))
theorem run_str (w : World) (v : Value) (l : List UInt8) (h : RdA w v l) (hl : 0 < l.length) : (convert 145 9 v).run Tryz.prog w = .ok (.string ⟨l.toArray⟩) w := by
  obtain ⟨a, cap, rfl, hc⟩ := h
  obtain ⟨g, o, rfl, _⟩ := hc 0 hl
  refine run_convert_bytes_back w 145 9 5 ⟨g, o, none⟩ cap l Tryz.underlying145 Tryz.underlying5 Tryz.underlying9 (fun j hj => ?_)
  obtain ⟨g', o', he, hcell⟩ := hc j hj
  cases he
  rw [show (⟨g, o, none⟩ : Addr).add j = ⟨g, o + j, none⟩ by simp [Addr.add]]
  exact hcell

end Go.Proofs.YtnaedmmfiiebaaaGreatDoor

namespace Go.Proofs.YtnaedmmfiiebaaaGreatDoor
open Go.RowKit

theorem be_one (n : Nat) (_h : n ≤ 255) : beBytes n 1 = [UInt8.ofNat n] := by
  unfold beBytes digs dig
  simp [List.range, List.range.loop]
theorem be_two (n : Nat) (_h : n < 65536) : beBytes n 2 = [hi8 n, lo8 n] := by
  have e1 : UInt8.ofNat n = lo8 n := by
    apply UInt8.toNat_inj.1
    simp [lo8]
  unfold beBytes digs dig
  simp only [List.range, List.range.loop, List.map_cons, List.map_nil, List.drop_succ_cons, List.drop_zero, Nat.reduceSub, Nat.reduceMul, Nat.reducePow, Nat.div_one]
  rw [e1]; rfl
def headB (p : Pr) : ByteArray := ⟨(headP p.1.size p.2.size).toArray⟩
theorem headB_size (p : Pr) : (headB p).size = 3 := rfl
theorem headB_parts (p : Pr) : (⟨[UInt8.ofNat p.1.size].toArray⟩ : ByteArray) ++ ⟨[hi8 p.2.size, lo8 p.2.size].toArray⟩ = headB p := by
  refine ba_ext' ?_
  simp [headB, headP]
theorem rdA_own {w : World} {base g m c : Nat} {l : List UInt8} (h : w.ownsRow base 5 1 (.slice (some ⟨g, 0, none⟩) m c) m (u8s l)) (hl : l.length = m) : RdA w (.slice (some ⟨g, 0, none⟩) m c) l :=
  ⟨_, _, by rw [hl], fun j hj => ⟨g, 0, rfl, by rw [Nat.zero_add, World.ownsRow.cellAt h j (by omega)]; exact u8s_get l j hj⟩⟩

set_option maxRecDepth 20000 in
set_option maxHeartbeats 1000000 in
theorem lens_any (p : Pr) (w : World) (h1 : p.1.size ≤ 255) (h2 : p.2.size < 65536) :
    Calls Tryz.prog 191 #[.agg #[.string p.1, .string p.2]] w fun e w' => e = .returned (.string (headB p)) ∧ Below w.heap.size w w' := by
  have hbn := below_new w (.cells #[.string p.1, .string p.2] 52)
  have hx := boxed_new w #[.string p.1, .string p.2] 52
  have HP1 := hide (fun W => put_ok p.1.size 1 W (by omega) (by decide) (by decide) (by omega))
  have HP2 := hide (fun W => put_ok p.2.size 2 W (by omega) (by decide) (by decide) (by omega))
  have HBE1 := hide (be_one p.1.size h1)
  have HBE2 := hide (be_two p.2.size h2)
  have HX := hide hx
  have HBN := hide hbn
  have k0 : (w.alloc (.cells #[.string p.1, .string p.2] 52)).cell? ⟨w.heap.size, 0, none⟩ = some (.string p.1) := hx.2 0 (by simp)
  have w1 : (p.1.size : Int) % 18446744073709551616 = (p.1.size : Int) := by omega
  have w2 : (p.2.size : Int) % 18446744073709551616 = (p.2.size : Int) := by omega
  clear hbn hx
  go_enter Tryz.func191, Tryz.ntmps191
  go_wp2_with fail
  refine (HP1.out _).mono ?_
  rintro e w1 ⟨g, c2, rfl, hown, hb1⟩
  rw [HBE1.out] at hown
  have HO1 := hide hown
  have HB1 := hide (Below.next HBN.out hb1)
  have k1 : w1.cell? ⟨w.heap.size, 1, none⟩ = some (.string p.2) := (HX.out.below hb1).2 1 (by simp)
  clear hown hb1 HP1 k0 HBN HX
  go_wp2_with fail
  refine (HP2.out _).mono ?_
  rintro e w2 ⟨g2, c3, rfl, hown2, hb2⟩
  rw [HBE2.out] at hown2
  have ho1 : w2.ownsRow _ 5 1 (.slice (some ⟨g, 0, none⟩) 1 c2) 1 (u8s [UInt8.ofNat p.1.size]) := ⟨HO1.out.1, by
    rcases HO1.out.2 with h' | ⟨g', cap, cur, h', h1', h2', hr⟩
    · exact .inl h'
    · refine .inr ⟨g', cap, cur, h', h1', ?_, hr⟩
      have hg : g' < w1.heap.size := by
        rcases Nat.lt_or_ge g' w1.heap.size with h'' | h''
        · exact h''
        · rw [Array.getElem?_eq_none h''] at h2'; cases h2'
      rw [hb2.block g' hg]; exact h2'⟩
  have cv1 := run_str w2 _ _ (rdA_own ho1 rfl) (by simp)
  have cv2 := run_str w2 _ _ (rdA_own hown2 rfl) (by simp)
  have HB2 := hide (Below.next HB1.out hb2)
  have HH := hide (headB_parts p)
  have HHS := hide (headB_size p)
  obtain ⟨t1, ht1⟩ : ∃ t1 : ByteArray, t1 = ⟨[UInt8.ofNat p.1.size].toArray⟩ := ⟨_, rfl⟩
  obtain ⟨t2, ht2⟩ : ∃ t2 : ByteArray, t2 = ⟨[hi8 p.2.size, lo8 p.2.size].toArray⟩ := ⟨_, rfl⟩
  have z1 : t1.size = 1 := by rw [ht1]; rfl
  have z2 : t2.size = 2 := by rw [ht2]; rfl
  rw [← ht1] at cv1 HH
  rw [← ht2] at cv2 HH
  clear ho1 hown2 hb2 HO1 HB1 HP2 k1 ht1 ht2
  go_wp2
  go_ret
  exact ⟨by rw [← HH.out]; rfl, HB2.out⟩

end Go.Proofs.YtnaedmmfiiebaaaGreatDoor

namespace Go.Proofs.YtnaedmmfiiebaaaGreatDoor
open Go.RowKit

end Go.Proofs.YtnaedmmfiiebaaaGreatDoor

namespace Go.Proofs.YtnaedmmfiiebaaaGreatDoor
open Go.RowKit

theorem set_two {w : World} {b : Nat} {x y : Value} {t : TypeId} (h : w.heap[b]? = some (.cells #[x, y] t (0, 0))) (x' y' : Value) :
    ((w.setCell ⟨b, 0, none⟩ x').setCell ⟨b, 1, none⟩ y').heap[b]? = some (.cells #[x', y'] t (0, 0)) := by
  rw [heap_setCell_same _ b 1 _ t _ (heap_setCell_same w b 0 _ t _ h)]
  rfl
theorem below_two {B : Nat} {w0 w : World} {b : Nat} {x y : Value} (h : Below B w0 w) (hb : B ≤ b) : Below B w0 ((w.setCell ⟨b, 0, none⟩ x).setCell ⟨b, 1, none⟩ y) := (h.setCell hb _).setCell hb _
end Go.Proofs.YtnaedmmfiiebaaaGreatDoor

namespace Go.Proofs.YtnaedmmfiiebaaaGreatDoor
open Go.RowKit

def strs (l : List ByteArray) : List Value := l.map Value.string
theorem strs_length (l : List ByteArray) : (strs l).length = l.length := by simp [strs]
theorem strs_get (l : List ByteArray) (j : Nat) (h : j < l.length) : (strs l)[j]? = some (.string l[j]) := by simp [strs, h]
theorem strs_append (a b : List ByteArray) : strs (a ++ b) = strs a ++ strs b := by simp [strs]
theorem info9 : (Tryz.prog.info? 9).map (fun i => (i.zero, i.size, i.bytes)) = some (some (.string ByteArray.empty), 1, 16) := by kernel_rfl
/-- The slice value v reads as the texts l. -/
def StrR (w : World) (v : Value) (l : List ByteArray) : Prop := ∃ a cap, v = .slice a l.length cap ∧ l.length ≤ cap ∧ ∀ j (h : j < l.length), ∃ g o, a = some ⟨g, o, none⟩ ∧ w.cell? ⟨g, o + j, none⟩ = some (.string l[j])
theorem RowR.strs {w : World} {v : Value} {l : List ByteArray} (h : RowR w v (strs l)) : StrR w v l := by
  obtain ⟨a, cap, rfl, hle, _, hc⟩ := h
  rw [strs_length] at hle ⊢
  exact ⟨a, cap, rfl, hle, fun j hj => hc j _ (strs_get l j hj)⟩
theorem StrR.below {w w' : World} {v : Value} {l : List ByteArray} (h : StrR w v l) (hb : Below w.heap.size w w') : StrR w' v l := by
  obtain ⟨a, cap, rfl, hle, hc⟩ := h
  refine ⟨a, cap, rfl, hle, fun j hj => ?_⟩
  obtain ⟨g, o, ha, hcell⟩ := hc j hj
  exact ⟨g, o, ha, (hb.cell (p := ⟨g, o + j, none⟩) (World.block_lt_of_cell? w _ hcell)).trans hcell⟩

theorem wraps_i64' (n : Int) (_h0 : 0 ≤ n) (_h1 : n < 2 ^ 16) : IntKind.i64.wrap n = n := by
  rw [IntKind.wrap_i64]; omega
theorem or_slot (a b : Nat) (ha : a < 256) (hb : b < 256) : bits BinOp.or IntKind.i64 (wrap64 (wrap64 (a : Int) * 256)) (wrap64 (b : Int)) = ((a * 256 + b : Nat) : Int) := by
  have h1 : wrap64 (a : Int) = (a : Int) := by unfold wrap64; omega
  have h2 : wrap64 ((a : Int) * 256) = (a : Int) * 256 := by unfold wrap64; omega
  have h3 : wrap64 (b : Int) = (b : Int) := by unfold wrap64; omega
  rw [h1, h2, h3, bits_join .i64 16 (by decide) wraps_i64' 8 ((a : Int) * 256) (b : Int) (by omega) (by omega) (by omega) (by omega) (by omega) (by omega)]
  omega
theorem ba_get (s : ByteArray) (j : Nat) (h : j < s.size) : s.data.toList.getD j 0 = s[j] := by
  rw [List.getD_eq_getElem?_getD, List.getElem?_eq_getElem (by simpa using h)]; rfl

set_option maxHeartbeats 400000 in
theorem slot_any (s : ByteArray) (i : Nat) (w : World) (hs : 2 * i + 1 < s.size) (hsz : s.size = 4072) :
    Calls Tryz.prog 189 #[.string s, .int .i64 (i : Int)] w fun e w' => e = .returned (.int .i64 ((slotN s.data.toList i : Nat) : Int)) ∧ Below w.heap.size w w' := by
  obtain ⟨p, hp⟩ : ∃ p, p = 2 * i := ⟨_, rfl⟩
  obtain ⟨q, hq⟩ : ∃ q, q = p + 1 := ⟨_, rfl⟩
  have hw : IntKind.i64.wrap (2 * (i : Int)) = (p : Int) := by rw [IntKind.wrap_i64]; omega
  have hw2 : IntKind.i64.wrap ((p : Int) + 1) = (q : Int) := by rw [IntKind.wrap_i64]; omega
  have h1 : (p : Int) < (s.size : Int) := by omega
  have h1' : p < s.size := by omega
  have h2 : (q : Int) < (s.size : Int) := by omega
  have h2' : q < s.size := by omega
  have g0 : (0 : Int) ≤ (p : Int) := by omega
  have g1 : (0 : Int) ≤ (q : Int) := by omega
  have HP : Hid (p = 2 * i ∧ q = 2 * i + 1) := ⟨hp, by omega⟩
  clear hp hq hs hsz
  go_enter Tryz.func189, Tryz.ntmps189
  go_wp2
  go_quiet (fail)
  go_wp2
  go_ret
  refine ⟨?_, below_drewN' (Below.refl _ _) _⟩
  obtain ⟨rfl, rfl⟩ := HP.out
  refine ret_int ?_
  show bits BinOp.or IntKind.i64 (wrap64 (wrap64 (s[2 * i].toNat : Int) * 256)) (wrap64 (s[2 * i + 1].toNat : Int)) = _
  rw [or_slot _ _ s[2 * i].toNat_lt s[2 * i + 1].toNat_lt]
  unfold slotN
  rw [ba_get s _ h1', ba_get s _ h2']

end Go.Proofs.YtnaedmmfiiebaaaGreatDoor

namespace Go.Proofs.YtnaedmmfiiebaaaGreatDoor
open Go.RowKit

theorem ext_list (s : ByteArray) (a b : Nat) (_hb : b ≤ s.size) : (s.extract a b).data.toList = (s.data.toList.drop a).take (b - a) := by
  rw [ByteArray.data_extract, Array.toList_extract]
theorem pairC_one (c : ByteArray) (h : 3 ≤ c.size) : (c.extract 3 c.size).extract 0 (keyC c.data.toList) = (pairC c).1 := by
  have hk := (keyC_le c.data.toList).2
  rw [bsize] at hk
  refine ba_ext' ?_
  rw [ext_list _ _ _ (by rw [ByteArray.size_extract]; omega), ext_list c 3 c.size (Nat.le_refl _)]
  simp only [pairC, List.drop_zero, Nat.sub_zero]
  rw [List.take_of_length_le (i := c.size - 3) (by rw [List.length_drop, bsize]; exact Nat.le_refl _)]
theorem pairC_two (c : ByteArray) (_h : 3 ≤ c.size) : (c.extract 3 c.size).extract (keyC c.data.toList) (c.extract 3 c.size).size = (pairC c).2 := by
  have hk := (keyC_le c.data.toList).2
  rw [bsize] at hk
  refine ba_ext' ?_
  rw [ext_list _ _ _ (Nat.le_refl _), ext_list c 3 c.size (Nat.le_refl _), ByteArray.size_extract]
  simp only [pairC, Nat.min_self]
  rw [List.take_of_length_le (i := c.size - 3) (by rw [List.length_drop, bsize]; exact Nat.le_refl _), List.take_of_length_le (by rw [List.length_drop, List.length_drop, bsize]; omega)]
theorem okC_text (c : ByteArray) (h : 3 ≤ c.size) : ((headB (pairC c)).toList == (c.extract 0 3).toList) = okC c := by
  rw [okC_head c h, Bool.eq_iff_iff, beq_iff_eq, decide_eq_true_eq, ByteArray.toList_eq, ByteArray.toList_eq, ext_list c 0 3 h]
  simp [headB]

theorem results_row_tmp {P : Program} {fn : Func} {p u : Tmp} {ty : TypeId} (h : fn.results = #[.cell p ty, .tmp u]) (tmps : Array Value) (w : World) (g : Nat) (t : TypeId) (cs : Array Value) (fr : Nat × Nat) (d : TypeDesc)
    (hp : tmps.getD p undef = .pointer (some ⟨g, 0, none⟩)) (hg : w.heap[g]? = some (.cells cs t fr)) (hu : P.underlying ty = some d) (hd : (match d with | .struct _ | .array _ _ => true | _ => false) = true) (hi : (P.info? ty).map (·.size) = some cs.size) :
    (results fn tmps).run P w = .ok (.tuple #[.agg cs, tmps.getD u undef]) w := by
  rw [results_cell_tmp h tmps P w, hp]
  simp [asAddr, run_loadVar_row w g t ty cs fr d hg hu hd hi, Result.andThen]

set_option maxRecDepth 20000 in
set_option maxHeartbeats 2000000 in
theorem pairOf_any (c : ByteArray) (w : World) (hc : c.size ≤ 4072) :
    Calls Tryz.prog 154 #[.string c] w fun e w' => ((okC c = true ∧ e = .returned (.tuple #[.agg #[.string (pairC c).1, .string (pairC c).2], .bool true])) ∨ (okC c = false ∧ ∃ x y, e = .returned (.tuple #[.agg #[.string x, .string y], .bool false]))) ∧ Below w.heap.size w w' := by
  have hbn := below_new w (.cells #[.string ⟨#[]⟩, .string ⟨#[]⟩] 52)
  have hrow := heap_alloc_new w (.cells #[.string ⟨#[]⟩, .string ⟨#[]⟩] 52)
  by_cases h3 : c.size < 3
  · have hno : okC c = false := decide_eq_false (fun h => by omega)
    have HNO := hide hno
    have HBN := hide hbn
    have HROW := hide hrow
    have h3I : (c.size : Int) < 3 := by omega
    clear hbn hno hrow h3
    go_enter Tryz.func154, Tryz.ntmps154
    go_wp2
    exact bodyPost_ret (results_row_tmp rfl _ _ w.heap.size 52 _ (0, 0) _ rfl HROW.out Tryz.underlying52 rfl (by kernel_rfl)) rfl ⟨.inr ⟨HNO.out, _, _, rfl⟩, HBN.out⟩
  · have h3' : 3 ≤ c.size := by omega
    have HK := hide (okC_text c h3')
    have H1 := hide (pairC_one c h3')
    have H2 := hide (pairC_two c h3')
    have HL := hide (fun W => lens_any (pairC c) W (by rw [pairC_k]; exact (keyC_le _).1) (by rw [pairC_v]; omega))
    have hTs : (c.extract 3 c.size).size = c.size - 3 := by rw [ByteArray.size_extract]; omega
    have hkl := keyC_le c.data.toList
    rw [bsize] at hkl
    have h3I : (3 : Int) ≤ (c.size : Int) := by omega
    have hA : (c.extract 0 3).size = 3 := by rw [ByteArray.size_extract]; omega
    have hA0 : 0 < (c.extract 0 3).size := by omega
    have hx0 : (c.extract 0 3)[0].toNat = (c.data.toList.getD 0 0).toNat := by
      rw [← ba_get (c.extract 0 3) 0 hA0, ext_list c 0 3 h3', List.drop_zero, List.getD_eq_getElem?_getD, List.getD_eq_getElem?_getD, List.getElem?_take, if_pos (by omega)]
    have hd3 : decide ((c.size : Int) < 3) = false := decide_eq_false (by omega)
    obtain ⟨k, hk⟩ : ∃ k, k = keyC c.data.toList := ⟨_, rfl⟩
    have HKE : Hid (k = min (c.data.toList.getD 0 0).toNat (c.size - 3)) := by rw [hk]; unfold keyC; rw [bsize]; exact rfl
    rw [← hk] at H1 H2 hkl
    have HBN := hide hbn
    have HROW := hide hrow
    clear hk h3 hbn hrow
    go_enter Tryz.func154, Tryz.ntmps154
    go_wp2
    go_quiet (fail)
    go_wp2
    have hmin : min (wrap64 ((c.data[0]?.getD 0).toNat : Int)) ((c.size - 3 : Nat) : Int) = (k : Int) := by
      have h0 : c.data[0]?.getD 0 = c.data.toList.getD 0 0 := by simp [List.getD_eq_getElem?_getD]
      rw [h0, HKE.out]
      have := (c.data.toList.getD 0 0).toNat_lt
      unfold wrap64
      omega
    rw [hmin]
    have hkT : (k : Int) ≤ ((c.extract 3 c.size).size : Int) := by rw [hTs]; omega
    have j0 : (0 : Int) ≤ (k : Int) := by omega
    have HB1 := hide (below_drewN' HBN.out nq)
    have HR1 : Hid (((w.alloc (.cells #[.string ⟨#[]⟩, .string ⟨#[]⟩] 52)).drewN nq).heap[w.heap.size]? = some (.cells #[.string ⟨#[]⟩, .string ⟨#[]⟩] 52 (0, 0))) := by rw [World.heap_drewN]; exact HROW.out
    clear hmin hTs hA hA0 hx0 HROW HBN hd3 h3I
    generalize (w.alloc (.cells #[.string ⟨#[]⟩, .string ⟨#[]⟩] 52)).drewN nq = W at *
    generalize c.extract 3 c.size = T at *
    generalize c.extract 0 3 = A3 at *
    go_region_held3 (fun w' => True) (go_keep) (fail)
    rw [H1.out, H2.out]
    obtain ⟨p, hp⟩ : ∃ p, p = pairC c := ⟨_, rfl⟩
    rw [← hp] at HL HK H1 H2 ⊢
    have HPQ := hide hp
    have hbx := boxed_new W #[.string p.1, .string p.2] 52
    have hb2 := below_new W (.cells #[.string p.1, .string p.2] 52)
    have hWg : w.heap.size < W.heap.size := by
      rcases Nat.lt_or_ge w.heap.size W.heap.size with h | h
      · exact h
      · have := HR1.out; rw [Array.getElem?_eq_none h] at this; cases this
    have HBX : Hid (Boxed W.heap.size [.string p.1, .string p.2] (W.alloc (.cells #[.string p.1, .string p.2] 52)).drew) := hbx.below ⟨rfl, rfl, rfl, Nat.le_refl _, fun _ _ => rfl⟩
    have HB2 : Hid (Below W.heap.size W (W.alloc (.cells #[.string p.1, .string p.2] 52)).drew) := hb2.drew
    clear hp hbx hb2 H1 H2 hkT hkl
    generalize (W.alloc (.cells #[.string p.1, .string p.2] 52)).drew = W2 at *
    have k0 : W2.cell? ⟨W.heap.size, 0, none⟩ = some (.string p.1) := HBX.out.2 0 (by simp)
    have k1 : W2.cell? ⟨W.heap.size, 1, none⟩ = some (.string p.2) := HBX.out.2 1 (by simp)
    have hne : ¬ w.heap.size = W.heap.size := by omega
    go_wp2_with fail
    go_region_held3 (fun w' => w'.cell? ⟨W.heap.size, 0, none⟩ = some (.string p.1) ∧ w'.cell? ⟨W.heap.size, 1, none⟩ = some (.string p.2)) (go_keep)
      (first | (go_at_call 191; refine (HL.out _).mono ?_; rintro e w5 ⟨rfl, hb5d⟩; have hb5 : Below W2.heap.size W2 w5 := ⟨hb5d.os, hb5d.tape, hb5d.output, hb5d.size, hb5d.block⟩; have hb6 : Below W.heap.size W w5 := Below.next HB2.out hb5; have hrow5 := (hb6.block w.heap.size hWg).trans HR1.out; have HR5 := hide hrow5; have HB5 := hide hb6; have r0 : w5.cell? ⟨W.heap.size, 0, none⟩ = some (.string p.1) := (HBX.out.below hb5).2 0 (by simp); have r1 : w5.cell? ⟨W.heap.size, 1, none⟩ = some (.string p.2) := (HBX.out.below hb5).2 1 (by simp); have q0 : w5.cell? ⟨w.heap.size, 0, none⟩ = some (.string ⟨#[]⟩) := (by rw [cell_of_row _ _ _ _ _ _ hrow5]; rfl); have q1 : w5.cell? ⟨w.heap.size, 1, none⟩ = some (.string ⟨#[]⟩) := (by rw [cell_of_row _ _ _ _ _ _ hrow5]; rfl); have z0 : w5.frozen? ⟨w.heap.size, 0, none⟩ = false := frozen_of_row _ _ _ _ _ hrow5; have z1 : w5.frozen? ⟨w.heap.size, 1, none⟩ = false := frozen_of_row _ _ _ _ _ hrow5; clear hb5 hb5d hb6 hrow5))
    rw [HK.out]
    have HBF := hide (Below.next HB1.out HB5.out)
    clear q0 q1 z0 z1 r0 r1 k0 k1 HL HB5 HB2 HBX HB1 HR1
    obtain ⟨ok, hok⟩ : ∃ ok, ok = okC c := ⟨_, rfl⟩
    rw [← hok]
    have HOK := hide hok
    clear hok
    go_wp2_with fail
    refine bodyPost_ret (results_row_tmp rfl _ _ w.heap.size 52 _ (0, 0) _ rfl (set_two HR5.out _ _) Tryz.underlying52 rfl (by kernel_rfl)) rfl ⟨?_, below_two HBF.out (Nat.le_refl _)⟩
    cases hk : okC c with
    | true => exact .inl ⟨rfl, by rw [← HPQ.out]; simp [HOK.out, hk]⟩
    | false => exact .inr ⟨rfl, _, _, by simp [HOK.out, hk]; exact ⟨rfl, rfl⟩⟩

end Go.Proofs.YtnaedmmfiiebaaaGreatDoor
