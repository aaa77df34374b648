import Derived.Test.YtpeobpmooledaaaDoorGet
import Derived.Test.YtpeobpmooledaaaDoorLen64
import Derived.Test.YtpeobpmooledaaaDoorClone
namespace Go.Proofs.YtpeobpmooledaaaDoor
open Go.RowKit

def fits (n : Nat) (width : Int) : Prop := 1 ≤ width ∧ width ≤ 8 ∧ n < 2 ^ (8 * width.toNat)

set_option maxHeartbeats 400000 in
theorem put_no (A : Nat → Addr) (n : Nat) (width : Int) (w : World) (hn : n < 18446744073709551616) (hw1 : -9223372036854775808 ≤ width) (hw2 : width ≤ 9223372036854775807) (hA : ErrsAt A w) (hno : ¬ fits n width) :
    Calls Tryd.prog 45 #[.int .u64 (n : Int), .int .i64 width] w fun e w' => e = .returned (.tuple #[.slice none 0 0, .iface 101 (.pointer (some (A 0)))]) ∧ Below w.heap.size w w' := by
  have c0 : w.cell? ⟨1, 0, none⟩ = some (.iface 101 (.pointer (some (A 0)))) := (hA.1 0 (by decide)).1
  clear hA
  by_cases h1 : width < 1
  · have hd1 : decide (width < 1) = true := decide_eq_true h1
    clear hno
    go_enter Tryd.func45, Tryd.ntmps45
    go_wp2_with fail
    go_quiet (fail)
    go_wp2_with fail
    go_ret2
    exact ⟨rfl, below_drewN (Below.refl _ _) _⟩
  · have hd1 : decide (width < 1) = false := decide_eq_false h1
    by_cases h8 : 8 < width
    · have hd2 : decide (8 < width) = true := decide_eq_true h8
      clear hno
      go_enter Tryd.func45, Tryd.ntmps45
      go_wp2_with fail
      go_quiet (fail)
      go_wp2_with fail
      go_ret2
      exact ⟨rfl, below_drewN (Below.refl _ _) _⟩
    · have hd2 : decide (8 < width) = false := decide_eq_false h8
      obtain ⟨m, rfl⟩ := Int.eq_ofNat_of_zero_le (show 0 ≤ width by omega)
      have hb : ¬ Lib.bitLen n ≤ 8 * m := by
        rw [bitLen_fits n (8 * m) (by omega) hn]
        intro h
        exact hno ⟨by omega, by omega, by simpa using h⟩
      have hd3 : decide (8 * (m : Int) < ((Lib.bitLen n : Nat) : Int)) = true := decide_eq_true (by omega)
      clear hno
      go_enter Tryd.func45, Tryd.ntmps45
      go_wp2_with (go_at_call 55; refine (len64_any n _ hn).mono ?_; rintro e w' ⟨rfl, rfl⟩)
      go_quiet (fail)
      go_wp2_with fail
      go_ret2
      exact ⟨rfl, below_drewN (Below.refl _ _) _⟩

def dig (n j : Nat) : UInt8 := UInt8.ofNat (n / 2 ^ (8 * (7 - j)))
def digs (n : Nat) : List UInt8 := (List.range 8).map (dig n)
def digTo (n k : Nat) : List UInt8 := List.replicate (8 - k) 0 ++ (digs n).drop (8 - k)
/-- The number in so many bytes, the highest first. -/
def beBytes (n width : Nat) : List UInt8 := (digs n).drop (8 - width)
theorem digs_len (n : Nat) : (digs n).length = 8 := by simp [digs]
theorem digTo_len (n k : Nat) (_h : k ≤ 8) : (digTo n k).length = 8 := by
  rw [digTo, List.length_append, List.length_replicate, List.length_drop, digs_len]; omega
theorem beBytes_len (n width : Nat) (h : width ≤ 8) : (beBytes n width).length = width := by
  rw [beBytes, List.length_drop, digs_len]; omega
theorem digs_get (n j : Nat) (h : j < (digs n).length) : (digs n)[j] = dig n j := by simp [digs]
theorem digTo_succ (n k : Nat) (h : k < 8) : digTo n (k + 1) = (digTo n k).set (7 - k) (dig n (7 - k)) := by
  have e1 : 8 - (k + 1) = 7 - k := by omega
  have e2 : 8 - k = (7 - k) + 1 := by omega
  unfold digTo
  rw [e1, e2, List.replicate_succ', List.append_assoc, List.set_append_right _ _ (by simp)]
  have hd : (digs n).drop (7 - k) = dig n (7 - k) :: (digs n).drop (7 - k + 1) := by
    rw [List.drop_eq_getElem_cons (by rw [digs_len]; omega), digs_get]
  rw [hd]
  simp
theorem dig_val (n k : Nat) (hk : k < 8) : (n : Int) / 2 ^ (8 * k) % 256 = ((dig n (7 - k)).toNat : Int) := by
  unfold dig
  rw [show 7 - (7 - k) = k by omega]
  simp only [UInt8.toNat_ofNat']
  generalize hx : n / 2 ^ (8 * k) = x
  have e : (n : Int) / 2 ^ (8 * k) = (x : Int) := by
    rw [← hx, Int.natCast_ediv]
    simp
  rw [e]
  omega

theorem owns_base {w : World} {b b2 e size n : Nat} {v : Value} {xs : List Value} (h : w.ownsRow b e size v n xs) (hb : b2 ≤ b) : w.ownsRow b2 e size v n xs := by
  refine ⟨h.1, ?_⟩
  rcases h.2 with h' | ⟨g, cap, cur, h', h1, hr⟩
  · exact .inl h'
  · exact .inr ⟨g, cap, cur, h', Nat.le_trans hb h1, hr⟩
set_option maxHeartbeats 600000 in
theorem put_ok (n m : Nat) (w : World) (hn : n < 18446744073709551616) (h1 : 1 ≤ m) (h8 : m ≤ 8) (hfit : n < 2 ^ (8 * m)) :
    Calls Tryd.prog 45 #[.int .u64 (n : Int), .int .i64 (m : Int)] w fun e w' => ∃ g c2, e = .returned (.tuple #[.slice (some ⟨g, 0, none⟩) m c2, .nilIface]) ∧ w'.ownsRow w.heap.size 5 1 (.slice (some ⟨g, 0, none⟩) m c2) m (u8s (beBytes n m)) ∧ Below w.heap.size w w' := by
  have hd1 : decide ((m : Int) < 1) = false := decide_eq_false (by omega)
  have hd2 : decide (8 < (m : Int)) = false := decide_eq_false (by omega)
  have hb : Lib.bitLen n ≤ 8 * m := (bitLen_fits n (8 * m) (by omega) hn).2 hfit
  have hd3 : decide (8 * (m : Int) < ((Lib.bitLen n : Nat) : Int)) = false := decide_eq_false (by omega)
  clear hfit hb
  have hnew := heap_alloc_new w (.cells #[.int .u8 0, .int .u8 0, .int .u8 0, .int .u8 0, .int .u8 0, .int .u8 0, .int .u8 0, .int .u8 0] 88)
  have hbn := below_new w (.cells #[.int .u8 0, .int .u8 0, .int .u8 0, .int .u8 0, .int .u8 0, .int .u8 0, .int .u8 0, .int .u8 0] 88)
  have HN : Hid ((w.alloc (.cells #[.int .u8 0, .int .u8 0, .int .u8 0, .int .u8 0, .int .u8 0, .int .u8 0, .int .u8 0, .int .u8 0] 88)).heap[w.heap.size]? = some (.cells (u8s (digTo n 0)).toArray 88 (0, 0))) := by
    show _ = _
    rw [hnew]
    rfl
  have HBN : Hid (Below w.heap.size w (w.alloc (.cells #[.int .u8 0, .int .u8 0, .int .u8 0, .int .u8 0, .int .u8 0, .int .u8 0, .int .u8 0, .int .u8 0] 88))) := hbn
  clear hnew hbn
  go_enter Tryd.func45, Tryd.ntmps45
  go_wp2_with (go_at_call 55; refine (len64_any n _ hn).mono ?_; rintro e w' ⟨rfl, rfl⟩)
  go_loopw [22] (fun i wr => ∃ k : Nat, k ≤ 8 ∧ i = .int .i64 k ∧ wr.heap[w.heap.size]? = some (.cells (u8s (digTo n k)).toArray 88 (0, 0)) ∧ Below w.heap.size w wr) (fun i _ => 8 - (intOf i).toNat)
  case atStart => exact ⟨0, by omega, rfl, HN.out, HBN.out⟩
  case round =>
    obtain ⟨k, hk, rfl, hrow, hbr⟩ := hrel
    clear HN HBN
    have HR : Hid (wr.heap[w.heap.size]? = some (.cells (u8s (digTo n k)).toArray 88 (0, 0))) := hrow
    clear hrow
    by_cases hlt : k < 8
    · have hl := digTo_len n k hk
      have hcell : wr.cell? ⟨w.heap.size, 7 - k, none⟩ = some (.int .u8 (((digTo n k)[7 - k]'(by omega)).toNat : Int)) := by
        rw [cell_of_row wr w.heap.size (7 - k) _ 88 (0, 0) HR.out]
        simpa using u8s_get (digTo n k) (7 - k) (by omega)
      obtain ⟨old, hold⟩ : ∃ old : Int, old = (((digTo n k)[7 - k]'(by omega)).toNat : Int) := ⟨_, rfl⟩
      rw [← hold] at hcell
      clear hold
      have hfr : wr.frozen? ⟨w.heap.size, 7 - k, none⟩ = false := frozen_of_row wr w.heap.size (7 - k) _ 88 HR.out
      have hv := dig_val n k hlt
      have HS : Hid ((wr.setCell ⟨w.heap.size, 7 - k, none⟩ (.int .u8 ((dig n (7 - k)).toNat : Int))).heap[w.heap.size]? = some (.cells (u8s (digTo n (k + 1))).toArray 88 (0, 0))) := by
        show _ = _
        rw [heap_setCell_same wr w.heap.size (7 - k) _ 88 _ HR.out, digTo_succ n k hlt]
        simp [u8s, List.map_set]
      generalize dig n (7 - k) = dg at *
      go_wp2
      go_roundw
      case rel => exact ⟨k + 1, by omega, by go_num, HS.out, hbr.setCell (Nat.le_refl _) _⟩
      case measure => simp [intOf]; omega
    · have hke : k = 8 := by omega
      subst hke
      have hsl := slice_arr w.heap.size m h1 h8
      have hl := beBytes_len n m h8
      have HC : Hid (∀ j (h : j < (beBytes n m).length), wr.cell? ⟨w.heap.size, 8 - m + j, none⟩ = some (.int .u8 ((beBytes n m)[j].toNat : Int))) := by
        intro j hj
        have e8 : digTo n 8 = digs n := by simp [digTo]
        rw [cell_of_row wr w.heap.size (8 - m + j) _ 88 (0, 0) HR.out, e8]
        have hj2 : 8 - m + j < (digs n).length := by rw [digs_len]; omega
        have := u8s_get (digs n) (8 - m + j) hj2
        simp only [List.getElem?_toArray]
        rw [this]
        simp [beBytes]
      clear HR
      go_wp2_with fail
      refine (clone_any w.heap.size (8 - m) m m (beBytes n m) _ hl h1 h8 HC.out).mono ?_
      rintro e w2 ⟨g, c2, rfl, hown, hb2⟩
      have hbf := Below.next hbr hb2
      have hown2 : w2.ownsRow w.heap.size 5 1 (.slice (some ⟨g, 0, none⟩) m c2) m (u8s (beBytes n m)) := owns_base hown hbr.size
      clear hown hb2 hbr HC hsl
      go_wp2_with fail
      go_ret2
      exact ⟨g, c2, rfl, hown2, hbf⟩

end Go.Proofs.YtpeobpmooledaaaDoor
