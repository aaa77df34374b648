import Derived.Test.YtpeobpmooledaaaDoorErrs
import Derived.Laws.CopyOwn
import Derived.Test.YtpeobpmooledaaaDoorGA
namespace Go.Proofs.YtpeobpmooledaaaDoor
open Go.RowKit

def beNat (l : List UInt8) : Nat := l.foldl (fun n c => n * 256 + c.toNat) 0
theorem beNat_snoc (l : List UInt8) (c : UInt8) : beNat (l ++ [c]) = beNat l * 256 + c.toNat := by simp [beNat, List.foldl_append]
theorem beNat_lt (l : List UInt8) : beNat l < 256 ^ l.length := by
  have : ∀ (l : List UInt8) (n k : Nat), n < 256 ^ k → l.foldl (fun n c => n * 256 + c.toNat) n < 256 ^ (k + l.length) := by
    intro l
    induction l with
    | nil => intro n k h; simpa using h
    | cons c r ih =>
      intro n k h
      have hc := UInt8.toNat_lt c
      have := ih (n * 256 + c.toNat) (k + 1) (by rw [Nat.pow_succ]; omega)
      simp only [List.foldl_cons, List.length_cons]
      rwa [show k + (r.length + 1) = k + 1 + r.length by omega]
  have h := this l 0 0 (by decide)
  rwa [Nat.zero_add] at h
def padded (l : List UInt8) : List UInt8 := List.replicate (8 - l.length) 0 ++ l
theorem padded_len (l : List UInt8) (h : l.length ≤ 8) : (padded l).length = 8 := by simp [padded]; omega
theorem beNat_padded (l : List UInt8) : beNat (padded l) = beNat l := by
  have : ∀ k, (List.replicate k (0 : UInt8)).foldl (fun n c => n * 256 + c.toNat) 0 = 0 := by
    intro k
    induction k with
    | zero => rfl
    | succ k ih => rw [List.replicate_succ, List.foldl_cons]; exact ih
  unfold beNat padded
  rw [List.foldl_append, this]
theorem size5 : (Tryd.prog.info? 5).map (·.size) = some 1 := by kernel_rfl

theorem arrLen : Tryd.prog.arrayLen 88 = 8 := by kernel_rfl
theorem arrElem : Tryd.prog.elem 88 = 5 := by kernel_rfl
theorem slice_arr (b len : Nat) (h1 : 1 ≤ len) (h8 : len ≤ 8) (w : World) :
    (Instr.sliceAt 88 (.pointer (some ⟨b, 0, none⟩)) (some (.int .i64 (8 - (len : Int)))) none none).run Tryd.prog w = .ok (.slice (some ⟨b, 8 - len, none⟩) len len) w := by
  have hz : (sizeOf 5).run Tryd.prog w = .ok 1 w := by kernel_rfl
  have e : (8 - (len : Int)).toNat = 8 - len := by omega
  rw [run_sliceAt_array_l w 88 ⟨b, 0, none⟩ (by kernel_rfl) .i64 _ (by omega) (by rw [arrLen]; omega), arrLen, arrElem, e, hz]
  by_cases h : len = 8
  · subst h; rfl
  · simp [slicedAt, Addr.add, show 8 ≠ 8 - len by omega, show 8 - (8 - len) = len by omega, show ¬ 8 - len = 0 by omega]

theorem copy_in (g o cap : Nat) (l : List UInt8) (w : World) (hg : g < w.heap.size) (hc : ∀ j (h : j < l.length), w.cell? ⟨g, o + j, none⟩ = some (.int .u8 (l[j].toNat : Int))) (h8 : l.length ≤ 8) :
    ∃ w2, (Builtin.copy_ #[41, 41] 3 #[.slice (some ⟨w.heap.size, 8 - l.length, none⟩) l.length l.length, .slice (some ⟨g, o, none⟩) l.length cap]).run Tryd.prog (w.alloc (.cells #[.int .u8 0, .int .u8 0, .int .u8 0, .int .u8 0, .int .u8 0, .int .u8 0, .int .u8 0, .int .u8 0] 88)) = .ok (goInt l.length) w2 ∧
      Below w.heap.size w w2 ∧ ∀ j (h : j < (padded l).length), w2.cell? ⟨w.heap.size, j, none⟩ = some (.int .u8 ((padded l)[j].toNat : Int)) := by
  have hnew := heap_alloc_new w (.cells #[.int .u8 0, .int .u8 0, .int .u8 0, .int .u8 0, .int .u8 0, .int .u8 0, .int .u8 0, .int .u8 0] 88)
  have hrun := run_copy_row (P := Tryd.prog) (w.alloc (.cells #[.int .u8 0, .int .u8 0, .int .u8 0, .int .u8 0, .int .u8 0, .int .u8 0, .int .u8 0, .int .u8 0] 88)) 41 41 3 5 w.heap.size (8 - l.length) l.length l.length ⟨g, o, none⟩ l.length cap _ 88 (u8s l) Tryd.underlying41 size5 hnew (by rw [u8s_length]; exact (Nat.min_self _).symm)
    (fun j v hv => by
      by_cases hj : j < l.length
      · rw [u8s_get l j hj] at hv
        cases hv
        rw [show (⟨g, o, none⟩ : Addr).add j = ⟨g, o + j, none⟩ by simp [Addr.add]]
        rw [(below_new w _).cell (p := ⟨g, o + j, none⟩) hg]
        exact hc j hj
      · rw [List.getElem?_eq_none (by rw [u8s_length]; omega)] at hv; cases hv)
    (by rw [u8s_length]; simp; omega) (u8s_one l)
  rw [u8s_length] at hrun
  have hl : (List.take (8 - l.length) (#[.int .u8 0, .int .u8 0, .int .u8 0, .int .u8 0, .int .u8 0, .int .u8 0, .int .u8 0, .int .u8 0] : Array Value).toList ++ u8s l ++ List.drop (8 - l.length + l.length) (#[.int .u8 0, .int .u8 0, .int .u8 0, .int .u8 0, .int .u8 0, .int .u8 0, .int .u8 0, .int .u8 0] : Array Value).toList) = u8s (padded l) := by
    have hz : (#[.int .u8 0, .int .u8 0, .int .u8 0, .int .u8 0, .int .u8 0, .int .u8 0, .int .u8 0, .int .u8 0] : Array Value).toList = List.replicate 8 (.int .u8 0) := rfl
    rw [hz, show 8 - l.length + l.length = 8 by omega, List.take_replicate, List.drop_replicate, padded, u8s_append]
    simp [u8s, Nat.min_eq_left (show 8 - l.length ≤ 8 by omega)]
  rw [hl] at hrun
  refine ⟨_, hrun, below_setRow (below_new w _) (Nat.le_refl _) _, fun j hj => ?_⟩
  have hrow := setRow_heap _ w.heap.size _ (u8s (padded l)).toArray 88 _ hnew
  rw [cell_of_row _ w.heap.size j _ 88 _ hrow]
  simpa using u8s_get (padded l) j hj

theorem ret_pair {k : IntKind} {a b : Nat} {v : Value} (h : a = b) : Ending.returned (.tuple #[.int k (a : Int), v]) = .returned (.tuple #[.int k (b : Int), v]) := by rw [h]
theorem or_join (y c : Nat) (hy : y < 72057594037927936) (hc : c < 256) : bits BinOp.or IntKind.u64 ((y : Int) * 256) (c : Int) = ((y * 256 + c : Nat) : Int) := by
  have h := u64_or_nat (y * 256) c (by omega) (by omega)
  rw [nat_join 8 (y * 256) c (by omega) (by simpa using hc)] at h
  rw [← h]
  rfl

set_option maxHeartbeats 600000 in
theorem get_ok (g o cap : Nat) (l : List UInt8) (w : World) (h1 : 1 ≤ l.length) (h8 : l.length ≤ 8) (hg : g < w.heap.size)
    (hc : ∀ j (h : j < l.length), w.cell? ⟨g, o + j, none⟩ = some (.int .u8 (l[j].toNat : Int))) :
    Calls Tryd.prog 62 #[.slice (some ⟨g, o, none⟩) l.length cap] w fun e w' => e = .returned (.tuple #[.int .u64 ((beNat l : Nat) : Int), .nilIface]) ∧ Below w.heap.size w w' := by
  obtain ⟨cs, hcs⟩ : ∃ cs, cs = u8s l := ⟨_, rfl⟩
  obtain ⟨len, hlen⟩ : ∃ len, len = l.length := ⟨_, rfl⟩
  rw [← hlen] at h1 h8
  have hcl : cs.length = len := by rw [hcs, u8s_length, hlen]
  have HCS : Hid (cs = u8s l) := hcs
  have HLEN : Hid (len = l.length) := hlen
  rw [← HLEN.out]
  clear hcs hlen
  have hsl := slice_arr w.heap.size len h1 h8
  go_enter Tryd.func62, Tryd.ntmps62
  obtain ⟨w2, hcp, hb2, hcell⟩ := copy_in g o cap l w hg hc (by rw [← HLEN.out]; exact h8)
  rw [← HLEN.out] at hcp
  clear hc
  have hd1 : decide ((len : Int) < 1) = false := decide_eq_false (by omega)
  have hd2 : decide ((8 : Int) < (len : Int)) = false := decide_eq_false (by omega)
  go_wp2_with fail
  have hpl : (padded l).length = 8 := padded_len l (by rw [← HLEN.out]; exact h8)
  have HB : Hid (beNat (padded l) = beNat l) := beNat_padded l
  generalize padded l = pl at *
  go_loop [5, 22] (fun r i => ∃ k y : Nat, k ≤ 8 ∧ i = .int .i64 k ∧ r = .int .u64 (y : Int) ∧ y = beNat (pl.take k)) (fun _ i => 8 - (intOf i).toNat)
  case atStart => exact ⟨0, 0, by omega, rfl, rfl, rfl⟩
  case round =>
    obtain ⟨k, y, hk, rfl, rfl, hyr⟩ := hrel
    have HY : Hid (y = beNat (pl.take k)) := hyr
    clear hyr
    by_cases hlt : k < 8
    · have hck := hcell k (by omega)
      obtain ⟨c, hcd⟩ : ∃ c : Nat, c = (pl[k]'(by omega)).toNat := ⟨_, rfl⟩
      have hc256 : c < 256 := by rw [hcd]; exact UInt8.toNat_lt _
      rw [← hcd] at hck
      have HR : Hid (y * 256 + c = beNat (pl.take (k + 1))) := by
        show y * 256 + c = _
        rw [take_next pl k (by omega), beNat_snoc, ← HY.out, hcd]
      have hyb : y < 72057594037927936 := by
        rw [HY.out]
        have h := beNat_lt (pl.take k)
        rw [List.length_take, Nat.min_eq_left (by omega)] at h
        exact Nat.lt_of_lt_of_le h (Nat.le_trans (Nat.pow_le_pow_right (n := 256) (i := k) (j := 7) (by decide) (by omega)) (by decide))
      have e1 := or_join y c hyb hc256
      clear hcd hcell hsl hcp
      go_wp2
      go_round
      case rel => exact ⟨k + 1, y * 256 + c, by omega, by go_num, by go_num, HR.out⟩
      case measure => simp [intOf]; omega
    · have HE : Hid (y = beNat l) := by
        show y = _
        rw [HY.out, List.take_of_length_le (by omega), HB.out]
      clear hcell hsl hcp
      go_wp2
      go_ret2
      exact ⟨ret_pair HE.out, hb2⟩

set_option maxHeartbeats 400000 in
theorem get_no (A : Nat → Addr) (a0 : Option Addr) (len cap : Nat) (w : World) (hA : ErrsAt A w) (hlen : len < 1 ∨ 8 < len) (hm : len ≤ 140737488355328) :
    Calls Tryd.prog 62 #[.slice a0 len cap] w fun e w' => e = .returned (.tuple #[.int .u64 0, .iface 101 (.pointer (some (A 0)))]) ∧ Below w.heap.size w w' := by
  have c0 : w.cell? ⟨1, 0, none⟩ = some (.iface 101 (.pointer (some (A 0)))) := (hA.1 0 (by decide)).1
  clear hA
  rcases hlen with h | h
  · have hd1 : decide ((len : Int) < 1) = true := decide_eq_true (by omega)
    go_enter Tryd.func62, Tryd.ntmps62
    go_wp2
    go_quiet (fail)
    go_wp2
    go_ret2
    exact ⟨rfl, below_drewN (Below.refl _ _) _⟩
  · have hd1 : decide ((len : Int) < 1) = false := decide_eq_false (by omega)
    have hd2 : decide ((8 : Int) < (len : Int)) = true := decide_eq_true (by omega)
    go_enter Tryd.func62, Tryd.ntmps62
    go_wp2
    go_quiet (fail)
    go_wp2
    go_ret2
    exact ⟨rfl, below_drewN (Below.refl _ _) _⟩

end Go.Proofs.YtpeobpmooledaaaDoor
