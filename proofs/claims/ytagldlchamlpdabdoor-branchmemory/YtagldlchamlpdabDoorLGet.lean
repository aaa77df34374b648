import Derived.Test.YtagldlchamlpdabDoorLPut
import Derived.Laws.CopyOwn
import Derived.Test.YtagldlchamlpdabDoorBox
namespace Go.Proofs.YtagldlchamlpdabDoor
open Go.RowKit

theorem take_next (l : List UInt8) (k : Nat) (h : k < l.length) : l.take (k + 1) = l.take k ++ [l[k]] := List.take_succ_eq_append_getElem h
def beNat (l : List UInt8) : Nat := l.foldl (fun n c => n * 256 + c.toNat) 0
theorem beNat_snoc (l : List UInt8) (c : UInt8) : beNat (l ++ [c]) = beNat l * 256 + c.toNat := by simp [beNat, List.foldl_append]
theorem beNat_lt (l : List UInt8) : beNat l < 256 ^ l.length := by
  have : ∀ (l : List UInt8) (n k : Nat), n < 256 ^ k → l.foldl (fun n c => n * 256 + c.toNat) n < 256 ^ (k + l.length) := by
    intro l
    induction l with
    | nil => intro n k h; simpa using h
    | cons c r ih =>
      intro n k h
      have hc := UInt8.toNat_lt c
      have := ih (n * 256 + c.toNat) (k + 1) (by rw [Nat.pow_succ]; omega)
      simp only [List.foldl_cons, List.length_cons]
      rwa [show k + (r.length + 1) = k + 1 + r.length by omega]
  have h := this l 0 0 (by decide)
  rwa [Nat.zero_add] at h
def padded (l : List UInt8) : List UInt8 := List.replicate (8 - l.length) 0 ++ l
theorem padded_len (l : List UInt8) (h : l.length ≤ 8) : (padded l).length = 8 := by simp [padded]; omega
theorem beNat_padded (l : List UInt8) : beNat (padded l) = beNat l := by
  have : ∀ k, (List.replicate k (0 : UInt8)).foldl (fun n c => n * 256 + c.toNat) 0 = 0 := by
    intro k
    induction k with
    | zero => rfl
    | succ k ih => rw [List.replicate_succ, List.foldl_cons]; exact ih
  unfold beNat padded
  rw [List.foldl_append, this]
theorem size5 : (Tryd.prog.info? 5).map (·.size) = some 1 := by kernel_rfl

theorem copy_in (g o cap : Nat) (l : List UInt8) (w : World) (hg : g < w.heap.size) (hc : ∀ j (h : j < l.length), w.cell? ⟨g, o + j, none⟩ = some (.int .u8 (l[j].toNat : Int))) (h8 : l.length ≤ 8) :
    ∃ w2, (Builtin.copy_ #[96, 96] 3 #[.slice (some ⟨w.heap.size, 8 - l.length, none⟩) l.length l.length, .slice (some ⟨g, o, none⟩) l.length cap]).run Tryd.prog (w.alloc (.cells #[.int .u8 0, .int .u8 0, .int .u8 0, .int .u8 0, .int .u8 0, .int .u8 0, .int .u8 0, .int .u8 0] 123)) = .ok (goInt l.length) w2 ∧
      Below w.heap.size w w2 ∧ ∀ j (h : j < (padded l).length), w2.cell? ⟨w.heap.size, j, none⟩ = some (.int .u8 ((padded l)[j].toNat : Int)) := by
  have hnew := heap_alloc_new w (.cells #[.int .u8 0, .int .u8 0, .int .u8 0, .int .u8 0, .int .u8 0, .int .u8 0, .int .u8 0, .int .u8 0] 123)
  have hrun := run_copy_row (P := Tryd.prog) (w.alloc (.cells #[.int .u8 0, .int .u8 0, .int .u8 0, .int .u8 0, .int .u8 0, .int .u8 0, .int .u8 0, .int .u8 0] 123)) 96 96 3 5 w.heap.size (8 - l.length) l.length l.length ⟨g, o, none⟩ l.length cap _ 123 (u8s l) Tryd.underlying96 size5 hnew (by rw [u8s_length]; exact (Nat.min_self _).symm)
    (fun j v hv => by
      by_cases hj : j < l.length
      · rw [u8s_get l j hj] at hv
        cases hv
        rw [show (⟨g, o, none⟩ : Addr).add j = ⟨g, o + j, none⟩ by simp [Addr.add]]
        rw [(below_new w _).cell (p := ⟨g, o + j, none⟩) hg]
        exact hc j hj
      · rw [List.getElem?_eq_none (by rw [u8s_length]; omega)] at hv; cases hv)
    (by rw [u8s_length]; simp; omega) (u8s_one l)
  rw [u8s_length] at hrun
  have hl : (List.take (8 - l.length) (#[.int .u8 0, .int .u8 0, .int .u8 0, .int .u8 0, .int .u8 0, .int .u8 0, .int .u8 0, .int .u8 0] : Array Value).toList ++ u8s l ++ List.drop (8 - l.length + l.length) (#[.int .u8 0, .int .u8 0, .int .u8 0, .int .u8 0, .int .u8 0, .int .u8 0, .int .u8 0, .int .u8 0] : Array Value).toList) = u8s (padded l) := by
    have hz : (#[.int .u8 0, .int .u8 0, .int .u8 0, .int .u8 0, .int .u8 0, .int .u8 0, .int .u8 0, .int .u8 0] : Array Value).toList = List.replicate 8 (.int .u8 0) := rfl
    rw [hz, show 8 - l.length + l.length = 8 by omega, List.take_replicate, List.drop_replicate, padded, u8s_append]
    simp [u8s, Nat.min_eq_left (show 8 - l.length ≤ 8 by omega)]
  rw [hl] at hrun
  refine ⟨_, hrun, below_setRow (below_new w _) (Nat.le_refl _) _, fun j hj => ?_⟩
  have hrow := setRow_heap _ w.heap.size _ (u8s (padded l)).toArray 123 _ hnew
  rw [cell_of_row _ w.heap.size j _ 123 _ hrow]
  simpa using u8s_get (padded l) j hj

theorem ret_pair {k : IntKind} {a b : Nat} {v : Value} (h : a = b) : Ending.returned (.tuple #[.int k (a : Int), v]) = .returned (.tuple #[.int k (b : Int), v]) := by rw [h]
theorem or_join (y c : Nat) (hy : y < 72057594037927936) (hc : c < 256) : bits BinOp.or IntKind.u64 ((y : Int) * 256) (c : Int) = ((y * 256 + c : Nat) : Int) := by
  have h := u64_or_nat (y * 256) c (by omega) (by omega)
  rw [nat_join 8 (y * 256) c (by omega) (by simpa using hc)] at h
  rw [← h]
  rfl

set_option maxHeartbeats 600000 in
theorem get_ok (g o cap : Nat) (l : List UInt8) (w : World) (h1 : 1 ≤ l.length) (h8 : l.length ≤ 8) (hg : g < w.heap.size)
    (hc : ∀ j (h : j < l.length), w.cell? ⟨g, o + j, none⟩ = some (.int .u8 (l[j].toNat : Int))) :
    Calls Tryd.prog 78 #[.slice (some ⟨g, o, none⟩) l.length cap] w fun e w' => e = .returned (.tuple #[.int .u64 ((beNat l : Nat) : Int), .nilIface]) ∧ Below w.heap.size w w' := by
  obtain ⟨cs, hcs⟩ : ∃ cs, cs = u8s l := ⟨_, rfl⟩
  obtain ⟨len, hlen⟩ : ∃ len, len = l.length := ⟨_, rfl⟩
  rw [← hlen] at h1 h8
  have hcl : cs.length = len := by rw [hcs, u8s_length, hlen]
  have HCS : Hid (cs = u8s l) := hcs
  have HLEN : Hid (len = l.length) := hlen
  rw [← HLEN.out]
  clear hcs hlen
  have hsl := slice_arr w.heap.size len h1 h8
  go_enter Tryd.func78, Tryd.ntmps78
  obtain ⟨w2, hcp, hb2, hcell⟩ := copy_in g o cap l w hg hc (by rw [← HLEN.out]; exact h8)
  rw [← HLEN.out] at hcp
  clear hc
  have hd1 : decide ((len : Int) < 1) = false := decide_eq_false (by omega)
  have hd2 : decide ((8 : Int) < (len : Int)) = false := decide_eq_false (by omega)
  go_wp2_with fail
  have hpl : (padded l).length = 8 := padded_len l (by rw [← HLEN.out]; exact h8)
  have HB : Hid (beNat (padded l) = beNat l) := beNat_padded l
  generalize padded l = pl at *
  go_loop [5, 22] (fun r i => ∃ k y : Nat, k ≤ 8 ∧ i = .int .i64 k ∧ r = .int .u64 (y : Int) ∧ y = beNat (pl.take k)) (fun _ i => 8 - (intOf i).toNat)
  case atStart => exact ⟨0, 0, by omega, rfl, rfl, rfl⟩
  case round =>
    obtain ⟨k, y, hk, rfl, rfl, hyr⟩ := hrel
    have HY : Hid (y = beNat (pl.take k)) := hyr
    clear hyr
    by_cases hlt : k < 8
    · have hck := hcell k (by omega)
      obtain ⟨c, hcd⟩ : ∃ c : Nat, c = (pl[k]'(by omega)).toNat := ⟨_, rfl⟩
      have hc256 : c < 256 := by rw [hcd]; exact UInt8.toNat_lt _
      rw [← hcd] at hck
      have HR : Hid (y * 256 + c = beNat (pl.take (k + 1))) := by
        show y * 256 + c = _
        rw [take_next pl k (by omega), beNat_snoc, ← HY.out, hcd]
      have hyb : y < 72057594037927936 := by
        rw [HY.out]
        have h := beNat_lt (pl.take k)
        rw [List.length_take, Nat.min_eq_left (by omega)] at h
        exact Nat.lt_of_lt_of_le h (Nat.le_trans (Nat.pow_le_pow_right (n := 256) (i := k) (j := 7) (by decide) (by omega)) (by decide))
      have e1 := or_join y c hyb hc256
      clear hcd hcell hsl hcp
      go_wp2
      go_round
      case rel => exact ⟨k + 1, y * 256 + c, by omega, by go_num, by go_num, HR.out⟩
      case measure => simp [intOf]; omega
    · have HE : Hid (y = beNat l) := by
        show y = _
        rw [HY.out, List.take_of_length_le (by omega), HB.out]
      clear hcell hsl hcp
      go_wp2
      go_ret2
      exact ⟨ret_pair HE.out, hb2⟩

theorem be_snoc (n m : Nat) (hm : m + 1 ≤ 8) : beBytes n (m + 1) = beBytes (n / 256) m ++ [UInt8.ofNat n] := by
  apply List.ext_getElem
  · rw [List.length_append, beBytes_len n _ hm, beBytes_len _ m (by omega)]; rfl
  · intro i h1 h2
    rw [beBytes_len n _ hm] at h1
    simp only [beBytes, List.getElem_drop]
    rw [digs_get]
    by_cases hi : i < m
    · rw [List.getElem_append_left (by rw [List.length_drop, digs_len]; omega)]
      simp only [List.getElem_drop]
      rw [digs_get]
      unfold dig
      rw [Nat.div_div_eq_div_mul, show (256 : Nat) = 2 ^ 8 from rfl, ← Nat.pow_add, show 8 * (7 - (8 - (m + 1) + i)) = 8 + 8 * (7 - (8 - m + i)) by omega]
    · have he : i = m := by omega
      subst he
      rw [List.getElem_append_right (by rw [List.length_drop, digs_len]; omega)]
      simp [dig, show 7 - (7 - i + i) = 0 by omega]
theorem back_num (m : Nat) : ∀ n, m ≤ 8 → n < 2 ^ (8 * m) → beNat (beBytes n m) = n := by
  induction m with
  | zero =>
    intro n _ hn
    have h0 : n = 0 := by simpa using hn
    subst h0
    decide
  | succ m ih =>
    intro n hm hn
    have h1 : n / 256 < 2 ^ (8 * m) := by
      rw [show 8 * (m + 1) = 8 * m + 8 by omega, Nat.pow_add] at hn
      exact Nat.div_lt_of_lt_mul (by rw [Nat.mul_comm]; simpa using hn)
    rw [be_snoc n m hm, beNat_snoc, ih (n / 256) (by omega) h1]
    simp only [UInt8.toNat_ofNat']
    omega
theorem back_bytes (k : Nat) : ∀ l : List UInt8, l.length = k → k ≤ 8 → beBytes (beNat l) k = l := by
  induction k with
  | zero =>
    intro l hl _
    rw [List.length_eq_zero_iff.1 hl]
    decide
  | succ k ih =>
    intro l hl hk
    obtain ⟨r, c, rfl⟩ : ∃ r c, l = r ++ [c] := ⟨l.dropLast, l.getLast (by intro h; simp [h] at hl), (List.dropLast_concat_getLast _).symm⟩
    have hr : r.length = k := by simpa using hl
    have hc := UInt8.toNat_lt c
    rw [beNat_snoc, be_snoc _ k hk, show (beNat r * 256 + c.toNat) / 256 = beNat r by omega, ih r hr (by omega)]
    congr 2
    apply UInt8.toNat_inj.1
    simp only [UInt8.toNat_ofNat']
    omega

end Go.Proofs.YtagldlchamlpdabDoor
