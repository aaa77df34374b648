import Derived.Test.YtpeobpmooledaaaDoorPut
namespace Go.Proofs.YtpeobpmooledaaaDoor
open Go.RowKit

set_option maxHeartbeats 400000 in
theorem put_no1 (a : Addr) (n : Nat) (width : Int) (w : World) (hn : n < 18446744073709551616) (hw1 : -9223372036854775808 ≤ width) (hw2 : width ≤ 9223372036854775807) (c0 : w.cell? ⟨1, 0, none⟩ = some (.iface 101 (.pointer (some a)))) (hno : ¬ fits n width) :
    Calls Tryd.prog 45 #[.int .u64 (n : Int), .int .i64 width] w fun e w' => e = .returned (.tuple #[.slice none 0 0, .iface 101 (.pointer (some a))]) ∧ Below w.heap.size w w' := by
  by_cases h1 : width < 1
  · have hd1 : decide (width < 1) = true := decide_eq_true h1
    clear hno
    go_enter Tryd.func45, Tryd.ntmps45
    go_wp2_with fail
    go_quiet (fail)
    go_wp2_with fail
    go_ret2
    exact ⟨rfl, below_drewN (Below.refl _ _) _⟩
  · have hd1 : decide (width < 1) = false := decide_eq_false h1
    by_cases h8 : 8 < width
    · have hd2 : decide (8 < width) = true := decide_eq_true h8
      clear hno
      go_enter Tryd.func45, Tryd.ntmps45
      go_wp2_with fail
      go_quiet (fail)
      go_wp2_with fail
      go_ret2
      exact ⟨rfl, below_drewN (Below.refl _ _) _⟩
    · have hd2 : decide (8 < width) = false := decide_eq_false h8
      obtain ⟨m, rfl⟩ := Int.eq_ofNat_of_zero_le (show 0 ≤ width by omega)
      have hb : ¬ Lib.bitLen n ≤ 8 * m := by
        rw [bitLen_fits n (8 * m) (by omega) hn]
        intro h
        exact hno ⟨by omega, by omega, by simpa using h⟩
      have hd3 : decide (8 * (m : Int) < ((Lib.bitLen n : Nat) : Int)) = true := decide_eq_true (by omega)
      clear hno
      go_enter Tryd.func45, Tryd.ntmps45
      go_wp2_with (go_at_call 55; refine (len64_any n _ hn).mono ?_; rintro e w' ⟨rfl, rfl⟩)
      go_quiet (fail)
      go_wp2_with fail
      go_ret2
      exact ⟨rfl, below_drewN (Below.refl _ _) _⟩

set_option maxHeartbeats 400000 in
theorem get_no1 (a : Addr) (a0 : Option Addr) (len cap : Nat) (w : World) (c0 : w.cell? ⟨1, 0, none⟩ = some (.iface 101 (.pointer (some a)))) (hlen : len < 1 ∨ 8 < len) (hm : len ≤ 140737488355328) :
    Calls Tryd.prog 62 #[.slice a0 len cap] w fun e w' => e = .returned (.tuple #[.int .u64 0, .iface 101 (.pointer (some a))]) ∧ Below w.heap.size w w' := by
  rcases hlen with h | h
  · have hd1 : decide ((len : Int) < 1) = true := decide_eq_true (by omega)
    go_enter Tryd.func62, Tryd.ntmps62
    go_wp2
    go_quiet (fail)
    go_wp2
    go_ret2
    exact ⟨rfl, below_drewN (Below.refl _ _) _⟩
  · have hd1 : decide ((len : Int) < 1) = false := decide_eq_false (by omega)
    have hd2 : decide ((8 : Int) < (len : Int)) = true := decide_eq_true (by omega)
    go_enter Tryd.func62, Tryd.ntmps62
    go_wp2
    go_quiet (fail)
    go_wp2
    go_ret2
    exact ⟨rfl, below_drewN (Below.refl _ _) _⟩

theorem be_snoc (n m : Nat) (hm : m + 1 ≤ 8) : beBytes n (m + 1) = beBytes (n / 256) m ++ [UInt8.ofNat n] := by
  apply List.ext_getElem
  · rw [List.length_append, beBytes_len n _ hm, beBytes_len _ m (by omega)]; rfl
  · intro i h1 h2
    rw [beBytes_len n _ hm] at h1
    simp only [beBytes, List.getElem_drop]
    rw [digs_get]
    by_cases hi : i < m
    · rw [List.getElem_append_left (by rw [List.length_drop, digs_len]; omega)]
      simp only [List.getElem_drop]
      rw [digs_get]
      unfold dig
      rw [Nat.div_div_eq_div_mul, show (256 : Nat) = 2 ^ 8 from rfl, ← Nat.pow_add, show 8 * (7 - (8 - (m + 1) + i)) = 8 + 8 * (7 - (8 - m + i)) by omega]
    · have he : i = m := by omega
      subst he
      rw [List.getElem_append_right (by rw [List.length_drop, digs_len]; omega)]
      simp [dig, show 7 - (7 - i + i) = 0 by omega]
theorem back_num (m : Nat) : ∀ n, m ≤ 8 → n < 2 ^ (8 * m) → beNat (beBytes n m) = n := by
  induction m with
  | zero =>
    intro n _ hn
    have h0 : n = 0 := by simpa using hn
    subst h0
    decide
  | succ m ih =>
    intro n hm hn
    have h1 : n / 256 < 2 ^ (8 * m) := by
      rw [show 8 * (m + 1) = 8 * m + 8 by omega, Nat.pow_add] at hn
      exact Nat.div_lt_of_lt_mul (by rw [Nat.mul_comm]; simpa using hn)
    rw [be_snoc n m hm, beNat_snoc, ih (n / 256) (by omega) h1]
    simp only [UInt8.toNat_ofNat']
    omega
theorem back_bytes (k : Nat) : ∀ l : List UInt8, l.length = k → k ≤ 8 → beBytes (beNat l) k = l := by
  induction k with
  | zero =>
    intro l hl _
    rw [List.length_eq_zero_iff.1 hl]
    decide
  | succ k ih =>
    intro l hl hk
    obtain ⟨r, c, rfl⟩ : ∃ r c, l = r ++ [c] := ⟨l.dropLast, l.getLast (by intro h; simp [h] at hl), (List.dropLast_concat_getLast _).symm⟩
    have hr : r.length = k := by simpa using hl
    have hc := UInt8.toNat_lt c
    rw [beNat_snoc, be_snoc _ k hk, show (beNat r * 256 + c.toNat) / 256 = beNat r by omega, ih r hr (by omega)]
    congr 2
    apply UInt8.toNat_inj.1
    simp only [UInt8.toNat_ofNat']
    omega

end Go.Proofs.YtpeobpmooledaaaDoor
