import Derived.Test.YtpeobpmooledaaaDoorProg
import Derived.Lib.Strings
import Derived.Lib.Slices
import Derived.Lib.Small
import Derived.Lib.Walk
import Derived.Lib.BitFns
namespace Go.Proofs.YtpeobpmooledaaaDoor


theorem wrap_small (x : Int) (h : 0 ≤ x) (h2 : x ≤ 100) : (x + 9223372036854775808) % 18446744073709551616 - 9223372036854775808 = x := by omega
theorem len8_nat (m : Nat) (h : m < 256) : Lib.len8 (m : Int) = ((Lib.bitLen m : Nat) : Int) ∧ Lib.bitLen m ≤ 8 := by
  have h1 := Lib.len8_of (m : Int) (by omega) (by omega)
  have h2 := Lib.bitLen_le8' (m : Int) (by omega) (by omega)
  simp only [Int.toNat_natCast] at h1 h2
  exact ⟨h1, h2⟩

set_option maxHeartbeats 4000000 in
set_option maxRecDepth 100000 in
theorem len64_any (n : Nat) (w : World) (hn : n < 18446744073709551616) :
    Calls Tryd.prog 55 #[.int .u64 (n : Int)] w fun e w' => e = .returned (.int .i64 ((Lib.bitLen n : Nat) : Int)) ∧ w = w' := by
  go_enter Tryd.func55, Tryd.ntmps55
  go_wp2
  all_goals (go_ret; refine ⟨congrArg Ending.returned (congrArg (Value.int IntKind.i64) ?_), rfl⟩)
  · have q1 := Lib.bitLen_shift56 n (by omega) hn
    have q2 : (n : Int) / 4294967296 / 65536 / 256 % 256 = ((n / 72057594037927936 : Nat) : Int) := by omega
    obtain ⟨q3, q4⟩ := len8_nat (n / 72057594037927936) (by omega)
    rw [q2, q3]
    generalize Lib.bitLen (n / 72057594037927936) = m at *
    rw [wrap_small _ (Int.natCast_nonneg m) (by clear q1 q2; omega), wrap_small _ (by clear q1 q2; omega) (by clear q1 q2; omega), q1]
    rfl
  · have q1 := Lib.bitLen_shift48 n (by omega) hn
    have q2 : (n : Int) / 4294967296 / 65536 % 256 = ((n / 281474976710656 : Nat) : Int) := by omega
    obtain ⟨q3, q4⟩ := len8_nat (n / 281474976710656) (by omega)
    rw [q2, q3]
    generalize Lib.bitLen (n / 281474976710656) = m at *
    rw [wrap_small _ (Int.natCast_nonneg m) (by clear q1 q2; omega), wrap_small _ (by clear q1 q2; omega) (by clear q1 q2; omega), q1]
    rfl
  · have q1 := Lib.bitLen_shift40 n (by omega) hn
    have q2 : (n : Int) / 4294967296 / 256 % 256 = ((n / 1099511627776 : Nat) : Int) := by omega
    obtain ⟨q3, q4⟩ := len8_nat (n / 1099511627776) (by omega)
    rw [q2, q3]
    generalize Lib.bitLen (n / 1099511627776) = m at *
    rw [wrap_small _ (Int.natCast_nonneg m) (by clear q1 q2; omega), wrap_small _ (by clear q1 q2; omega) (by clear q1 q2; omega), q1]
    rfl
  · have q1 := Lib.bitLen_shift32 n (by omega) hn
    have q2 : (n : Int) / 4294967296 % 256 = ((n / 4294967296 : Nat) : Int) := by omega
    obtain ⟨q3, q4⟩ := len8_nat (n / 4294967296) (by omega)
    rw [q2, q3]
    generalize Lib.bitLen (n / 4294967296) = m at *
    rw [wrap_small _ (Int.natCast_nonneg m) (by clear q1 q2; omega), wrap_small _ (by clear q1 q2; omega) (by clear q1 q2; omega), q1]
    rfl
  · have q1 := Lib.bitLen_shift24 n (by omega) hn
    have q2 : (n : Int) / 65536 / 256 % 256 = ((n / 16777216 : Nat) : Int) := by omega
    obtain ⟨q3, q4⟩ := len8_nat (n / 16777216) (by omega)
    rw [q2, q3]
    generalize Lib.bitLen (n / 16777216) = m at *
    rw [wrap_small _ (Int.natCast_nonneg m) (by clear q1 q2; omega), wrap_small _ (by clear q1 q2; omega) (by clear q1 q2; omega), q1]
    rfl
  · have q1 := Lib.bitLen_shift16 n (by omega) hn
    have q2 : (n : Int) / 65536 % 256 = ((n / 65536 : Nat) : Int) := by omega
    obtain ⟨q3, q4⟩ := len8_nat (n / 65536) (by omega)
    rw [q2, q3]
    generalize Lib.bitLen (n / 65536) = m at *
    rw [wrap_small _ (Int.natCast_nonneg m) (by clear q1 q2; omega), wrap_small _ (by clear q1 q2; omega) (by clear q1 q2; omega), q1]
    rfl
  · have q1 := Lib.bitLen_shift8 n (by omega) hn
    have q2 : (n : Int) / 256 % 256 = ((n / 256 : Nat) : Int) := by omega
    obtain ⟨q3, q4⟩ := len8_nat (n / 256) (by omega)
    rw [q2, q3]
    generalize Lib.bitLen (n / 256) = m at *
    rw [wrap_small _ (Int.natCast_nonneg m) (by clear q1 q2; omega), wrap_small _ (by clear q1 q2; omega) (by clear q1 q2; omega), q1]
    rfl
  · have q2 : (n : Int) % 256 = (n : Int) := by omega
    obtain ⟨q3, q4⟩ := len8_nat n (by omega)
    rw [q2, q3]
    generalize Lib.bitLen n = m at *
    rw [wrap_small _ (Int.natCast_nonneg m) (by clear q2; omega)]

theorem bitLen_fits (n k : Nat) (hk : k ≤ 64) (hn : n < 18446744073709551616) : Lib.bitLen n ≤ k ↔ n < 2 ^ k := by
  constructor
  · intro h
    rcases Nat.lt_or_ge n (2 ^ k) with h' | h'
    · exact h'
    · have h3 := Lib.bitLen_shift k n h' hn
      have hp : 0 < n / 2 ^ k := Nat.div_pos h' (Nat.two_pow_pos k)
      have h4 : Lib.bitLen (n / 2 ^ k) = 1 + Lib.bitLen (n / 2 ^ k / 2) := Lib.bitLen_half _ (by omega) (Nat.lt_of_le_of_lt (Nat.div_le_self _ _) hn)
      omega
  · exact Lib.bitLen_le n k hk

end Go.Proofs.YtpeobpmooledaaaDoor
