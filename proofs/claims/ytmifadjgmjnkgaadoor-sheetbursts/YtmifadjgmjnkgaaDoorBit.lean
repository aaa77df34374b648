import Derived.Test.YtmifadjgmjnkgaaDoorPageMath
import Derived.Test.YtmifadjgmjnkgaaDoorHide
namespace Go.Proofs.YtmifadjgmjnkgaaDoor
open Go.RowKit

def PickOk (n : Int) (r : Nat) : Prop := (n < 1 → r = 0) ∧ (1 ≤ n → (r : Int) < n)
theorem ret_int {k : IntKind} {a b : Int} (h : a = b) : Ending.returned (.int k a) = .returned (.int k b) := by rw [h]
set_option maxHeartbeats 400000 in
theorem pick_any (k n : Int) (w : World) (hn0 : 0 ≤ n) (hn : n ≤ 1125899906842624) (_hk1 : -9223372036854775808 ≤ k) (_hk2 : k ≤ 9223372036854775807) :
    Calls Tryd.prog 38 #[.int .i64 k, .int .i64 n] w fun e w' => ∃ r : Nat, e = .returned (.int .i64 (r : Int)) ∧ PickOk n r ∧ w = w' := by
  by_cases h1 : n < 1
  · go_enter Tryd.func38, Tryd.ntmps38
    go_wp2
    go_ret
    exact ⟨0, rfl, ⟨fun _ => rfl, fun h => by omega⟩, rfl⟩
  · have hlt : k.tmod n < n := Int.tmod_lt_of_pos k (by omega)
    have hgt : -n < k.tmod n := by
      have h2 := Int.tmod_lt_of_pos (-k) (b := n) (by omega)
      rw [Int.neg_tmod] at h2
      omega
    have hne : ¬ n = 0 := by omega
    by_cases hneg : k.tmod n < 0
    · go_enter Tryd.func38, Tryd.ntmps38
      go_wp2
      all_goals go_ret
      all_goals (refine ⟨(k.tmod n + n).toNat, ret_int (by omega), ⟨fun h => by omega, fun _ => by omega⟩, rfl⟩)
    · go_enter Tryd.func38, Tryd.ntmps38
      go_wp2
      all_goals go_ret
      all_goals (refine ⟨(k.tmod n).toNat, ret_int (by omega), ⟨fun h => by omega, fun _ => by omega⟩, rfl⟩)

theorem pow_lt_256 (s : Nat) (h : s < 8) : 2 ^ s < 256 := Nat.pow_lt_pow_right (m := s) (n := 8) (by decide) h
theorem xor_u8_toNat (c p : Nat) (hc : c < 256) (hp : p < 256) : (UInt8.ofNat (c ^^^ p)).toNat = c ^^^ p := by
  have : c ^^^ p < 2 ^ 8 := Nat.xor_lt_two_pow hc hp
  simp only [UInt8.toNat_ofNat']
  omega
theorem xor_u8 (c s : Nat) (hc : c < 256) (hp : 2 ^ s < 256) : bits BinOp.xor IntKind.u8 (c : Int) (2 ^ s % 256) = ((UInt8.ofNat (c ^^^ 2 ^ s)).toNat : Int) := by
  have h := u8_xor_nat c (2 ^ s) hc hp
  have e : ((2 ^ s : Nat) : Int) = 2 ^ s % 256 := by
    have e2 : ((2 ^ s : Nat) : Int) = (2 : Int) ^ s := by simp
    rw [← e2]
    exact (Int.emod_eq_of_lt (Int.natCast_nonneg _) (Int.ofNat_lt.2 hp)).symm
  rw [← e, h, xor_u8_toNat c _ hc hp]
theorem u8s_setB (q : List UInt8) (j : Nat) (d : UInt8) : (u8s q).set j (.int .u8 (d.toNat : Int)) = u8s (q.set j d) := by
  simp [u8s, List.map_set]
theorem pow_mul_xor (n a b : Nat) : 2 ^ n * (a ^^^ b) = (2 ^ n * a) ^^^ (2 ^ n * b) := by
  have := Nat.shiftLeft_xor_distrib (a := a) (b := b) (i := n)
  simpa [Nat.shiftLeft_eq, Nat.mul_comm] using this
theorem leNat_set (l : List UInt8) : ∀ (j s : Nat) (hj : j < l.length) (_ : s < 8) (d : UInt8), d.toNat = l[j].toNat ^^^ 2 ^ s → leNat (l.set j d) = leNat l ^^^ 2 ^ (8 * j + s) := by
  induction l with
  | nil => intro j s hj; simp at hj
  | cons c r ih =>
    intro j s hj hs d hd
    cases j with
    | zero =>
      simp only [List.set_cons_zero, leNat, List.getElem_cons_zero] at hd ⊢
      rw [hd, Nat.mul_zero, Nat.zero_add, Nat.xor_assoc, Nat.xor_assoc, Nat.xor_comm (2 ^ s)]
    | succ j =>
      simp only [List.set_cons_succ, leNat, List.getElem_cons_succ] at hd ⊢
      rw [ih j s (by simpa using hj) hs d hd, pow_mul_xor, ← Nat.pow_add, ← Nat.xor_assoc, show 8 + (8 * j + s) = 8 * (j + 1) + s by omega]


def BitOk (r : Nat) : Prop := r + 32 ≤ 128 ∨ (160 ≤ r ∧ r + 32 ≤ 32768)

set_option maxHeartbeats 400000 in
/-- The place of a turned bit. -/
theorem bit_any (k : Int) (w : World) (h1 : -9223372036854775808 ≤ k) (h2 : k ≤ 9223372036854775807) :
    Calls Tryd.prog 19 #[.int .i64 k] w fun e w' => ∃ r : Nat, e = .returned (.int .i64 (r : Int)) ∧ BitOk r ∧ w = w' := by
  have HP : Hid (∀ w, Calls Tryd.prog 38 #[.int .i64 k, .int .i64 32674] w fun e w' => ∃ z : Int, e = .returned (.int .i64 z) ∧ (0 ≤ z ∧ z < 32674) ∧ w = w') := fun w => by
    refine (pick_any k 32674 w (by decide) (by decide) h1 h2).mono ?_
    rintro e w' ⟨r, rfl, hr, rfl⟩
    exact ⟨r, rfl, ⟨by omega, hr.2 (by decide)⟩, rfl⟩
  clear h1 h2
  go_enter Tryd.func19, Tryd.ntmps19
  go_wp2_with fail
  refine (HP.out _).mono ?_
  rintro e w' ⟨z, rfl, hz, rfl⟩
  have HZ := hide hz
  have z0 : 0 ≤ z := hz.1
  have z1 : z ≤ 100000 := by omega
  clear hz HP
  by_cases hlt : z < 97
  · go_wp2_with fail
    go_ret
    obtain ⟨r, rfl⟩ := Int.eq_ofNat_of_zero_le z0
    exact ⟨r, rfl, .inl (by omega), rfl⟩
  · go_wp2_with fail
    go_ret
    obtain ⟨r, rfl⟩ := Int.eq_ofNat_of_zero_le z0
    refine ⟨r + 63, ?_, .inr ⟨by omega, by have := HZ.out; omega⟩, rfl⟩
    refine ret_int ?_
    simp
    omega

theorem turn_step (turn k : Nat) : turn % 2 ^ (k + 1) = (turn % 2 ^ k) ^^^ (if turn / 2 ^ k % 2 = 1 then 2 ^ k else 0) := by
  apply Nat.eq_of_testBit_eq
  intro i
  have hb : (turn / 2 ^ k % 2 = 1) ↔ turn.testBit k = true := by
    rw [Nat.testBit_eq_decide_div_mod_eq]; simp
  rw [Nat.testBit_xor, Nat.testBit_mod_two_pow, Nat.testBit_mod_two_pow]
  by_cases h : turn / 2 ^ k % 2 = 1
  · rw [if_pos h, Nat.testBit_two_pow]
    have hk := hb.1 h
    rcases Nat.lt_trichotomy i k with h' | h' | h'
    · simp [h', Nat.lt_succ_of_lt h', Nat.ne_of_gt h']
    · subst h'; simp [hk]
    · simp [Nat.not_lt.2 (Nat.succ_le_of_lt h'), Nat.not_lt.2 (Nat.le_of_lt h'), Nat.ne_of_lt h']
  · rw [if_neg h, Nat.zero_testBit]
    have hk : turn.testBit k = false := by
      cases hx : turn.testBit k with
      | true => exact absurd (hb.2 hx) h
      | false => rfl
    rcases Nat.lt_trichotomy i k with h' | h' | h'
    · simp [h', Nat.lt_succ_of_lt h']
    · subst h'; simp [hk]
    · simp [Nat.not_lt.2 (Nat.succ_le_of_lt h'), Nat.not_lt.2 (Nat.le_of_lt h')]

end Go.Proofs.YtmifadjgmjnkgaaDoor
