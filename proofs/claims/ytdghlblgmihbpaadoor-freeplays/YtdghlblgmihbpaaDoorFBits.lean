import Derived.Test.YtdghlblgmihbpaaDoorFMap
namespace Go.Proofs.YtdghlblgmihbpaaDoor
open Go.RowKit

theorem bits_and_i64_127 (a : Nat) (ha : a < 9223372036854775808) : bits .and .i64 ((a : Nat) : Int) 127 = ((a % 128 : Nat) : Int) := by
  have h1 : (BitVec.ofInt 64 (a : Int)).toNat = a := by
    rw [BitVec.ofInt_natCast, BitVec.toNat_ofNat]; exact Nat.mod_eq_of_lt (by omega)
  show IntKind.i64.wrap ((BitVec.ofInt 64 (a : Int) &&& BitVec.ofInt 64 127).toNat : Int) = _
  rw [BitVec.toNat_and, h1, show (BitVec.ofInt 64 127).toNat = 2 ^ 7 - 1 by decide, Nat.and_two_pow_sub_one_eq_mod, IntKind.wrap_i64]
  omega
theorem wrapN (a b : Nat) (h : a = b) (hb : b < 18446744073709551616) : IntKind.u64.wrap ((a : Nat) : Int) = (b : Int) := by
  rw [IntKind.wrap_u64, h]; omega
theorem k_and (a m : Nat) (M : Int) (hM : M = (m : Int)) (A : Int) (hA : A = (a : Int)) (ha : a < 18446744073709551616) (hm : m < 18446744073709551616) : bits .and .u64 A M = ((a &&& m : Nat) : Int) := by
  rw [hM, hA]; exact bits_and_u64_nat a m ha hm

set_option maxRecDepth 100000 in
set_option maxHeartbeats 4000000 in
theorem ones_any (x : Nat) (hx : x < 18446744073709551616) (w : World) :
    Calls Tryd.prog 36 #[.int .u64 x] w fun e w' => e = .returned (.int .i64 (tr x.testBit 64 : Nat)) ∧ w = w' := by
  obtain ⟨s1, s2, s3, s4, s5, s6, h1, h2, h3, h4, h5, h6, h7, b3, b4, b5, b6⟩ := pop_core x hx
  have la : ∀ a m : Nat, a &&& m ≤ m := fun a m => Nat.and_le_right
  have c1 : s1 ≤ 12297829382473034410 := by
    have := la (x / 2) 6148914691236517205
    have := la x 6148914691236517205
    omega
  have c2 : s2 ≤ 7378697629483820646 := by
    have := la (s1 / 4) 3689348814741910323
    have := la s1 3689348814741910323
    omega
  have W1 : IntKind.u64.wrap (bits .and .u64 ((x : Int) / 2) 6148914691236517205 + bits .and .u64 (x : Int) 6148914691236517205) = (s1 : Int) := by
    rw [k_and (x / 2) 6148914691236517205 6148914691236517205 (by rfl) ((x : Int) / 2) (by omega) (by omega) (by decide), k_and x 6148914691236517205 6148914691236517205 (by rfl) (x : Int) rfl hx (by decide), ← Int.natCast_add]
    exact wrapN _ _ h1 (by omega)
  have W2 : IntKind.u64.wrap (bits .and .u64 ((s1 : Int) / 4) 3689348814741910323 + bits .and .u64 (s1 : Int) 3689348814741910323) = (s2 : Int) := by
    rw [k_and (s1 / 4) 3689348814741910323 3689348814741910323 (by rfl) ((s1 : Int) / 4) (by omega) (by omega) (by decide), k_and s1 3689348814741910323 3689348814741910323 (by rfl) (s1 : Int) rfl (by omega) (by decide), ← Int.natCast_add]
    exact wrapN _ _ h2 (by omega)
  have W3 : bits .and .u64 (IntKind.u64.wrap ((s2 : Int) / 16 + (s2 : Int))) 1085102592571150095 = (s3 : Int) := by
    rw [k_and (s2 / 16 + s2) 1085102592571150095 1085102592571150095 (by rfl) (IntKind.u64.wrap ((s2 : Int) / 16 + (s2 : Int))) (by rw [IntKind.wrap_u64]; omega) (by omega) (by decide), h3]
  have W4 : IntKind.u64.wrap ((s3 : Int) + (s3 : Int) / 256) = (s4 : Int) := by rw [IntKind.wrap_u64]; omega
  have W5 : IntKind.u64.wrap ((s4 : Int) + (s4 : Int) / 65536) = (s5 : Int) := by rw [IntKind.wrap_u64]; omega
  have W6 : IntKind.u64.wrap ((s5 : Int) + (s5 : Int) / 4294967296) = (s6 : Int) := by rw [IntKind.wrap_u64]; omega
  have W7 : IntKind.i64.wrap (s6 : Int) = (s6 : Int) := by rw [IntKind.wrap_i64]; omega
  have W8 : bits .and .i64 (s6 : Int) 127 = ((tr x.testBit 64 : Nat) : Int) := by rw [bits_and_i64_127 s6 (by omega), h7]
  clear h1 h2 h3 h4 h5 h6 h7 b3 b4 b5 b6 c1 c2 la
  generalize tr x.testBit 64 = res at *
  go_enter Tryd.func36, Tryd.ntmps36
  go_wp2_with (fail)
  go_ret
  exact ⟨rfl, rfl⟩

theorem wrap_pow (id : Nat) : IntKind.u64.wrap (2 ^ (id % 64)) = ((2 ^ (id % 64) : Nat) : Int) := by
  have h := two_pow_lt id
  rw [IntKind.wrap_u64, show (2 : Int) ^ (id % 64) = ((2 ^ (id % 64) : Nat) : Int) by simp]
  generalize 2 ^ (id % 64) = p at *
  omega
set_option maxHeartbeats 1000000 in
theorem bitof_any (id : Nat) (hx : id < 1125899906842624) (w : World) :
    Calls Tryd.prog 33 #[.int .i64 id] w fun e w' => e = .returned (.tuple #[.int .i64 (id / 64 : Nat), .int .u64 (2 ^ (id % 64) : Nat)]) ∧ Below w.heap.size w w' := by
  have hp := wrap_pow id
  go_enter Tryd.func33, Tryd.ntmps33
  go_wp2_with fail
  go_quiet (fail)
  have hb : Below w.heap.size w (w.drewN nq) := ⟨rfl, rfl, rfl, Nat.le_refl _, fun _ _ => rfl⟩
  go_wp2_with fail
  go_ret2
  refine ⟨?_, hb⟩
  rw [hp]
  simp

def tabOk (w : World) : Prop := ∀ j, j < 64 → w.cell? ⟨13, j, none⟩ = some (.int .u8 (Lib.deBruijn64tab.getD j 0))
theorem tz64_key (x a : Nat) (hx : x < 18446744073709551616) (hx0 : x ≠ 0) (hlow : x &&& (18446744073709551616 - x) = a) :
    IntKind.u64.wrap (bits BinOp.and IntKind.u64 (x : Int) (IntKind.u64.wrap (-(x : Int))) * 285870213051353865) / 288230376151711744 = ((a * 285870213051353865 % 18446744073709551616 / 288230376151711744 : Nat) : Int) := by
  have e1 : IntKind.u64.wrap (-(x : Int)) = ((18446744073709551616 - x : Nat) : Int) := by rw [IntKind.wrap_u64]; omega
  rw [e1, bits_and_u64_nat x _ hx (by omega), hlow, IntKind.wrap_u64]
  omega
set_option maxRecDepth 100000 in
set_option maxHeartbeats 1000000 in
theorem tz_core (x k idx : Nat) (w : World) (hx0 : ((x : Int) == 0) = false)
    (key : IntKind.u64.wrap (bits BinOp.and IntKind.u64 (x : Int) (IntKind.u64.wrap (-(x : Int))) * 285870213051353865) / 288230376151711744 = (idx : Int))
    (hi : idx < 64) (hk : k < 64) (hcell : w.cell? ⟨13, idx, none⟩ = some (.int .u8 k)) :
    Calls Tryd.prog 49 #[.int .u64 x] w fun e w' => e = .returned (.int .i64 k) ∧ w = w' := by
  go_enter Tryd.func49, Tryd.ntmps49
  go_wp2_with (simp only [key])
  go_ret
  exact ⟨rfl, rfl⟩
theorem tz_any (x : Nat) (hx : x < 18446744073709551616) (hx0 : x ≠ 0) (w : World) (hT : tabOk w) : Calls Tryd.prog 49 #[.int .u64 x] w fun e w' => e = .returned (.int .i64 (Lib.ctz 64 x)) ∧ w = w' := by
  obtain ⟨hlow, hk⟩ := Lib.lowest_bit 64 x hx0 hx
  obtain ⟨hi, htab⟩ := Lib.deBruijn64_at _ hk
  have hcell := hT _ hi
  rw [htab] at hcell
  exact tz_core x _ _ w (by simp; omega) (tz64_key x _ hx hx0 hlow) hi hk hcell
theorem tabOk.below {w w' : World} (h : tabOk w) (hb : Below w.heap.size w w') : tabOk w' := fun j hj => (hb.cell (p := ⟨13, j, none⟩) (World.block_lt_of_cell? w _ (h j hj))).trans (h j hj)

end Go.Proofs.YtdghlblgmihbpaaDoor
