import Derived.Test.YtagldlchamlpdabDoorRBEnc
import Derived.Test.YtagldlchamlpdabDoorBDec3
import Derived.Test.YtagldlchamlpdabDoorRRead6
namespace Go.Proofs.YtagldlchamlpdabDoor
open Go.RowKit

/-- The number in the last four bytes, k of them. -/
def toldK (c : ByteArray) (k : Nat) : Nat := beNat ((c.data.toList.drop (c.size - 4)).take k)
theorem toldK_succ (c : ByteArray) (k : Nat) (h4 : 4 ≤ c.size) (hk : k < 4) : toldK c (k + 1) = toldK c k * 256 + (c[c.size - 4 + k]'(by omega)).toNat := by
  unfold toldK
  have hl : (c.data.toList.drop (c.size - 4)).length = 4 := by rw [List.length_drop, bsize]; omega
  rw [List.take_succ_eq_append_getElem (by omega), beNat_snoc, List.getElem_drop]
  rfl
theorem toldK_lt (c : ByteArray) (k : Nat) (h4 : 4 ≤ c.size) (hk : k ≤ 4) : toldK c k < 256 ^ k := by
  unfold toldK
  have := beNat_lt ((c.data.toList.drop (c.size - 4)).take k)
  rw [List.length_take, List.length_drop, bsize] at this
  rwa [show min k (c.size - (c.size - 4)) = k by omega] at this
theorem toldK_all (c : ByteArray) (h4 : 4 ≤ c.size) : toldK c 4 = beNat (c.data.toList.drop (c.size - 4)) := by
  unfold toldK
  rw [List.take_of_length_le (by rw [List.length_drop, bsize]; omega)]

set_option maxRecDepth 20000 in
set_option maxHeartbeats 1000000 in
theorem told_any (c : ByteArray) (w : World) (h4 : 4 ≤ c.size) (hc : c.size ≤ 4072) :
    Calls Tryd.prog 37 #[.string c] w fun e w' => e = .returned (.int .i64 (beNat (c.data.toList.drop (c.size - 4)) : Int)) ∧ w = w' := by
  rw [← toldK_all c h4]
  obtain ⟨e0, he0⟩ : ∃ e, e = c.size - 4 := ⟨_, rfl⟩
  have hw : IntKind.i64.wrap ((c.size : Int) - 4) = (e0 : Int) := by rw [IntKind.wrap_i64]; omega
  have HE0 := hide he0
  have H0 : Hid (toldK c 0 = 0) := by show _ = _; simp [toldK, beNat]
  clear he0
  go_enter Tryd.func37, Tryd.ntmps37
  go_wp2
  go_loop [3, 4] (fun n i => ∃ k : Nat, k ≤ 4 ∧ i = .int .i64 ((e0 + k : Nat) : Int) ∧ n = .int .i64 (toldK c k : Int)) (fun _ i => c.size - (intOf i).toNat)
  case atStart => exact ⟨0, Nat.zero_le _, rfl, by rw [H0.out]; rfl⟩
  case round =>
    obtain ⟨k, hk, rfl, rfl⟩ := hrel
    by_cases hlt : k < 4
    · have hS := toldK_succ c k h4 hlt
      have hL := toldK_lt c k h4 hk
      have hp : 256 ^ k ≤ 256 ^ 3 := Nat.pow_le_pow_right (by decide) (by omega)
      obtain ⟨i, hi⟩ : ∃ i, i = e0 + k := ⟨_, rfl⟩
      have hil : i < c.size := by have := HE0.out; omega
      have hby : (c[c.size - 4 + k]'(by omega)).toNat = (c[i]'hil).toNat := by
        have : c.size - 4 + k = i := by have := HE0.out; omega
        simp only [this]
      rw [hby] at hS
      have hb8 := (c[i]'hil).toNat_lt
      obtain ⟨y, hy⟩ : ∃ y, y = (c[i]'hil).toNat := ⟨_, rfl⟩
      have hy' : ((c[i]'hil).toNat : Int) = (y : Int) := by rw [hy]
      rw [← hy] at hS hb8
      obtain ⟨x, hx⟩ : ∃ x, x = toldK c k := ⟨_, rfl⟩
      obtain ⟨z, hz⟩ : ∃ z, z = toldK c (k + 1) := ⟨_, rfl⟩
      rw [← hx, ← hz] at hS
      rw [← hx] at hL
      rw [← hx, ← hi]
      have HZ := hide hz
      have HI := hide hi
      have w1 : IntKind.i64.wrap ((x : Int) * 256) = (x : Int) * 256 := by rw [IntKind.wrap_i64]; omega
      have w2 : IntKind.i64.wrap ((x : Int) * 256 + (y : Int)) = (z : Int) := by rw [IntKind.wrap_i64]; omega
      have w3 : IntKind.i64.wrap (y : Int) = (y : Int) := by rw [IntKind.wrap_i64]; omega
      have hltI : (i : Int) < (c.size : Int) := by omega
      have hi0 : (0 : Int) ≤ (i : Int) := by omega
      clear hS hL hp hby hb8 hy hx hz hi
      go_wp2
      go_round
      case rel => exact ⟨k + 1, by omega, by rw [show (e0 + (k + 1) : Nat) = i + 1 by have := HI.out; omega]; go_num, by rw [← HZ.out]⟩
      case measure => simp [intOf]; omega
    · have hk4 : k = 4 := by omega
      subst hk4
      have hltI : ¬ ((e0 + 4 : Nat) : Int) < (c.size : Int) := by have := HE0.out; omega
      obtain ⟨i, hi⟩ : ∃ i, i = e0 + 4 := ⟨_, rfl⟩
      rw [← hi] at hltI ⊢
      obtain ⟨x, hx⟩ : ∃ x, x = toldK c 4 := ⟨_, rfl⟩
      rw [← hx]
      have HX := hide hx
      clear hi hx
      go_wp2
      go_ret
      exact ⟨by rw [← HX.out]; rfl, rfl⟩

end Go.Proofs.YtagldlchamlpdabDoor
