import Derived.Test.YtiihnoohodklhaaDoorKit
import Derived.Test.YtiihnoohodklhaaDoorMath
import Derived.Laws.BitsAllLaws
namespace Go.Proofs.YtiihnoohodklhaaDoor
open Go.RowKit

theorem ret_nat {k : IntKind} {a b : Nat} (h : a = b) : Ending.returned (.int k (a : Int)) = .returned (.int k (b : Int)) := by rw [h]
theorem not_u32 (x : Nat) (hx : x < 4294967296) : bits BinOp.xor IntKind.u32 IntKind.u32.max (x : Int) = ((nt x : Nat) : Int) := by
  have h : IntKind.u32.max = ((4294967295 : Nat) : Int) := rfl
  rw [h, u32_xor_nat _ _ (by omega) hx]
  exact congrArg Nat.cast (nt_xor x hx)
theorem xor_tab (y : Nat) (hy : y < 4294967296) : bits BinOp.xor IntKind.u32 ((y : Int) / 16) ((tab (y % 16) : Nat) : Int) = ((tstep y : Nat) : Int) := by
  have := u32_xor_nat (y / 16) (tab (y % 16)) (by omega) (tab_lt _)
  rw [← show (((y / 16 : Nat) : Nat) : Int) = (y : Int) / 16 from by omega]
  exact this
theorem and15 (y : Nat) (hy : y < 4294967296) : bits BinOp.and IntKind.u32 (y : Int) 15 = ((y % 16 : Nat) : Int) := by
  have := u32_and_nat y 15 hy (by omega)
  rw [nat_mask4] at this
  exact this

set_option maxHeartbeats 400000 in
theorem crcMore_ne (x : Nat) (b off len cap : Nat) (l : List UInt8) (w : World) (hx : x < 4294967296) (hlen : l.length = len) (hm : len ≤ 140737488355328)
    (hc : ∀ j (h : j < l.length), w.cell? ⟨b, off + j, none⟩ = some (.int .u8 (l[j].toNat : Int)))
    (ht : ∀ j, j < 16 → w.cell? ⟨13, j, none⟩ = some (.int .u32 (tab j : Nat))) :
    Calls Tryd.prog 24 #[.int .u32 (x : Int), .slice (some ⟨b, off, none⟩) len cap] w fun e w' => e = .returned (.int .u32 ((nt (crcReg (nt x) l) : Nat) : Int)) ∧ w = w' := by
  have hnt := not_u32 x hx
  have hy : nt x < 4294967296 := nt_lt x
  go_enter Tryd.func24, Tryd.ntmps24
  go_wp2
  go_loop [5, 12] (fun r i => ∃ k y : Nat, k ≤ len ∧ y < 4294967296 ∧ i = .int .i64 k ∧ r = .int .u32 (y : Int) ∧ y = crcReg (nt x) (l.take k)) (fun _ i => len - (intOf i).toNat)
  case atStart => exact ⟨0, nt x, Nat.zero_le _, hy, rfl, rfl, rfl⟩
  case round =>
    obtain ⟨k, y, hk, hy, rfl, rfl, hyr⟩ := hrel
    have HY : Hid (y = crcReg (nt x) (l.take k)) := hyr
    clear hyr
    by_cases hlt : k < len
    · have hck := hc k (by omega)
      obtain ⟨c, hcd⟩ : ∃ c : Nat, c = (l[k]'(by omega)).toNat := ⟨_, rfl⟩
      have hc256 : c < 256 := by rw [hcd]; exact UInt8.toNat_lt _
      rw [← hcd] at hck
      have HC : Hid (c = (l[k]'(by omega)).toNat) := hcd
      clear hcd
      have hcm : (c : Int) % 4294967296 = (c : Int) := by omega
      obtain ⟨y1, hy1⟩ : ∃ y1 : Nat, y1 = y ^^^ c := ⟨_, rfl⟩
      have hy1b : y1 < 4294967296 := by rw [hy1]; exact Nat.xor_lt_two_pow (n := 32) hy (by omega)
      have e1 : bits BinOp.xor IntKind.u32 (y : Int) (c : Int) = (y1 : Int) := by rw [hy1]; exact u32_xor_nat y c hy (by omega)
      have e2 : bits BinOp.and IntKind.u32 (y1 : Int) 15 = ((y1 % 16 : Nat) : Int) := and15 y1 hy1b
      have t1 := ht (y1 % 16) (by omega)
      have b1 : (0 : Int) ≤ ((y1 % 16 : Nat) : Int) := by omega
      have b2 : ((y1 % 16 : Nat) : Int) < 16 := by omega
      obtain ⟨y2, hy2⟩ : ∃ y2 : Nat, y2 = tstep y1 := ⟨_, rfl⟩
      have hy2b : y2 < 4294967296 := by rw [hy2]; exact tstep_lt y1 hy1b
      have e3 : bits BinOp.xor IntKind.u32 ((y1 : Int) / 16) ((tab (y1 % 16) : Nat) : Int) = (y2 : Int) := by rw [hy2]; exact xor_tab y1 hy1b
      have e4 : bits BinOp.and IntKind.u32 (y2 : Int) 15 = ((y2 % 16 : Nat) : Int) := and15 y2 hy2b
      have t2 := ht (y2 % 16) (by omega)
      have b3 : (0 : Int) ≤ ((y2 % 16 : Nat) : Int) := by omega
      have b4 : ((y2 % 16 : Nat) : Int) < 16 := by omega
      obtain ⟨y3, hy3⟩ : ∃ y3 : Nat, y3 = tstep y2 := ⟨_, rfl⟩
      have hy3b : y3 < 4294967296 := by rw [hy3]; exact tstep_lt y2 hy2b
      have e5 : bits BinOp.xor IntKind.u32 ((y2 : Int) / 16) ((tab (y2 % 16) : Nat) : Int) = (y3 : Int) := by rw [hy3]; exact xor_tab y2 hy2b
      have HR : Hid (y3 = crcReg (nt x) (l.take (k + 1))) := by
        show y3 = _
        rw [take_next l k (by omega), crcReg_snoc, ← HY.out, ← HC.out, hy3, hy2, hy1]; rfl
      clear hy1 hy2 hy3 hc ht
      go_wp2
      go_round
      case rel => exact ⟨k + 1, y3, by omega, hy3b, by go_num, rfl, HR.out⟩
      case measure => simp [intOf]; omega
    · have hke : l.take k = l := List.take_of_length_le (by omega)
      have hnt2 := not_u32 y hy
      have HE : Hid (y = crcReg (nt x) l) := by
        show y = _
        rw [HY.out, hke]
      clear hke hc ht
      go_wp2
      go_ret
      exact ⟨ret_nat (congrArg nt HE.out), rfl⟩

end Go.Proofs.YtiihnoohodklhaaDoor
