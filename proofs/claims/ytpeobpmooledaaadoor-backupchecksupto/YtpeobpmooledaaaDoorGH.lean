import Derived.Test.YtpeobpmooledaaaDoorGet
import Derived.Test.YtpeobpmooledaaaDoorSRHead
namespace Go.Proofs.YtpeobpmooledaaaDoor.S
open Go.RowKit

set_option maxHeartbeats 400000 in
theorem rget_ok (g o cap : Nat) (l : List UInt8) (w : World) (h1 : 1 ≤ l.length) (h8 : l.length ≤ 8)
    (hc : ∀ j (h : j < l.length), w.cell? ⟨g, o + j, none⟩ = some (.int .u8 (l[j].toNat : Int))) :
    Calls Tryd.prog 57 #[.slice (some ⟨g, o, none⟩) l.length cap] w fun e w' => e = .returned (.tuple #[.int .u64 ((beNat l : Nat) : Int), .int .i64 0]) ∧ w = w' := by
  have hd1 : decide ((l.length : Int) < 1) = false := decide_eq_false (by omega)
  have hd2 : decide ((8 : Int) < (l.length : Int)) = false := decide_eq_false (by omega)
  go_enter Tryd.func57, Tryd.ntmps57
  go_wp2_with fail
  go_loop [4, 5] (fun r i => ∃ k y : Nat, k ≤ l.length ∧ i = .int .i64 k ∧ r = .int .u64 (y : Int) ∧ y = beNat (l.take k)) (fun _ i => l.length - (intOf i).toNat)
  case atStart => exact ⟨0, 0, by omega, rfl, rfl, rfl⟩
  case round =>
    obtain ⟨k, y, hk, rfl, rfl, hyr⟩ := hrel
    have HY : Hid (y = beNat (l.take k)) := hyr
    clear hyr
    by_cases hlt : k < l.length
    · have hck := hc k (by omega)
      obtain ⟨c, hcd⟩ : ∃ c : Nat, c = (l[k]'(by omega)).toNat := ⟨_, rfl⟩
      have hc256 : c < 256 := by rw [hcd]; exact UInt8.toNat_lt _
      rw [← hcd] at hck
      have HR : Hid (y * 256 + c = beNat (l.take (k + 1))) := by
        show y * 256 + c = _
        rw [take_next l k (by omega), beNat_snoc, ← HY.out, hcd]
      have hyb : y < 72057594037927936 := by
        rw [HY.out]
        have h := beNat_lt (l.take k)
        rw [List.length_take, Nat.min_eq_left (by omega)] at h
        exact Nat.lt_of_lt_of_le h (Nat.le_trans (Nat.pow_le_pow_right (n := 256) (i := k) (j := 7) (by decide) (by omega)) (by decide))
      clear hcd hc
      go_wp2
      go_round
      case rel => exact ⟨k + 1, y * 256 + c, by omega, by go_num, by go_num, HR.out⟩
      case measure => simp [intOf]; omega
    · have HE : Hid (y = beNat l) := by
        show y = _
        rw [HY.out, List.take_of_length_le (by omega)]
      clear hc
      go_wp2
      go_ret2
      exact ⟨ret_pair HE.out, rfl⟩

end Go.Proofs.YtpeobpmooledaaaDoor.S

namespace Go.Proofs.YtpeobpmooledaaaDoor.S
open Go.RowKit

set_option maxHeartbeats 400000 in
theorem rnum4 (g cap : Nat) (l : List UInt8) (w : World) (hl : l.length = 4096) (hcap : 4096 ≤ cap) (hcm : cap ≤ 9223372036854775807)
    (hc : ∀ j (h : j < l.length), w.cell? ⟨g, j, none⟩ = some (.int .u8 (l[j].toNat : Int))) :
    Calls Tryd.prog 48 #[.slice (some ⟨g, 0, none⟩) 4096 cap, .int .i64 4, .int .i64 8] w fun e w' => e = .returned (.int .u64 ((beNat (sub l 4 4) : Nat) : Int)) ∧ w = w' := by
  have hcapI : (4096 : Int) ≤ (cap : Int) := by omega
  have hsl := sub_len l 4 4 (by rw [hl]; decide)
  have C : ∀ c, Calls Tryd.prog 57 #[.slice (some ⟨g, 4, none⟩) 4 c] w fun e w' => e = .returned (.tuple #[.int .u64 ((beNat (sub l 4 4) : Nat) : Int), .int .i64 0]) ∧ w = w' := fun c => by
    have h := rget_ok g 4 c (sub l 4 4) w (by rw [hsl]; decide) (by rw [hsl]; decide) (fun j hj => by
      rw [sub_get l 4 4 j (by rw [hl]; decide) hj]
      exact hc _ _)
    rw [hsl] at h
    exact h
  have HC := hide C
  generalize beNat (sub l 4 4) = n at *
  clear C hc hl hsl
  go_enter Tryd.func48, Tryd.ntmps48
  go_wp2_with fail
  refine (HC.out _).mono ?_
  rintro e w' ⟨rfl, rfl⟩
  go_wp2_with fail
  go_ret
  exact ⟨rfl, rfl⟩

set_option maxHeartbeats 400000 in
theorem rnum8 (g cap : Nat) (l : List UInt8) (w : World) (hl : l.length = 4096) (hcap : 4096 ≤ cap) (hcm : cap ≤ 9223372036854775807)
    (hc : ∀ j (h : j < l.length), w.cell? ⟨g, j, none⟩ = some (.int .u8 (l[j].toNat : Int))) :
    Calls Tryd.prog 48 #[.slice (some ⟨g, 0, none⟩) 4096 cap, .int .i64 8, .int .i64 16] w fun e w' => e = .returned (.int .u64 ((beNat (sub l 8 8) : Nat) : Int)) ∧ w = w' := by
  have hcapI : (4096 : Int) ≤ (cap : Int) := by omega
  have hsl := sub_len l 8 8 (by rw [hl]; decide)
  have C : ∀ c, Calls Tryd.prog 57 #[.slice (some ⟨g, 8, none⟩) 8 c] w fun e w' => e = .returned (.tuple #[.int .u64 ((beNat (sub l 8 8) : Nat) : Int), .int .i64 0]) ∧ w = w' := fun c => by
    have h := rget_ok g 8 c (sub l 8 8) w (by rw [hsl]; decide) (by rw [hsl]; decide) (fun j hj => by
      rw [sub_get l 8 8 j (by rw [hl]; decide) hj]
      exact hc _ _)
    rw [hsl] at h
    exact h
  have HC := hide C
  generalize beNat (sub l 8 8) = n at *
  clear C hc hl hsl
  go_enter Tryd.func48, Tryd.ntmps48
  go_wp2_with fail
  refine (HC.out _).mono ?_
  rintro e w' ⟨rfl, rfl⟩
  go_wp2_with fail
  go_ret
  exact ⟨rfl, rfl⟩

set_option maxHeartbeats 400000 in
theorem rnum2 (g cap : Nat) (l : List UInt8) (w : World) (hl : l.length = 4096) (hcap : 4096 ≤ cap) (hcm : cap ≤ 9223372036854775807)
    (hc : ∀ j (h : j < l.length), w.cell? ⟨g, j, none⟩ = some (.int .u8 (l[j].toNat : Int))) :
    Calls Tryd.prog 48 #[.slice (some ⟨g, 0, none⟩) 4096 cap, .int .i64 2, .int .i64 4] w fun e w' => e = .returned (.int .u64 ((beNat (sub l 2 2) : Nat) : Int)) ∧ w = w' := by
  have hcapI : (4096 : Int) ≤ (cap : Int) := by omega
  have hsl := sub_len l 2 2 (by rw [hl]; decide)
  have C : ∀ c, Calls Tryd.prog 57 #[.slice (some ⟨g, 2, none⟩) 2 c] w fun e w' => e = .returned (.tuple #[.int .u64 ((beNat (sub l 2 2) : Nat) : Int), .int .i64 0]) ∧ w = w' := fun c => by
    have h := rget_ok g 2 c (sub l 2 2) w (by rw [hsl]; decide) (by rw [hsl]; decide) (fun j hj => by
      rw [sub_get l 2 2 j (by rw [hl]; decide) hj]
      exact hc _ _)
    rw [hsl] at h
    exact h
  have HC := hide C
  generalize beNat (sub l 2 2) = n at *
  clear C hc hl hsl
  go_enter Tryd.func48, Tryd.ntmps48
  go_wp2_with fail
  refine (HC.out _).mono ?_
  rintro e w' ⟨rfl, rfl⟩
  go_wp2_with fail
  go_ret
  exact ⟨rfl, rfl⟩

end Go.Proofs.YtpeobpmooledaaaDoor.S
