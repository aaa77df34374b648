import Derived.Test.YtmifadjgmjnkgaaDoorRHead
import Derived.Test.YtmifadjgmjnkgaaDoorRGet
namespace Go.Proofs.YtmifadjgmjnkgaaDoor
open Go.RowKit

set_option maxHeartbeats 400000 in
theorem rnum4 (g cap : Nat) (l : List UInt8) (w : World) (hl : l.length = 4096) (hcap : 4096 ≤ cap) (hcm : cap ≤ 9223372036854775807)
    (hc : ∀ j (h : j < l.length), w.cell? ⟨g, j, none⟩ = some (.int .u8 (l[j].toNat : Int))) :
    Calls Tryd.prog 42 #[.slice (some ⟨g, 0, none⟩) 4096 cap, .int .i64 4, .int .i64 8] w fun e w' => e = .returned (.int .u64 ((beNat (sub l 4 4) : Nat) : Int)) ∧ w = w' := by
  have hcapI : (4096 : Int) ≤ (cap : Int) := by omega
  have hsl := sub_len l 4 4 (by rw [hl]; decide)
  have C : ∀ c, Calls Tryd.prog 55 #[.slice (some ⟨g, 4, none⟩) 4 c] w fun e w' => e = .returned (.tuple #[.int .u64 ((beNat (sub l 4 4) : Nat) : Int), .int .i64 0]) ∧ w = w' := fun c => by
    have h := rget_ok g 4 c (sub l 4 4) w (by rw [hsl]; decide) (by rw [hsl]; decide) (fun j hj => by
      rw [sub_get l 4 4 j (by rw [hl]; decide) hj]
      exact hc _ _)
    rw [hsl] at h
    exact h
  have HC := hide C
  generalize beNat (sub l 4 4) = n at *
  clear C hc hl hsl
  go_enter Tryd.func42, Tryd.ntmps42
  go_wp2_with fail
  refine (HC.out _).mono ?_
  rintro e w' ⟨rfl, rfl⟩
  go_wp2_with fail
  go_ret
  exact ⟨rfl, rfl⟩

set_option maxHeartbeats 400000 in
theorem rnum8 (g cap : Nat) (l : List UInt8) (w : World) (hl : l.length = 4096) (hcap : 4096 ≤ cap) (hcm : cap ≤ 9223372036854775807)
    (hc : ∀ j (h : j < l.length), w.cell? ⟨g, j, none⟩ = some (.int .u8 (l[j].toNat : Int))) :
    Calls Tryd.prog 42 #[.slice (some ⟨g, 0, none⟩) 4096 cap, .int .i64 8, .int .i64 16] w fun e w' => e = .returned (.int .u64 ((beNat (sub l 8 8) : Nat) : Int)) ∧ w = w' := by
  have hcapI : (4096 : Int) ≤ (cap : Int) := by omega
  have hsl := sub_len l 8 8 (by rw [hl]; decide)
  have C : ∀ c, Calls Tryd.prog 55 #[.slice (some ⟨g, 8, none⟩) 8 c] w fun e w' => e = .returned (.tuple #[.int .u64 ((beNat (sub l 8 8) : Nat) : Int), .int .i64 0]) ∧ w = w' := fun c => by
    have h := rget_ok g 8 c (sub l 8 8) w (by rw [hsl]; decide) (by rw [hsl]; decide) (fun j hj => by
      rw [sub_get l 8 8 j (by rw [hl]; decide) hj]
      exact hc _ _)
    rw [hsl] at h
    exact h
  have HC := hide C
  generalize beNat (sub l 8 8) = n at *
  clear C hc hl hsl
  go_enter Tryd.func42, Tryd.ntmps42
  go_wp2_with fail
  refine (HC.out _).mono ?_
  rintro e w' ⟨rfl, rfl⟩
  go_wp2_with fail
  go_ret
  exact ⟨rfl, rfl⟩

set_option maxHeartbeats 400000 in
theorem rnum2 (g cap : Nat) (l : List UInt8) (w : World) (hl : l.length = 4096) (hcap : 4096 ≤ cap) (hcm : cap ≤ 9223372036854775807)
    (hc : ∀ j (h : j < l.length), w.cell? ⟨g, j, none⟩ = some (.int .u8 (l[j].toNat : Int))) :
    Calls Tryd.prog 42 #[.slice (some ⟨g, 0, none⟩) 4096 cap, .int .i64 2, .int .i64 4] w fun e w' => e = .returned (.int .u64 ((beNat (sub l 2 2) : Nat) : Int)) ∧ w = w' := by
  have hcapI : (4096 : Int) ≤ (cap : Int) := by omega
  have hsl := sub_len l 2 2 (by rw [hl]; decide)
  have C : ∀ c, Calls Tryd.prog 55 #[.slice (some ⟨g, 2, none⟩) 2 c] w fun e w' => e = .returned (.tuple #[.int .u64 ((beNat (sub l 2 2) : Nat) : Int), .int .i64 0]) ∧ w = w' := fun c => by
    have h := rget_ok g 2 c (sub l 2 2) w (by rw [hsl]; decide) (by rw [hsl]; decide) (fun j hj => by
      rw [sub_get l 2 2 j (by rw [hl]; decide) hj]
      exact hc _ _)
    rw [hsl] at h
    exact h
  have HC := hide C
  generalize beNat (sub l 2 2) = n at *
  clear C hc hl hsl
  go_enter Tryd.func42, Tryd.ntmps42
  go_wp2_with fail
  refine (HC.out _).mono ?_
  rintro e w' ⟨rfl, rfl⟩
  go_wp2_with fail
  go_ret
  exact ⟨rfl, rfl⟩

end Go.Proofs.YtmifadjgmjnkgaaDoor
