import Derived.Test.YtoedmapcnalhjabDoorNamesRef
namespace Go.Proofs.YtoedmapcnalhjabDoor
open Go.RowKit

def TwoRows (a b n : Nat) (T : Nat → Int) (w : World) : Prop := ∀ k : Nat, k < n → w.cell? ⟨a, k, none⟩ = some (.int .i64 (T k)) ∧ w.cell? ⟨b, k, none⟩ = some (.int .i64 (T k))
theorem TwoRows.below {a b n : Nat} {T : Nat → Int} {w w' : World} (h : TwoRows a b n T w) (ha : a < w.heap.size) (hb : b < w.heap.size) (h' : Below w.heap.size w w') : TwoRows a b n T w' := fun k hk =>
  ⟨(h'.cell (p := ⟨a, k, none⟩) ha).trans (h k hk).1, (h'.cell (p := ⟨b, k, none⟩) hb).trans (h k hk).2⟩

set_option maxHeartbeats 600000 in
theorem names_any (A : Nat → Addr) (L K : Nat → Int) (w : World) (hA : ErrsAt A w) (h4 : 4 < w.heap.size) (hL : TwoRows 0 1 27 L w) (hK : TwoRows 2 3 45 K w) :
    Calls Tryd.prog 5 #[] w fun e w' => e = .returned (.bool true) ∧ Below w.heap.size w w' := by
  go_enter Tryd.func5, Tryd.ntmps5
  go_wp2_with fail
  refine (refusals_any A _ hA).mono ?_
  rintro e w1 ⟨rfl, hb1⟩
  have hL1 := hL.below (by omega) (by omega) hb1
  have hK1 := hK.below (by omega) (by omega) hb1
  clear hL hK hA
  go_wp2_with fail
  go_loopw [2] (fun i wr => ∃ k nq : Nat, k ≤ 27 ∧ i = .int .i64 k ∧ wr = w1.drewN nq) (fun i _ => 27 - (intOf i).toNat)
  case atStart => exact ⟨0, 0, by omega, rfl, rfl⟩
  case round =>
    obtain ⟨k, nq, hk, rfl, rfl⟩ := hrel
    by_cases hlt : k < 27
    · obtain ⟨e1, e2⟩ := hL1 k hlt
      have j0 : (0 : Int) ≤ (k : Int) := Int.natCast_nonneg k
      have j1 : (k : Int) < 27 := by omega
      clear hL1 hK1
      generalize L k = x at *
      go_wp2
      go_quiet (fail)
      go_wp2
      go_roundw
      case rel => exact ⟨k + 1, _, by omega, by go_num, rfl⟩
      case measure => simp [intOf]; omega
    · have HK := (show Hid _ from hK1)
      clear hL1 hK1
      go_wp2_with fail
      go_loopw [3] (fun i wr => ∃ k nq : Nat, k ≤ 45 ∧ i = .int .i64 k ∧ wr = w1.drewN nq) (fun i _ => 45 - (intOf i).toNat)
      case atStart => exact ⟨0, _, by omega, rfl, rfl⟩
      case round =>
        obtain ⟨k, nq, hk, rfl, rfl⟩ := hrel
        by_cases hlt : k < 45
        · obtain ⟨e1, e2⟩ := HK.out k hlt
          have j0 : (0 : Int) ≤ (k : Int) := Int.natCast_nonneg k
          have j1 : (k : Int) < 45 := by omega
          clear HK
          generalize K k = x at *
          go_wp2
          go_quiet (fail)
          go_wp2
          go_roundw
          case rel => exact ⟨k + 1, _, by omega, by go_num, rfl⟩
          case measure => simp [intOf]; omega
        · go_wp2
          go_ret
          exact ⟨rfl, below_drewN hb1 _⟩

end Go.Proofs.YtoedmapcnalhjabDoor
