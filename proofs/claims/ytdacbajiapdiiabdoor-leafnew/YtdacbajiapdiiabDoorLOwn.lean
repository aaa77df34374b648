import Derived.Test.YtdacbajiapdiiabDoorPrs2
namespace Go.Proofs.YtdacbajiapdiiabDoor
open Go.RowKit

def letterB (k : Nat) : ByteArray := ⟨#[UInt8.ofNat (97 + k)]⟩
/-- The mark of the list of that number. -/
def ownN (n : Nat) : Pr := (⟨#[111, 119, 110]⟩, letterB n)
theorem letter_get : ∀ k, k < 14 → (⟨#[97, 98, 99, 100, 101, 102, 103, 104, 105, 106, 107, 108, 109, 110]⟩ : ByteArray).data.toList[k]? = some (UInt8.ofNat (97 + k)) := by
  intro k hk
  match k, hk with
  | 0, _ | 1, _ | 2, _ | 3, _ | 4, _ | 5, _ | 6, _ | 7, _ | 8, _ | 9, _ | 10, _ | 11, _ | 12, _ | 13, _ => rfl

set_option maxRecDepth 20000 in
set_option maxHeartbeats 400000 in
theorem own_any (k : Nat) (w : World) (hk10 : k < 14) :
    Calls Tryd.prog 20 #[.int .i64 (k : Int)] w fun e w' => e = .returned (.agg #[.string (ownN k).1, .string (ownN k).2]) ∧ Below w.heap.size w w' := by
  have hb0 := below_new w (.cells #[.string ⟨#[]⟩, .string ⟨#[]⟩] 45)
  go_enter Tryd.func20, Tryd.ntmps20
  go_wp2_with fail
  refine (bytes_at _ 14 _ rfl (by decide) (by decide)).mono ?_
  rintro e w1 ⟨g, cap, rfl, hcap, hc, hb1⟩
  have hcell : w1.cell? ⟨g, k, none⟩ = some (.int .u8 ((UInt8.ofNat (97 + k)).toNat : Int)) := hc k _ (letter_get k hk10)
  have hrow := row_kept hb1
  have c0 : w1.cell? ⟨w.heap.size, 0, none⟩ = some (.string ⟨#[]⟩) := by rw [cell_of_row _ _ _ _ _ _ hrow]; rfl
  have c1 : w1.cell? ⟨w.heap.size, 1, none⟩ = some (.string ⟨#[]⟩) := by rw [cell_of_row _ _ _ _ _ _ hrow]; rfl
  have z0 : w1.frozen? ⟨w.heap.size, 0, none⟩ = false := frozen_of_row _ _ _ _ _ hrow
  have z1 : w1.frozen? ⟨w.heap.size, 1, none⟩ = false := frozen_of_row _ _ _ _ _ hrow
  have hcv := conv_one w1 g k (cap - k) _ hcell
  obtain ⟨q, hq⟩ : ∃ q, q = k + 1 := ⟨_, rfl⟩
  have hw : IntKind.i64.wrap ((k : Int) + 1) = (q : Int) := by rw [IntKind.wrap_i64]; omega
  have hsl : ∀ w, (Instr.sliceAt 78 (.slice (some ⟨g, 0, none⟩) 14 cap) (some (.int .i64 (k : Int))) (some (.int .i64 (q : Int))) none).run Tryd.prog w = .ok (.slice (some ⟨g, k, none⟩) 1 (cap - k)) w := fun w => by
    subst hq
    rw [run_sliceAt_slice (h := Tryd.underlying78), run_slice_lh (ht := Tryd.underlying78) (h0 := by omega) (h1 := by omega) (h2 := by omega)]
    have hz : (sizeOf (Tryd.prog.elem 78)).run Tryd.prog w = .ok 1 w := by kernel_rfl
    rw [hz]
    simp only [Result.andThen, sliced, Int.toNat_natCast]
    rw [if_neg (by omega), show k + 1 - k = 1 by omega]
    simp [add_plain']
  have HB := hide (Below.next hb0 hb1)
  have hq10 : q ≤ 14 := by omega
  have HQ := hide hq
  clear hq
  obtain ⟨x, hx⟩ : ∃ x, x = UInt8.ofNat (97 + k) := ⟨_, rfl⟩
  rw [← hx] at hcv
  have HX := hide hx
  have HROW := hide hrow
  clear hb1 hb0 hc hcell hx hrow
  go_wp2_with fail
  refine bodyPost_ret (results_cell_row rfl _ _ w.heap.size 45 _ (0, 0) _ rfl (set_two HROW.out _ _) Tryd.underlying45 rfl (by kernel_rfl)) rfl ⟨?_, below_two HB.out (Nat.le_refl _)⟩
  rw [HX.out]; rfl

end Go.Proofs.YtdacbajiapdiiabDoor
