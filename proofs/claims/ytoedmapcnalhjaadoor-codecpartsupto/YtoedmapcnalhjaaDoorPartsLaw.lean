import Derived.Test.YtoedmapcnalhjaaDoorBox
import Derived.Deep.RegionHeld3
namespace Go.Proofs.YtoedmapcnalhjaaDoor
open Go.RowKit

theorem crc_nine : crcV [49, 50, 51, 52, 53, 54, 55, 56, 57] = 3808858755 := by decide
theorem cat_list (A B : ByteArray) : (A ++ B).data.toList = A.data.toList ++ B.data.toList := by simp
theorem parts_eq (a b : List UInt8) : nt (crcReg (nt (crcV a)) b) = crcV (a ++ b) := by
  unfold crcV
  rw [nt_nt _ (crcReg_lt a _ (nt_lt 0)), crcReg_append]
theorem crcV_lt (l : List UInt8) : crcV l < 4294967296 := nt_lt _

set_option maxHeartbeats 1000000 in
theorem parts_any (A B : ByteArray) (sum : Nat) (w : World) (hs : A.size + B.size ≤ 140737488351232) (hsum : sum < 4294967296) (ht : Tab w) :
    Calls Tryd.prog 3 #[.agg #[.string A, .string B, .int .u32 (sum : Int)]] w fun e w' => e = .returned (.bool true) ∧ Below w.heap.size w w' := by
  have lA : A.data.toList.length = A.size := by simp
  have lB : B.data.toList.length = B.size := by simp
  go_enter Tryd.func3, Tryd.ntmps3
  go_wp2_with fail
  have hbx := boxed_new w #[.string A, .string B, .int .u32 (sum : Int)] 24
  have hb0 := below_new w (.cells #[.string A, .string B, .int .u32 (sum : Int)] 24)
  generalize w.alloc (.cells #[.string A, .string B, .int .u32 (sum : Int)] 24) = W0 at *
  have ht0 : Tab W0 := ht.below hb0
  clear ht
  refine (bytes_any _ _ (by decide)).mono ?_
  rintro e w1 ⟨v1, rfl, hown1, hb1⟩
  have r1 := rd_of_owns hown1
  have ht1 := ht0.below hb1
  have hx1 := hbx.below hb1
  have hb01 := Below.next hb0 hb1
  clear hown1 ht0 hbx hb0 hb1
  go_wp2_with fail
  refine (crc_rd _ _ _ (by decide) r1 ht1).mono ?_
  rintro e w1' ⟨rfl, rfl⟩
  have e1 : ((crcV (⟨#[49, 50, 51, 52, 53, 54, 55, 56, 57]⟩ : ByteArray).data.toList : Nat) : Int) = 3808858755 := congrArg Nat.cast crc_nine
  rw [e1]
  clear e1 r1
  have c0 : w1.cell? ⟨w.heap.size, 0, none⟩ = some (.string A) := hx1.2 0 (by simp)
  have c1 : w1.cell? ⟨w.heap.size, 1, none⟩ = some (.string B) := hx1.2 1 (by simp)
  have HW : Hid (crcV (A ++ B).data.toList = crcV (A.data.toList ++ B.data.toList)) := by show crcV _ = _; rw [cat_list]
  have hAB : (A ++ B).size ≤ 140737488355328 := by simp; omega
  have hABl : (A ++ B).data.toList.length ≤ 140737488355328 := by rw [bsize]; exact hAB
  have K1 : Hid (∀ v w, Rd w v B.data.toList → Tab w → Calls Tryd.prog 11 #[.int .u32 ((crcV A.data.toList : Nat) : Int), v] w fun e w' => e = .returned (.int .u32 ((crcV (A.data.toList ++ B.data.toList) : Nat) : Int)) ∧ w = w') := fun v w hr ht => by
    have h := crcMore_rd (crcV A.data.toList) _ v B.data.toList w rfl (crcV_lt _) (by omega) hr ht
    rw [parts_eq] at h
    exact h
  have K2 : Hid (∀ v w, Rd w v A.data.toList → Tab w → Calls Tryd.prog 11 #[.int .u32 0, v] w fun e w' => e = .returned (.int .u32 ((crcV A.data.toList : Nat) : Int)) ∧ w = w') := fun v w hr ht =>
    crcMore_rd 0 _ v A.data.toList w rfl (by decide) (by omega) hr ht
  have K3 : Hid (∀ w, Calls Tryd.prog 11 #[.int .u32 (sum : Int), .slice none 0 0] w fun e w' => e = .returned (.int .u32 (sum : Int)) ∧ w = w') := fun w => by
    have h := crcMore_nil sum w hsum
    rw [nt_nt sum hsum] at h
    exact h
  go_wp2_with fail
  refine (bytes_any (A ++ B) _ hAB).mono ?_
  rintro e w2 ⟨v2, rfl, hown2, hb2⟩
  have r2 := rd_of_owns hown2
  have ht2 := ht1.below hb2
  have hx2 := hx1.below hb2
  have hb02 := Below.next hb01 hb2
  clear hown2 ht1 hx1 hb01 hb2 c0 c1
  go_wp2_with fail
  refine (crc_rd _ _ _ hABl r2 ht2).mono ?_
  rintro e w2' ⟨rfl, rfl⟩
  rw [HW.out]
  clear r2 HW
  have c0 : w2.cell? ⟨w.heap.size, 0, none⟩ = some (.string A) := hx2.2 0 (by simp)
  go_wp2_with fail
  refine (bytes_any A _ (by omega)).mono ?_
  rintro e w3 ⟨v3, rfl, hown3, hb3⟩
  have r3 := rd_of_owns hown3
  have ht3 := ht2.below hb3
  have hx3 := hx2.below hb3
  have hb03 := Below.next hb02 hb3
  clear hown3 ht2 hx2 hb02 hb3 c0
  go_wp2_with fail
  refine (crc_rd _ A.data.toList _ (by omega) r3 ht3).mono ?_
  rintro e w3' ⟨rfl, rfl⟩
  clear r3
  generalize crcV A.data.toList = xa at *
  generalize crcV (A.data.toList ++ B.data.toList) = xw at *
  have c0 : w3.cell? ⟨w.heap.size, 0, none⟩ = some (.string A) := hx3.2 0 (by simp)
  have c1 : w3.cell? ⟨w.heap.size, 1, none⟩ = some (.string B) := hx3.2 1 (by simp)
  have c2 : w3.cell? ⟨w.heap.size, 2, none⟩ = some (.int .u32 (sum : Int)) := hx3.2 2 (by simp)
  go_wp2_with fail
  go_region_held3 (fun w' => w'.cell? ⟨w.heap.size, 0, none⟩ = some (.string A) ∧ w'.cell? ⟨w.heap.size, 1, none⟩ = some (.string B) ∧ w'.cell? ⟨w.heap.size, 2, none⟩ = some (.int .u32 (sum : Int))) (go_keep)
    (first
      | (go_at_call_of 10 (Value.string B); refine (bytes_any B _ (by omega)).mono ?_; rintro e w4 ⟨v4, rfl, hown4, hb4d⟩; have hb4 : Below w3.heap.size w3 w4 := ⟨hb4d.os, hb4d.tape, hb4d.output, hb4d.size, hb4d.block⟩; have r4 := rd_of_owns hown4; have hx4 := hx3.below hb4; have ht4 := ht3.below hb4; have hb04 := Below.next hb03 hb4; clear hown4 hb4 hb4d; have k0 : w4.cell? ⟨w.heap.size, 0, none⟩ = some (.string A) := hx4.2 0 (by simp); have k1 : w4.cell? ⟨w.heap.size, 1, none⟩ = some (.string B) := hx4.2 1 (by simp); have k2 : w4.cell? ⟨w.heap.size, 2, none⟩ = some (.int .u32 (sum : Int)) := hx4.2 2 (by simp))
      | (go_at_call_of 10 (Value.string A); refine (bytes_any A _ (by omega)).mono ?_; rintro e w5 ⟨v5, rfl, hown5, hb5⟩; have r5 := rd_of_owns hown5; have hx5 := hx4.below hb5; have ht5 := ht4.below hb5; have hb05 := Below.next hb04 hb5; clear hown5 hb5; have k0 : w5.cell? ⟨w.heap.size, 0, none⟩ = some (.string A) := hx5.2 0 (by simp); have k1 : w5.cell? ⟨w.heap.size, 1, none⟩ = some (.string B) := hx5.2 1 (by simp); have k2 : w5.cell? ⟨w.heap.size, 2, none⟩ = some (.int .u32 (sum : Int)) := hx5.2 2 (by simp))
      | (go_at_call_of 11 (Value.int IntKind.u32 (xa : Int)); refine (K1.out _ _ ?_ ?_).mono ?_; (exact r4); (exact ht4); rintro e w' ⟨rfl, rfl⟩)
      | (go_at_call_of 11 (Value.int IntKind.u32 0); refine (K2.out _ _ ?_ ?_).mono ?_; (exact r5); (exact ht5); rintro e w' ⟨rfl, rfl⟩)
      | (go_at_call_of 11 (Value.int IntKind.u32 (sum : Int)); refine (K3.out _).mono ?_; rintro e w' ⟨rfl, rfl⟩))
  go_wp2_with fail
  go_ret
  exact ⟨rfl, hb05⟩

end Go.Proofs.YtoedmapcnalhjaaDoor
