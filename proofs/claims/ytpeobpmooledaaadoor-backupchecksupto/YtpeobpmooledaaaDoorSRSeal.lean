import Derived.Test.YtpeobpmooledaaaDoorGI
import Derived.Test.YtpeobpmooledaaaDoorGA
import Derived.Test.YtpeobpmooledaaaDoorRefCrc
import Derived.Deep.RegionHeld3
namespace Go.Proofs.YtpeobpmooledaaaDoor.S
open Go.RowKit

theorem below_undrewN {w w' : World} {B n : Nat} (h : Below B (w.drewN n) w') : Below B w w' := ⟨h.os, h.tape, h.output, h.size, h.block⟩

theorem rpage_any (s : Sh) (sum : Nat) (w : World) (hm : May s) (hx : s.txid < 18446744073709551616) (hsum : sum < 4294967296) :
    Calls Tryd.prog 59 #[.agg s.cells.toArray, .int .u32 (sum : Int)] w fun e w' => ∃ g cap, e = .returned (.slice (some ⟨g, 0, none⟩) 4096 cap) ∧
      w'.ownsRow w.heap.size 5 1 (.slice (some ⟨g, 0, none⟩) 4096 cap) 4096 (u8s (pageB s sum)) ∧ Below w.heap.size w w' := by
  obtain ⟨k, i, t, c, b⟩ := s
  obtain ⟨hk, ⟨hc1, hc2⟩, ⟨hi1, hi2⟩, hb⟩ := hm
  simp only at hk hc1 hc2 hi1 hi2 hb hx
  obtain ⟨k, rfl⟩ := Int.eq_ofNat_of_zero_le (show 0 ≤ k by omega)
  obtain ⟨c, rfl⟩ := Int.eq_ofNat_of_zero_le hc1
  obtain ⟨i, rfl⟩ := Int.eq_ofNat_of_zero_le (show 0 ≤ i by omega)
  exact rpage_nat k i t c sum b w (by omega) (by omega) (by omega) hx hsum hb

set_option maxHeartbeats 1000000 in
theorem rseal_ok (s : Sh) (w : World) (hm : May s) (hx : s.txid < 18446744073709551616) :
    Calls Tryd.prog 49 #[.agg s.cells.toArray] w fun e w' => ∃ g cap, e = .returned (.tuple #[.slice (some ⟨g, 0, none⟩) 4096 cap, .int .i64 0]) ∧ w'.ownsRow w.heap.size 5 1 (.slice (some ⟨g, 0, none⟩) 4096 cap) 4096 (u8s (page s)) ∧ Below w.heap.size w w' := by
  have hlen := pageB_len s 0 hm
  obtain ⟨k, i, t, c, b⟩ := s
  have HM : Hid (∀ w, Calls Tryd.prog 58 #[.agg #[.int .i64 k, .int .i64 i, .int .u64 (t : Int), .int .i64 c, .string b]] w fun e w' => e = .returned (.bool true) ∧ Below w.heap.size w w') := fun w => by
    have h := rmayBe_any ⟨k, i, t, c, b⟩ w (by rw [hm.2.2.2]; decide)
    rw [decide_eq_true hm] at h
    exact h
  have HP : Hid (∀ (sum : Nat) w, sum < 4294967296 → Calls Tryd.prog 59 #[.agg #[.int .i64 k, .int .i64 i, .int .u64 (t : Int), .int .i64 c, .string b], .int .u32 (sum : Int)] w fun e w' => ∃ g cap, e = .returned (.slice (some ⟨g, 0, none⟩) 4096 cap) ∧ w'.ownsRow w.heap.size 5 1 (.slice (some ⟨g, 0, none⟩) 4096 cap) 4096 (u8s (pageB ⟨k, i, t, c, b⟩ sum)) ∧ Below w.heap.size w w') := fun sum w h => rpage_any ⟨k, i, t, c, b⟩ sum w hm hx h
  have HP0 : Hid (∀ w, Calls Tryd.prog 59 #[.agg #[.int .i64 k, .int .i64 i, .int .u64 (t : Int), .int .i64 c, .string b], .int .u32 0] w fun e w' => ∃ g cap, e = .returned (.slice (some ⟨g, 0, none⟩) 4096 cap) ∧ w'.ownsRow w.heap.size 5 1 (.slice (some ⟨g, 0, none⟩) 4096 cap) 4096 (u8s (pageB ⟨k, i, t, c, b⟩ 0)) ∧ Below w.heap.size w w') := fun w => HP.out 0 w (by decide)
  have HBX : Hid (Boxed w.heap.size [.int .i64 k, .int .i64 i, .int .u64 (t : Int), .int .i64 c, .string b] (w.alloc (.cells #[.int .i64 k, .int .i64 i, .int .u64 (t : Int), .int .i64 c, .string b] 70))) := boxed_new w _ _
  have HB0 : Hid (Below w.heap.size w (w.alloc (.cells #[.int .i64 k, .int .i64 i, .int .u64 (t : Int), .int .i64 c, .string b] 70))) := below_new w _
  have HLN : Hid ((pageB ⟨k, i, t, c, b⟩ 0).length = 4096) := hlen
  clear hm hx hlen
  show Calls Tryd.prog 49 #[.agg #[.int .i64 k, .int .i64 i, .int .u64 (t : Int), .int .i64 c, .string b]] w _
  go_enter Tryd.func49, Tryd.ntmps49
  go_wp2_with fail
  refine (HM.out _).mono ?_
  rintro e w1 ⟨rfl, hb1⟩
  have HX1 := hide (HBX.out.below hb1)
  have HB1 : Hid (Below w.heap.size w w1) := Below.next HB0.out hb1
  have c0 : w1.cell? ⟨w.heap.size, 0, none⟩ = some (.int .i64 k) := HX1.out.2 0 (by simp)
  have c1 : w1.cell? ⟨w.heap.size, 1, none⟩ = some (.int .i64 i) := HX1.out.2 1 (by simp)
  have c2 : w1.cell? ⟨w.heap.size, 2, none⟩ = some (.int .u64 (t : Int)) := HX1.out.2 2 (by simp)
  have c3 : w1.cell? ⟨w.heap.size, 3, none⟩ = some (.int .i64 c) := HX1.out.2 3 (by simp)
  have c4 : w1.cell? ⟨w.heap.size, 4, none⟩ = some (.string b) := HX1.out.2 4 (by simp)
  clear hb1 HBX HB0
  go_wp2_with fail
  refine (HP0.out _).mono ?_
  rintro e w2 ⟨g2, cap2, rfl, hown2, hb2⟩
  have hx2 := HX1.out.below hb2
  have HB2 : Hid (Below w.heap.size w w2) := Below.next HB1.out hb2
  have rd2 := rd_of_owns hown2
  clear c0 c1 c2 c3 c4 HX1 HB1 hown2 hb2
  have c0 : w2.cell? ⟨w.heap.size, 0, none⟩ = some (.int .i64 k) := hx2.2 0 (by simp)
  have c1 : w2.cell? ⟨w.heap.size, 1, none⟩ = some (.int .i64 i) := hx2.2 1 (by simp)
  have c2 : w2.cell? ⟨w.heap.size, 2, none⟩ = some (.int .u64 (t : Int)) := hx2.2 2 (by simp)
  have c3 : w2.cell? ⟨w.heap.size, 3, none⟩ = some (.int .i64 c) := hx2.2 3 (by simp)
  have c4 : w2.cell? ⟨w.heap.size, 4, none⟩ = some (.string b) := hx2.2 4 (by simp)
  have HRC : Hid (∀ w, Rd w (.slice (some ⟨g2, 0, none⟩) 4096 cap2) (pageB ⟨k, i, t, c, b⟩ 0) → Calls Tryd.prog 28 #[.slice (some ⟨g2, 0, none⟩) 4096 cap2] w fun e w' => e = .returned (.int .u32 ((crcV (pageB ⟨k, i, t, c, b⟩ 0) : Nat) : Int)) ∧ w = w') := fun w h => ref_rd _ _ w (by rw [HLN.out]; decide) h
  have HRD := hide (rd2)
  have hcv : crcV (pageB ⟨k, i, t, c, b⟩ 0) < 4294967296 := nt_lt _
  have HPG : Hid (page ⟨k, i, t, c, b⟩ = pageB ⟨k, i, t, c, b⟩ (crcV (pageB ⟨k, i, t, c, b⟩ 0))) := rfl
  generalize crcV (pageB ⟨k, i, t, c, b⟩ 0) = cv at *
  have hlt : w.heap.size < w2.heap.size := hx2.1
  clear hx2 rd2
  go_wp2_with fail
  go_region_held3 (fun w' => w'.cell? ⟨w.heap.size, 0, none⟩ = some (.int .i64 k) ∧ w'.cell? ⟨w.heap.size, 1, none⟩ = some (.int .i64 i) ∧ w'.cell? ⟨w.heap.size, 2, none⟩ = some (.int .u64 (t : Int)) ∧ w'.cell? ⟨w.heap.size, 3, none⟩ = some (.int .i64 c) ∧ w'.cell? ⟨w.heap.size, 4, none⟩ = some (.string b)) (go_keep)
    (first
      | (go_at_call 28; refine (HRC.out _ ?_).mono ?_; (exact HRD.out); rintro e w' ⟨rfl, rfl⟩)
      | (go_at_call 59; refine (HP.out _ _ hcv).mono ?_; rintro e w3 ⟨g3, cap3, rfl, hown3, hb3⟩; have HO3 := hide hown3; have HB3 := hide hb3; have q0 := hb3.cell (p := ⟨w.heap.size, 0, none⟩) (by exact hlt); have q1 := hb3.cell (p := ⟨w.heap.size, 1, none⟩) (by exact hlt); have q2 := hb3.cell (p := ⟨w.heap.size, 2, none⟩) (by exact hlt); have q3 := hb3.cell (p := ⟨w.heap.size, 3, none⟩) (by exact hlt); have q4 := hb3.cell (p := ⟨w.heap.size, 4, none⟩) (by exact hlt); clear hown3 hb3))
  go_wp2_with fail
  go_ret2
  refine ⟨g3, cap3, rfl, ?_, ?_⟩
  · rw [HPG.out]; exact owns_base HO3.out HB2.out.size
  · exact Below.next HB2.out (below_undrewN HB3.out)

set_option maxHeartbeats 1000000 in
theorem rseal_no (s : Sh) (w : World) (hs : s.body.size ≤ 140737488355328) (hm : ¬ May s) :
    Calls Tryd.prog 49 #[.agg s.cells.toArray] w fun e w' => e = .returned (.tuple #[.slice none 0 0, .int .i64 1]) ∧ Below w.heap.size w w' := by
  obtain ⟨k, i, t, c, b⟩ := s
  have HM : Hid (∀ w, Calls Tryd.prog 58 #[.agg #[.int .i64 k, .int .i64 i, .int .u64 (t : Int), .int .i64 c, .string b]] w fun e w' => e = .returned (.bool false) ∧ Below w.heap.size w w') := fun w => by
    have h := rmayBe_any ⟨k, i, t, c, b⟩ w hs
    rw [decide_eq_false hm] at h
    exact h
  have HB0 : Hid (Below w.heap.size w (w.alloc (.cells #[.int .i64 k, .int .i64 i, .int .u64 (t : Int), .int .i64 c, .string b] 70))) := below_new w _
  clear hm
  show Calls Tryd.prog 49 #[.agg #[.int .i64 k, .int .i64 i, .int .u64 (t : Int), .int .i64 c, .string b]] w _
  go_enter Tryd.func49, Tryd.ntmps49
  go_wp2_with fail
  refine (HM.out _).mono ?_
  rintro e w1 ⟨rfl, hb1⟩
  have HB1 : Hid (Below w.heap.size w w1) := Below.next HB0.out hb1
  clear hb1 HB0
  go_wp2_with fail
  go_ret2
  exact ⟨rfl, HB1.out⟩

end Go.Proofs.YtpeobpmooledaaaDoor.S
