import Derived.Test.YtlopimdnjookeabGreatDoorRWrit
import Derived.Test.YtlopimdnjookeabGreatDoorB5
import Derived.Test.YtlopimdnjookeabGreatDoorSame
import Derived.Deep.QuietTactic
namespace Go.Proofs.YtlopimdnjookeabGreatDoor
open Go.RowKit

set_option maxRecDepth 100000 in
set_option maxHeartbeats 2000000 in
theorem renc_no (m : Mt) (w : World) (hm : ¬ MayM m) :
    Calls Tryz.prog 48 #[.agg m.cells.toArray] w fun e w' => e = .returned (.tuple #[.slice none 0 0, .int .i64 1]) ∧ Below w.heap.size w w' := by
  have HM : Hid (∀ w, Calls Tryz.prog 69 #[.agg m.cells.toArray] w fun e w' => e = .returned (.bool false) ∧ Below w.heap.size w w') := fun w => by
    have h := rmay_any m w
    rw [decide_eq_false hm] at h
    exact h
  obtain ⟨p, r, t⟩ := m
  simp only [Mt.cells] at HM ⊢
  have HB := hide (below_new w (.cells #[.int .i64 p, .int .i64 r, .int .u64 (t : Int)] 32))
  clear hm
  go_enter Tryz.func48, Tryz.ntmps48
  go_wp2_with fail
  refine (HM.out _).mono ?_
  rintro e w1 ⟨rfl, hb1⟩
  have HB1 := hide (Below.next HB.out hb1)
  clear hb1
  go_wp2_with fail
  go_ret2
  exact ⟨rfl, HB1.out⟩

set_option maxRecDepth 100000 in
set_option maxHeartbeats 2000000 in
theorem renc_ok (m : Mt) (w : World) (hm : MayM m) (hx : m.txid < 18446744073709551616) :
    Calls Tryz.prog 48 #[.agg m.cells.toArray] w fun e w' => ∃ g cap, e = .returned (.tuple #[.slice (some ⟨g, 0, none⟩) 512 cap, .int .i64 0]) ∧ w'.ownsRow w.heap.size 5 1 (.slice (some ⟨g, 0, none⟩) 512 cap) 512 (u8s (mpage m)) ∧ Below w.heap.size w w' := by
  have HM : Hid (∀ w, Calls Tryz.prog 69 #[.agg m.cells.toArray] w fun e w' => e = .returned (.bool true) ∧ Below w.heap.size w w') := fun w => by
    have h := rmay_any m w
    rw [decide_eq_true hm] at h
    exact h
  obtain ⟨p, r, t⟩ := m
  obtain ⟨⟨hp1, hp2⟩, hr⟩ := hm
  simp only at hp1 hp2 hr hx
  obtain ⟨p, rfl⟩ := Int.eq_ofNat_of_zero_le (show 0 ≤ p by omega)
  obtain ⟨r, rfl⟩ := Int.eq_ofNat_of_zero_le (show 0 ≤ r by omega)
  simp only [Mt.cells] at HM ⊢
  have HX := hide (boxed_new w #[.int .i64 (p : Int), .int .i64 (r : Int), .int .u64 (t : Int)] 32)
  have HB := hide (below_new w (.cells #[.int .i64 (p : Int), .int .i64 (r : Int), .int .u64 (t : Int)] 32))
  have HW0 : Hid (∀ w, Calls Tryz.prog 70 #[.agg #[.int .i64 (p : Int), .int .i64 (r : Int), .int .u64 (t : Int)], .int .u32 0] w fun e w' => ∃ g cap, e = .returned (.slice (some ⟨g, 0, none⟩) 512 cap) ∧ w'.ownsRow w.heap.size 5 1 (.slice (some ⟨g, 0, none⟩) 512 cap) 512 (u8s (mbare p r t 0)) ∧ Below w.heap.size w w') := fun w => written_any p r t 0 w (by omega) (by omega) hx (by decide)
  obtain ⟨cv, hcv⟩ : ∃ cv, cv = crcV (mbare p r t 0) := ⟨_, rfl⟩
  have hcb : cv < 4294967296 := by rw [hcv]; exact nt_lt _
  have HW1 : Hid (∀ w, Calls Tryz.prog 70 #[.agg #[.int .i64 (p : Int), .int .i64 (r : Int), .int .u64 (t : Int)], .int .u32 (cv : Int)] w fun e w' => ∃ g cap, e = .returned (.slice (some ⟨g, 0, none⟩) 512 cap) ∧ w'.ownsRow w.heap.size 5 1 (.slice (some ⟨g, 0, none⟩) 512 cap) 512 (u8s (mbare p r t cv)) ∧ Below w.heap.size w w') := fun w => written_any p r t cv w (by omega) (by omega) hx hcb
  have HPG : Hid (mpage ⟨(p : Int), (r : Int), t⟩ = mbare p r t cv) := by show _ = _; rw [hcv]; rfl
  have HCR : Hid (∀ w v, Rd w v (mbare p r t 0) → Calls Tryz.prog 71 #[v] w fun e w' => e = .returned (.int .u32 (cv : Int)) ∧ w = w') := fun w v h => by
    rw [hcv]; exact ref_rd v _ w (by rw [mbare_len]; decide) h
  clear hp1 hp2 hr hx hcv hcb
  go_enter Tryz.func48, Tryz.ntmps48
  go_wp2_with fail
  refine (HM.out _).mono ?_
  rintro e w1 ⟨rfl, hb1⟩
  have HB1 := hide (Below.next HB.out hb1)
  have HX1 := hide (HX.out.below hb1)
  have c0 := HX1.out.2 0 (by simp)
  have c1 := HX1.out.2 1 (by simp)
  have c2 := HX1.out.2 2 (by simp)
  simp only [List.getElem_cons_zero, List.getElem_cons_succ] at c0 c1 c2
  clear hb1 HB HX
  go_wp2_with fail
  refine (HW0.out _).mono ?_
  rintro e w2 ⟨g2, cap2, rfl, ho2, hb2⟩
  have HRD := hide (rd_of_owns ho2)
  have HB2 := hide (Below.next HB1.out hb2)
  have HX2 := hide (HX1.out.below hb2)
  clear c0 c1 c2
  have c0 := HX2.out.2 0 (by simp)
  have c1 := HX2.out.2 1 (by simp)
  have c2 := HX2.out.2 2 (by simp)
  simp only [List.getElem_cons_zero, List.getElem_cons_succ] at c0 c1 c2
  clear ho2 hb2 HX1 HB1
  go_wp2_with fail
  refine (HCR.out _ _ HRD.out).mono ?_
  rintro e w' ⟨rfl, rfl⟩
  go_wp2_with fail
  refine (HW1.out _).mono ?_
  rintro e w3 ⟨g3, cap3, rfl, ho3, hb3⟩
  have HO3 := hide ho3
  have HB3 := hide (Below.next HB2.out hb3)
  have HSZ := hide HB2.out.size
  clear ho3 hb3 c0 c1 c2
  go_wp2_with fail
  go_ret2
  refine ⟨g3, cap3, rfl, ?_, HB3.out⟩
  rw [HPG.out]
  exact owns_base HO3.out HSZ.out

set_option maxHeartbeats 400000 in
theorem rslot_any (t : Nat) (w : World) (ht : t < 18446744073709551616) : Calls Tryz.prog 49 #[.int .u64 (t : Int)] w fun e w' => e = .returned (.int .i64 ((t % 2 : Nat) : Int)) ∧ w = w' := by
  go_enter Tryz.func49, Tryz.ntmps49
  go_wp2
  go_ret
  exact ⟨rfl, rfl⟩

end Go.Proofs.YtlopimdnjookeabGreatDoor
