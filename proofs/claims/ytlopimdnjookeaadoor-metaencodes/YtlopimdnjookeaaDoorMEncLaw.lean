import Derived.Test.YtlopimdnjookeaaDoorRWrit
import Derived.Test.YtlopimdnjookeaaDoorMtEnc
import Derived.Test.YtlopimdnjookeaaDoorNum2
import Derived.Deep.QuietTactic
namespace Go.Proofs.YtlopimdnjookeaaDoor
open Go.RowKit

set_option maxRecDepth 100000 in
set_option maxHeartbeats 2000000 in
theorem renc_no (m : Mt) (w : World) (hm : ¬ MayM m) :
    Calls Tryd.prog 23 #[.agg m.cells.toArray] w fun e w' => e = .returned (.tuple #[.slice none 0 0, .int .i64 1]) ∧ Below w.heap.size w w' := by
  have HM : Hid (∀ w, Calls Tryd.prog 42 #[.agg m.cells.toArray] w fun e w' => e = .returned (.bool false) ∧ Below w.heap.size w w') := fun w => by
    have h := rmay_any m w
    rw [decide_eq_false hm] at h
    exact h
  obtain ⟨p, r, t⟩ := m
  simp only [Mt.cells] at HM ⊢
  have HB := hide (below_new w (.cells #[.int .i64 p, .int .i64 r, .int .u64 (t : Int)] 31))
  clear hm
  go_enter Tryd.func23, Tryd.ntmps23
  go_wp2_with fail
  refine (HM.out _).mono ?_
  rintro e w1 ⟨rfl, hb1⟩
  have HB1 := hide (Below.next HB.out hb1)
  clear hb1
  go_wp2_with fail
  go_ret2
  exact ⟨rfl, HB1.out⟩

set_option maxRecDepth 100000 in
set_option maxHeartbeats 2000000 in
theorem renc_ok (m : Mt) (w : World) (hm : MayM m) (hx : m.txid < 18446744073709551616) :
    Calls Tryd.prog 23 #[.agg m.cells.toArray] w fun e w' => ∃ g cap, e = .returned (.tuple #[.slice (some ⟨g, 0, none⟩) 512 cap, .int .i64 0]) ∧ w'.ownsRow w.heap.size 5 1 (.slice (some ⟨g, 0, none⟩) 512 cap) 512 (u8s (mpage m)) ∧ Below w.heap.size w w' := by
  have HM : Hid (∀ w, Calls Tryd.prog 42 #[.agg m.cells.toArray] w fun e w' => e = .returned (.bool true) ∧ Below w.heap.size w w') := fun w => by
    have h := rmay_any m w
    rw [decide_eq_true hm] at h
    exact h
  obtain ⟨p, r, t⟩ := m
  obtain ⟨⟨hp1, hp2⟩, hr⟩ := hm
  simp only at hp1 hp2 hr hx
  obtain ⟨p, rfl⟩ := Int.eq_ofNat_of_zero_le (show 0 ≤ p by omega)
  obtain ⟨r, rfl⟩ := Int.eq_ofNat_of_zero_le (show 0 ≤ r by omega)
  simp only [Mt.cells] at HM ⊢
  have HX := hide (boxed_new w #[.int .i64 (p : Int), .int .i64 (r : Int), .int .u64 (t : Int)] 31)
  have HB := hide (below_new w (.cells #[.int .i64 (p : Int), .int .i64 (r : Int), .int .u64 (t : Int)] 31))
  have HW0 : Hid (∀ w, Calls Tryd.prog 43 #[.agg #[.int .i64 (p : Int), .int .i64 (r : Int), .int .u64 (t : Int)], .int .u32 0] w fun e w' => ∃ g cap, e = .returned (.slice (some ⟨g, 0, none⟩) 512 cap) ∧ w'.ownsRow w.heap.size 5 1 (.slice (some ⟨g, 0, none⟩) 512 cap) 512 (u8s (mbare p r t 0)) ∧ Below w.heap.size w w') := fun w => written_any p r t 0 w (by omega) (by omega) hx (by decide)
  obtain ⟨cv, hcv⟩ : ∃ cv, cv = crcV (mbare p r t 0) := ⟨_, rfl⟩
  have hcb : cv < 4294967296 := by rw [hcv]; exact nt_lt _
  have HW1 : Hid (∀ w, Calls Tryd.prog 43 #[.agg #[.int .i64 (p : Int), .int .i64 (r : Int), .int .u64 (t : Int)], .int .u32 (cv : Int)] w fun e w' => ∃ g cap, e = .returned (.slice (some ⟨g, 0, none⟩) 512 cap) ∧ w'.ownsRow w.heap.size 5 1 (.slice (some ⟨g, 0, none⟩) 512 cap) 512 (u8s (mbare p r t cv)) ∧ Below w.heap.size w w') := fun w => written_any p r t cv w (by omega) (by omega) hx hcb
  have HPG : Hid (mpage ⟨(p : Int), (r : Int), t⟩ = mbare p r t cv) := by show _ = _; rw [hcv]; rfl
  have HCR : Hid (∀ w v, Rd w v (mbare p r t 0) → Calls Tryd.prog 44 #[v] w fun e w' => e = .returned (.int .u32 (cv : Int)) ∧ w = w') := fun w v h => by
    rw [hcv]; exact ref_rd v _ w (by rw [mbare_len]; decide) h
  clear hp1 hp2 hr hx hcv hcb
  go_enter Tryd.func23, Tryd.ntmps23
  go_wp2_with fail
  refine (HM.out _).mono ?_
  rintro e w1 ⟨rfl, hb1⟩
  have HB1 := hide (Below.next HB.out hb1)
  have HX1 := hide (HX.out.below hb1)
  have c0 := HX1.out.2 0 (by simp)
  have c1 := HX1.out.2 1 (by simp)
  have c2 := HX1.out.2 2 (by simp)
  simp only [List.getElem_cons_zero, List.getElem_cons_succ] at c0 c1 c2
  clear hb1 HB HX
  go_wp2_with fail
  refine (HW0.out _).mono ?_
  rintro e w2 ⟨g2, cap2, rfl, ho2, hb2⟩
  have HRD := hide (rd_of_owns ho2)
  have HB2 := hide (Below.next HB1.out hb2)
  have HX2 := hide (HX1.out.below hb2)
  clear c0 c1 c2
  have c0 := HX2.out.2 0 (by simp)
  have c1 := HX2.out.2 1 (by simp)
  have c2 := HX2.out.2 2 (by simp)
  simp only [List.getElem_cons_zero, List.getElem_cons_succ] at c0 c1 c2
  clear ho2 hb2 HX1 HB1
  go_wp2_with fail
  refine (HCR.out _ _ HRD.out).mono ?_
  rintro e w' ⟨rfl, rfl⟩
  go_wp2_with fail
  refine (HW1.out _).mono ?_
  rintro e w3 ⟨g3, cap3, rfl, ho3, hb3⟩
  have HO3 := hide ho3
  have HB3 := hide (Below.next HB2.out hb3)
  have HSZ := hide HB2.out.size
  clear ho3 hb3 c0 c1 c2
  go_wp2_with fail
  go_ret2
  refine ⟨g3, cap3, rfl, ?_, HB3.out⟩
  rw [HPG.out]
  exact owns_base HO3.out HSZ.out

set_option maxHeartbeats 400000 in
theorem rslot_any (t : Nat) (w : World) (ht : t < 18446744073709551616) : Calls Tryd.prog 24 #[.int .u64 (t : Int)] w fun e w' => e = .returned (.int .i64 ((t % 2 : Nat) : Int)) ∧ w = w' := by
  go_enter Tryd.func24, Tryd.ntmps24
  go_wp2
  go_ret
  exact ⟨rfl, rfl⟩

set_option maxRecDepth 100000 in
set_option maxHeartbeats 4000000 in
theorem encodes_any (A : Nat → Addr) (p r : Int) (t : Nat) (w : World) (hn : (⟨p, r, t⟩ : Mt).num) (hE : ErrsAt A w) (hT : Tab w) :
    Calls Tryd.prog 7 #[.agg #[.int .i64 p, .int .i64 r, .int .u64 (t : Int)]] w fun e w' => e = .returned (.bool true) ∧ Below w.heap.size w w' := by
  have ht : t < 18446744073709551616 := hn.2.2.2.2
  have HE := hide hE
  have HTB := hide hT
  have HX := hide (boxed_new w #[.int .i64 p, .int .i64 r, .int .u64 (t : Int)] 31)
  have HB := hide (below_new w (.cells #[.int .i64 p, .int .i64 r, .int .u64 (t : Int)] 31))
  obtain ⟨S, hS⟩ : ∃ S : Int, S = ((t % 2 : Nat) : Int) := ⟨_, rfl⟩
  have HSL : Hid (∀ w, Calls Tryd.prog 20 #[.int .u64 (t : Int)] w fun e w' => e = .returned (.int .i64 S) ∧ w' = w) := fun w => by
    rw [hS]; exact (slot_any t w ht).mono (fun e w' h => ⟨h.1, h.2.symm⟩)
  have HRS : Hid (∀ w, Calls Tryd.prog 24 #[.int .u64 (t : Int)] w fun e w' => e = .returned (.int .i64 S) ∧ w' = w) := fun w => by
    rw [hS]; exact (rslot_any t w ht).mono (fun e w' h => ⟨h.1, h.2.symm⟩)
  have HN0 : Hid (∀ w, Calls Tryd.prog 21 #[.nilIface] w fun e w' => e = .returned (.int .i64 0) ∧ w' = w) := fun w => (num_nil w).mono (fun e w' h => ⟨h.1, h.2.symm⟩)
  clear hn hE hT hS
  by_cases hm : MayM ⟨p, r, t⟩
  · have HEN : Hid (∀ w, Tab w → Calls Tryd.prog 18 #[.agg #[.int .i64 p, .int .i64 r, .int .u64 (t : Int)]] w fun e w' => ∃ g, e = .returned (.tuple #[.slice (some ⟨g, 0, none⟩) 512 512, .nilIface]) ∧ RowT 5 w' g (mpage ⟨p, r, t⟩) ∧ w.heap.size ≤ g ∧ Below w.heap.size w w') := fun w h => encode_ok ⟨p, r, t⟩ w hm ht h
    have HRN : Hid (∀ w, Calls Tryd.prog 23 #[.agg #[.int .i64 p, .int .i64 r, .int .u64 (t : Int)]] w fun e w' => ∃ g cap, e = .returned (.tuple #[.slice (some ⟨g, 0, none⟩) 512 cap, .int .i64 0]) ∧ w'.ownsRow w.heap.size 5 1 (.slice (some ⟨g, 0, none⟩) 512 cap) 512 (u8s (mpage ⟨p, r, t⟩)) ∧ Below w.heap.size w w') := fun w => renc_ok ⟨p, r, t⟩ w hm ht
    have HPL := hide (mpage_len ⟨p, r, t⟩)
    clear hm
    go_enter Tryd.func7, Tryd.ntmps7
    go_wp2_with fail
    generalize w.alloc (.cells #[.int .i64 p, .int .i64 r, .int .u64 (t : Int)] 31) = W0 at *
    refine (HEN.out _ (HTB.out.below HB.out)).mono ?_
    rintro e w1 ⟨g1, rfl, hr1, hg1, hb1⟩
    have HX1 := hide (HX.out.below hb1)
    have c0 := HX1.out.2 0 (by simp)
    have c1 := HX1.out.2 1 (by simp)
    have c2 := HX1.out.2 2 (by simp)
    simp only [List.getElem_cons_zero, List.getElem_cons_succ] at c0 c1 c2
    have HR1 := hide hr1
    have HB1 := hide (Below.next HB.out hb1)
    clear hr1 hg1 hb1 HX HB
    go_wp2_with fail
    refine (HRN.out _).mono ?_
    rintro e w2 ⟨g2, cap2, rfl, ho2, hb2⟩
    have HR2 := hide (HR1.out.below hb2)
    have HO2 := hide (rd_of_owns ho2)
    have HB2 := hide (Below.next HB1.out hb2)
    have HX2 := hide (HX1.out.below hb2)
    clear ho2 hb2 c0 c1 c2 HR1 HB1 HX1
    go_wp2_with fail
    have SM := same_any (.slice (some ⟨g1, 0, none⟩) 512 512) (.slice (some ⟨g2, 0, none⟩) 512 cap2) (mpage ⟨p, r, t⟩) (mpage ⟨p, r, t⟩) w2 (by rw [HPL.out]; decide) (by rw [HPL.out]; decide) (rda_row HR2.out HPL.out 512) HO2.out.any
    rw [decide_eq_true rfl] at SM
    refine SM.mono ?_
    rintro e w3 ⟨rfl, hb3⟩
    have HB3 := hide (Below.next HB2.out hb3)
    have HX3 := HX2.out.below hb3
    have d2 := HX3.2 2 (by simp)
    simp only [List.getElem_cons_zero, List.getElem_cons_succ] at d2
    clear hb3 HX3 HX2 HB2 HR2 HO2 SM
    go_wp2_with fail
    go_quiet (first | (go_at_call 21; exact Calls.quiet_of_same (HN0.out _)) | (go_at_call 20; exact Calls.quiet_of_same (HSL.out _)) | (go_at_call 24; exact Calls.quiet_of_same (HRS.out _)))
    go_wp2_with fail
    go_ret
    exact ⟨rfl, below_drewN HB3.out _⟩
  · have HEN : Hid (∀ w, w.cell? ⟨0, 0, none⟩ = some (.iface 108 (.pointer (some (A 0)))) → Calls Tryd.prog 18 #[.agg #[.int .i64 p, .int .i64 r, .int .u64 (t : Int)]] w fun e w' => e = .returned (.tuple #[.slice none 0 0, .iface 108 (.pointer (some (A 0)))]) ∧ Below w.heap.size w w') := fun w h => encode_no (A 0) ⟨p, r, t⟩ w hm h
    have HRN : Hid (∀ w, Calls Tryd.prog 23 #[.agg #[.int .i64 p, .int .i64 r, .int .u64 (t : Int)]] w fun e w' => e = .returned (.tuple #[.slice none 0 0, .int .i64 1]) ∧ Below w.heap.size w w') := fun w => renc_no ⟨p, r, t⟩ w hm
    clear hm
    go_enter Tryd.func7, Tryd.ntmps7
    go_wp2_with fail
    generalize w.alloc (.cells #[.int .i64 p, .int .i64 r, .int .u64 (t : Int)] 31) = W0 at *
    refine (HEN.out _ ((HE.out.below HB.out).1 0 (by decide)).1).mono ?_
    rintro e w1 ⟨rfl, hb1⟩
    have HX1 := hide (HX.out.below hb1)
    have c0 := HX1.out.2 0 (by simp)
    have c1 := HX1.out.2 1 (by simp)
    have c2 := HX1.out.2 2 (by simp)
    simp only [List.getElem_cons_zero, List.getElem_cons_succ] at c0 c1 c2
    have HB1 := hide (Below.next HB.out hb1)
    clear hb1 HX HB
    go_wp2_with fail
    refine (HRN.out _).mono ?_
    rintro e w2 ⟨rfl, hb2⟩
    have HB2 := hide (Below.next HB1.out hb2)
    have HX2 := hide (HX1.out.below hb2)
    clear hb2 c0 c1 c2 HB1 HX1
    go_wp2_with fail
    have SM := same_any (.slice none 0 0) (.slice none 0 0) [] [] w2 (by decide) (by decide) ⟨none, 0, rfl, fun j h => by simp at h⟩ ⟨none, 0, rfl, fun j h => by simp at h⟩
    rw [decide_eq_true rfl] at SM
    refine SM.mono ?_
    rintro e w3 ⟨rfl, hb3⟩
    have HB3 := hide (Below.next HB2.out hb3)
    have HX3 := HX2.out.below hb3
    have d2 := HX3.2 2 (by simp)
    simp only [List.getElem_cons_zero, List.getElem_cons_succ] at d2
    have HN1 : Hid (∀ w, ErrsAt A w → Calls Tryd.prog 21 #[.iface 108 (.pointer (some (A 0)))] w fun e w' => e = .returned (.int .i64 1) ∧ w' = w) := fun w h => (num_arg A w h).mono (fun e w' h => ⟨h.1, h.2.symm⟩)
    have HE3 : Hid (∀ n, ErrsAt A (w3.drewN n)) := fun n => HE.out.below (below_drewN HB3.out n)
    clear hb3 HX3 HX2 HB2 SM
    go_wp2_with fail
    go_quiet (first | (go_at_call 21; exact Calls.quiet_of_same (HN1.out _ (HE3.out _))) | (go_at_call 20; exact Calls.quiet_of_same (HSL.out _)) | (go_at_call 24; exact Calls.quiet_of_same (HRS.out _)))
    go_wp2_with fail
    go_ret
    exact ⟨rfl, below_drewN HB3.out _⟩

end Go.Proofs.YtlopimdnjookeaaDoor
