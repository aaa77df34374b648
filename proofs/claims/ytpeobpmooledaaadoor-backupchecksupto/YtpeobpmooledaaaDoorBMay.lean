import Derived.Test.YtpeobpmooledaaaDoorBHas
import Derived.Test.YtpeobpmooledaaaDoorGO
namespace Go.Proofs.YtpeobpmooledaaaDoor
open Go.RowKit Go.Maps
attribute [local go_sem ↓] Go.wp_at_zero Go.wp_at_succ

set_option maxHeartbeats 16000000 in
theorem bmay_any (A : Nat → Addr) (a : Ar) (vi vp : Value) (w : World) (hf : ArFit a) (he : EB A w) (hr : ArR w a vi vp) :
    Calls Tryd.prog 9 #[.agg (arC a vi vp)] w fun e w' => e = .returned (.bool (mayD a)) ∧ Below w.heap.size w w' := by
  obtain ⟨W1, hW1⟩ : ∃ W1, w.alloc (.cells (arC a vi vp) 29) = W1 := ⟨_, rfl⟩
  have x1 : RowAt W1 w.heap.size (arC a vi vp) 29 := by rw [← hW1]; exact arC_row _ _ _ _
  have hb1 : Below w.heap.size w W1 := by rw [← hW1]; exact below_new w _
  have HX := hide x1
  have HB1 := hide hb1
  have HEB := hide (he.below hb1)
  have HR := hide (hr.below hb1)
  have HW : Hid (w.alloc (.cells #[.int .i64 a.pg, .int .i64 a.rt, .int .u64 (a.tx : Int), .int .u64 (a.si : Int), vi, vp, .int .u32 (a.sum : Int)] 29) = W1) := hW1
  have q0 := x1.a0
  have q1 := x1.a1
  have q2 := x1.a2
  have HF := hide hf
  obtain ⟨Q, hQ⟩ : ∃ Q : Ending → World → Prop, Q = fun e w' => e = .returned (.bool (mayD a)) ∧ Below w.heap.size w w' := ⟨_, rfl⟩
  rw [← hQ]
  have HQ := hide hQ
  have HP := hide (fun W (hb : Below W1.heap.size W1 W) => bpages_any a vi vp W HF.out (HR.out.below hb).ids)
  have HC := hide (fun W (hb : Below W1.heap.size W1 W) => bparcs_any A a vi vp W HF.out (HEB.out.below hb) (HR.out.below hb).pcs)
  have HH := hide (fun W (hb : Below W1.heap.size W1 W) => bhas_any a vi vp W HF.out (HR.out.below hb))
  unfold arC at HP HC HH
  clear hQ hW1 hb1 x1 hf he hr
  by_cases hm : M.MayM ⟨a.pg, a.rt, a.tx⟩
  · have HE := hide (M.encode_ok ⟨a.pg, a.rt, a.tx⟩ W1 hm HF.out.tx HEB.out.tab)
    have HV : Hid (mayD a = (decide (a.si ≤ a.tx) && pgOk 2 a.pg a.ids && pcOk a.si a.tx 2 a.pcs && hasD a)) := by show _ = _; unfold mayD; rw [decide_eq_true hm]; simp
    unfold arC
    go_enter Tryd.func9, Tryd.ntmps9
    go_wp2_with fail
    rw [HW.out]
    go_wp2_with fail
    refine HE.out.mono ?_
    rintro e W2 ⟨g, rfl, -, -, hb2⟩
    have HB2 := hide (Below.next HB1.out hb2)
    have HBW := hide hb2
    have HX2 := hide (HX.out.below hb2)
    have p0 := HX2.out.a0
    have p1 := HX2.out.a1
    have p2 := HX2.out.a2
    have p3 := HX2.out.a3
    have p4 := HX2.out.a4
    have p5 := HX2.out.a5
    have p6 := HX2.out.a6
    clear q0 q1 q2 hb2 HE hm HW HX HB1
    by_cases h1 : a.si ≤ a.tx
    · have h1I : (a.si : Int) ≤ (a.tx : Int) := by omega
      have HV1 : Hid (mayD a = (pgOk 2 a.pg a.ids && pcOk a.si a.tx 2 a.pcs && hasD a)) := by show _ = _; rw [HV.out, decide_eq_true h1]; simp
      clear HV
      go_wp2_with fail
      refine (HP.out W2 HBW.out).mono ?_
      rintro e W3 ⟨rfl, hb3⟩
      clear p0 p1 p2 p3 p4 p5 p6
      have HB3 := hide (Below.next HB2.out hb3)
      have HBW3 := hide (Below.next HBW.out hb3)
      have HX3 := hide (HX2.out.below hb3)
      clear hb3 HP HX2 HB2 HBW
      cases hpg : pgOk 2 a.pg a.ids with
      | false =>
        have HVV : Hid (mayD a = false) := by show _ = _; rw [HV1.out, hpg]; simp
        clear hpg HV1
        go_wp2_with fail
        rw [HQ.out, HVV.out]
        exact ⟨rfl, HB3.out⟩
      | true =>
        have HV2 : Hid (mayD a = (pcOk a.si a.tx 2 a.pcs && hasD a)) := by show _ = _; rw [HV1.out, hpg]; simp
        have p0 := HX3.out.a0
        have p1 := HX3.out.a1
        have p2 := HX3.out.a2
        have p3 := HX3.out.a3
        have p4 := HX3.out.a4
        have p5 := HX3.out.a5
        have p6 := HX3.out.a6
        clear hpg HV1
        go_wp2_with fail
        refine (HC.out W3 HBW3.out).mono ?_
        rintro e W4 ⟨rfl, hb4⟩
        clear p0 p1 p2 p3 p4 p5 p6
        have HB4 := hide (Below.next HB3.out hb4)
        have HBW4 := hide (Below.next HBW3.out hb4)
        have HX4 := hide (HX3.out.below hb4)
        clear hb4 HC HX3 HB3 HBW3
        cases hpc : pcOk a.si a.tx 2 a.pcs with
        | false =>
          have HVV : Hid (mayD a = false) := by show _ = _; rw [HV2.out, hpc]; simp
          clear hpc HV2
          go_wp2_with fail
          rw [HQ.out, HVV.out]
          exact ⟨rfl, HB4.out⟩
        | true =>
          have HV3 : Hid (mayD a = hasD a) := by show _ = _; rw [HV2.out, hpc]; simp
          have p0 := HX4.out.a0
          have p1 := HX4.out.a1
          have p2 := HX4.out.a2
          have p3 := HX4.out.a3
          have p4 := HX4.out.a4
          have p5 := HX4.out.a5
          have p6 := HX4.out.a6
          clear hpc HV2
          go_wp2_with fail
          refine (HH.out W4 HBW4.out).mono ?_
          rintro e W5 ⟨rfl, hb5⟩
          have HB5 := hide (Below.next HB4.out hb5)
          clear p0 p1 p2 p3 p4 p5 p6 hb5
          go_wp2_with fail
          rw [HQ.out, HV3.out]
          exact ⟨rfl, HB5.out⟩
    · have h1I : ¬ (a.si : Int) ≤ (a.tx : Int) := by omega
      have HVV : Hid (mayD a = false) := by show _ = _; rw [HV.out, decide_eq_false h1]; simp
      go_wp2_with fail
      rw [HQ.out, HVV.out]
      exact ⟨rfl, HB2.out⟩
  · have HE := hide (M.encode_no (A 0) ⟨a.pg, a.rt, a.tx⟩ W1 hm HEB.out.arg)
    have HVV : Hid (mayD a = false) := by show _ = _; unfold mayD; rw [decide_eq_false hm]; simp
    unfold arC
    go_enter Tryd.func9, Tryd.ntmps9
    go_wp2_with fail
    rw [HW.out]
    go_wp2_with fail
    refine HE.out.mono ?_
    rintro e W2 ⟨rfl, hb2⟩
    have HB2 := hide (Below.next HB1.out hb2)
    clear q0 q1 q2 hb2 HE hm HW HX HB1
    go_wp2_with fail
    rw [HQ.out, HVV.out]
    exact ⟨rfl, HB2.out⟩
end Go.Proofs.YtpeobpmooledaaaDoor
