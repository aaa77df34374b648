import Derived.Test.YtkdmocnjpajfkaaDoorDLaw
namespace Go.Proofs.YtkdmocnjpajfkaaDoor
open Go.RowKit
attribute [local go_sem ↓] Go.wp_at_zero Go.wp_at_succ

set_option maxHeartbeats 8000000 in
theorem chain_any (A : Nat → Addr) (va vb vc : Value) (la lb lc : List Pr) (w : World) (hE : ErrsG 2 gLO A w) (hA : PrR w va la) (hB : PrR w vb lb) (hC : PrR w vc lc) (oa : OkL la) (ob : OkL lb) (oc : OkL lc) (na : la.length ≤ 1048576) (nb : lb.length ≤ 1048576) (nc : lc.length ≤ 1048576) :
    Calls Tryd.prog 3 #[.agg #[va, vb, vc]] w fun e w' => e = .returned (.bool true) ∧ Below w.heap.size w w' := by
  obtain ⟨a1, c1, rfl⟩ : ∃ a1 c1, va = .slice a1 la.length c1 := by obtain ⟨x, y, h, _⟩ := hA; exact ⟨x, y, h⟩
  obtain ⟨a2, c2, rfl⟩ : ∃ a2 c2, vb = .slice a2 lb.length c2 := by obtain ⟨x, y, h, _⟩ := hB; exact ⟨x, y, h⟩
  obtain ⟨a3, c3, rfl⟩ : ∃ a3 c3, vc = .slice a3 lc.length c3 := by obtain ⟨x, y, h, _⟩ := hC; exact ⟨x, y, h⟩
  obtain ⟨n1, hn1⟩ : ∃ n, n = la.length := ⟨_, rfl⟩
  obtain ⟨n2, hn2⟩ : ∃ n, n = lb.length := ⟨_, rfl⟩
  obtain ⟨n3, hn3⟩ : ∃ n, n = lc.length := ⟨_, rfl⟩
  rw [← hn1] at hA ⊢
  rw [← hn2] at hB ⊢
  rw [← hn3] at hC ⊢
  obtain ⟨v1, hv1⟩ : ∃ v, v = Value.slice a1 n1 c1 := ⟨_, rfl⟩
  obtain ⟨W1, hW1⟩ : ∃ W1, w.alloc (.cells #[.slice a1 n1 c1, .slice a2 n2 c2, .slice a3 n3 c3] 24) = W1 := ⟨_, rfl⟩
  have hb1 : Below w.heap.size w W1 := by rw [← hW1]; exact (Below.refl _ w).alloc (Nat.le_refl _) _
  have hbox : ∀ i (v : Value), #[Value.slice a1 n1 c1, .slice a2 n2 c2, .slice a3 n3 c3][i]? = some v → W1.cell? ⟨w.heap.size, i, none⟩ = some v := by
    intro i v hv
    rw [← hW1]
    obtain ⟨h, rfl⟩ := Array.getElem?_eq_some_iff.1 hv
    exact (boxed_new w _ 24).2 i h
  have k1 := hbox 0 _ rfl
  have k2 := hbox 1 _ rfl
  have k3 := hbox 2 _ rfl
  have HE := hide (hE.keep hb1)
  have HB1 := hide hb1
  have HK1 := hide k1
  have HK2 := hide k2
  have HK3 := hide k3
  have HA1 := hide (hA.below hb1)
  have HA2 := hide (hB.below hb1)
  have HA3 := hide (hC.below hb1)
  have HSA := hide (Sd.st oa na)
  have HSB := hide (Sd.st ob nb)
  have HSC := hide (Sd.st oc nc)
  have HOO := hide (And.intro oa (And.intro ob oc))
  have HNN := hide (And.intro na (And.intro nb nc))
  have HBG : Hid (Calls Tryd.prog 9 #[] W1 fun e w' => e = .returned (.bool true) ∧ Below W1.heap.size W1 w') := begun_any A W1 HE.out
  clear hE hA hB hC oa ob oc na nb nc hb1 hbox k1 k2 k3 hn1 hn2 hn3 hv1
  go_enter Tryd.func3, Tryd.ntmps3
  go_wp2_with fail
  refine HBG.out.mono ?_
  rintro e W2 ⟨rfl, hb2⟩
  have k1 := cell_bel hb2 HK1.out
  have k2 := cell_bel hb2 HK2.out
  have k3 := cell_bel hb2 HK3.out
  have HE2 := hide (HE.out.keep hb2)
  have HA1a := hide (HA1.out.below hb2)
  have HA2a := hide (HA2.out.below hb2)
  have HA3a := hide (HA3.out.below hb2)
  have HB2 := hide (Below.next HB1.out hb2)
  clear hb2 HBG HE HB1 HA1 HA2 HA3 HK1 HK2 HK3 hW1
  go_upto_region 3 with fail
  have HT1 : Hid (∀ V, Below W2.heap.size W2 V → Calls Tryd.prog 10 #[.slice a1 n1 c1] V fun e w' => ∃ x k, e = .returned (.slice x (stD la).length k) ∧ PrR w' (.slice x (stD la).length k) (stD la) ∧ Below V.heap.size V w') := fun V hV => state_st HOO.out.1 HNN.out.1 _ V (HA1a.out.below hV)
  have HT2 : Hid (∀ V, Below W2.heap.size W2 V → Calls Tryd.prog 10 #[.slice a2 n2 c2] V fun e w' => ∃ x k, e = .returned (.slice x (stD lb).length k) ∧ PrR w' (.slice x (stD lb).length k) (stD lb) ∧ Below V.heap.size V w') := fun V hV => state_st HOO.out.2.1 HNN.out.2.1 _ V (HA2a.out.below hV)
  have HT3 : Hid (∀ V, Below W2.heap.size W2 V → Calls Tryd.prog 10 #[.slice a3 n3 c3] V fun e w' => ∃ x k, e = .returned (.slice x (stD lc).length k) ∧ PrR w' (.slice x (stD lc).length k) (stD lc) ∧ Below V.heap.size V w') := fun V hV => state_st HOO.out.2.2 HNN.out.2.2 _ V (HA3a.out.below hV)
  go_region_held3 (fun w' => w'.cell? ⟨w.heap.size, 0, none⟩ = some (.slice a1 n1 c1) ∧ w'.cell? ⟨w.heap.size, 1, none⟩ = some (.slice a2 n2 c2) ∧ w'.cell? ⟨w.heap.size, 2, none⟩ = some (.slice a3 n3 c3)) (go_keep)
    (first
      | (have hq := HB7; clear hq; go_at_call 10; refine (HT3.out _ HB7.out).mono ?_; rintro e w8 ⟨x3, m3, rfl, hp8, hg⟩; have HB8 : Hid (Below W2.heap.size W2 w8) := Below.next HB7.out hg; have HP8 := hide hp8; have HP61 := hide (HP6.out.below (Below.next hg7.out hg)); have HP71 := hide (HP7.out.below hg); have z0 := cell_bel HB8.out k1; have z1 := cell_bel HB8.out k2; have z2 := cell_bel HB8.out k3; clear hg hp8)
      | (have hq := HB6; clear hq; go_at_call 10; refine (HT2.out _ HB6.out).mono ?_; rintro e w7 ⟨x2, m2, rfl, hp7, hg⟩; have HB7 : Hid (Below W2.heap.size W2 w7) := Below.next HB6.out hg; have hg7 := hide hg; have HP7 := hide hp7; have y0 := cell_bel HB7.out k1; have y1 := cell_bel HB7.out k2; have y2 := cell_bel HB7.out k3; clear hg hp7)
      | (go_at_call 10; refine (HT1.out _ ?_).mono ?_; (first | exact Below.refl _ _ | exact (Below.refl _ _).drew | exact below_drewN2 (Below.refl _ _) _); rintro e w6 ⟨x1, m1, rfl, hp6, hg⟩; have HB6 : Hid (Below W2.heap.size W2 w6) := ⟨hg.os, hg.tape, hg.output, hg.size, hg.block⟩; have HP6 := hide hp6; have z0 := cell_bel HB6.out k1; have z1 := cell_bel HB6.out k2; have z2 := cell_bel HB6.out k3; clear hg hp6))
  clear k1 k2 k3 HT1 HT2 HT3
  have HE := hide (HE2.out.keep HB8.out)
  have HB := hide (Below.next HB2.out HB8.out)
  have HPA := hide HP61.out
  have HPB := hide HP71.out
  have HPC := hide HP8.out
  clear HE2 HA1a HA2a HA3a HB2 HOO HNN HB6 HB7 HB8 HP6 HP7 HP8 HP61 HP71 hg7 z0 z1 z2 y0 y1 y2
  generalize stD la = sa at *
  generalize stD lb = sb at *
  generalize stD lc = sc at *
  go_wp2_with fail
  refine (lists_st HSA.out HSB.out _ _ _ HPA.out HPB.out _ ((HE.out).1 1 (by decide)).1).mono ?_
  rintro e V1 ⟨x1, m1, rfl, hp, hb⟩
  have HE_1 := hide (HE.out.keep hb)
  have HB_1 := hide (Below.next HB.out hb)
  have HPA_1 := hide (HPA.out.below hb)
  have HPB_1 := hide (HPB.out.below hb)
  have HPC_1 := hide (HPC.out.below hb)
  clear HE HB HPA HPB HPC
  have Hab_1 := hide hp
  clear hp hb
  go_wp2_with fail
  refine (lists_st HSB.out HSC.out _ _ _ HPB_1.out HPC_1.out _ ((HE_1.out).1 1 (by decide)).1).mono ?_
  rintro e V2 ⟨x2, m2, rfl, hp, hb⟩
  have HE_2 := hide (HE_1.out.keep hb)
  have HB_2 := hide (Below.next HB_1.out hb)
  have HPA_2 := hide (HPA_1.out.below hb)
  have HPB_2 := hide (HPB_1.out.below hb)
  have HPC_2 := hide (HPC_1.out.below hb)
  have Hab_2 := hide (Hab_1.out.below hb)
  clear HE_1 HB_1 HPA_1 HPB_1 HPC_1 Hab_1
  have Hbc_2 := hide hp
  clear hp hb
  go_wp2_with fail
  refine (lists_st HSA.out HSC.out _ _ _ HPA_2.out HPC_2.out _ ((HE_2.out).1 1 (by decide)).1).mono ?_
  rintro e V3 ⟨x3, m3, rfl, hp, hb⟩
  have HE_3 := hide (HE_2.out.keep hb)
  have HB_3 := hide (Below.next HB_2.out hb)
  have HPA_3 := hide (HPA_2.out.below hb)
  have HPB_3 := hide (HPB_2.out.below hb)
  have HPC_3 := hide (HPC_2.out.below hb)
  have Hab_3 := hide (Hab_2.out.below hb)
  have Hbc_3 := hide (Hbc_2.out.below hb)
  clear HE_2 HB_2 HPA_2 HPB_2 HPC_2 Hab_2 Hbc_2
  have Hac_3 := hide hp
  clear hp hb
  go_wp2_with fail
  refine (compose_st HSA.out HSB.out HSC.out _ _ _ Hab_3.out Hbc_3.out _ _ ((HE_3.out).1 1 (by decide)).1 ((HE_3.out).1 0 (by decide)).1).mono ?_
  rintro e V4 ⟨x4, m4, rfl, hp, hb⟩
  have HE_4 := hide (HE_3.out.keep hb)
  have HB_4 := hide (Below.next HB_3.out hb)
  have HPA_4 := hide (HPA_3.out.below hb)
  have HPB_4 := hide (HPB_3.out.below hb)
  have HPC_4 := hide (HPC_3.out.below hb)
  have Hab_4 := hide (Hab_3.out.below hb)
  have Hbc_4 := hide (Hbc_3.out.below hb)
  have Hac_4 := hide (Hac_3.out.below hb)
  clear HE_3 HB_3 HPA_3 HPB_3 HPC_3 Hab_3 Hbc_3 Hac_3
  have Hboth_4 := hide hp
  clear hp hb
  go_wp2_with fail
  refine (samec_same _ _ (listsD sa sc) _ (by have := HSA.out.lists HSC.out; omega) Hboth_4.out Hac_4.out).mono ?_
  rintro e V5 ⟨rfl, hb⟩
  have HE_5 := hide (HE_4.out.keep hb)
  have HB_5 := hide (Below.next HB_4.out hb)
  have HPA_5 := hide (HPA_4.out.below hb)
  have HPB_5 := hide (HPB_4.out.below hb)
  have HPC_5 := hide (HPC_4.out.below hb)
  have Hab_5 := hide (Hab_4.out.below hb)
  have Hbc_5 := hide (Hbc_4.out.below hb)
  have Hac_5 := hide (Hac_4.out.below hb)
  have Hboth_5 := hide (Hboth_4.out.below hb)
  clear HE_4 HB_4 HPA_4 HPB_4 HPC_4 Hab_4 Hbc_4 Hac_4 Hboth_4
  clear hb
  go_wp2_with fail
  refine (invert_st HSA.out HSB.out _ _ Hab_5.out).mono ?_
  rintro e V6 ⟨x6, m6, rfl, hp, hb⟩
  have HE_6 := hide (HE_5.out.keep hb)
  have HB_6 := hide (Below.next HB_5.out hb)
  have HPA_6 := hide (HPA_5.out.below hb)
  have HPB_6 := hide (HPB_5.out.below hb)
  have HPC_6 := hide (HPC_5.out.below hb)
  have Hab_6 := hide (Hab_5.out.below hb)
  have Hbc_6 := hide (Hbc_5.out.below hb)
  have Hac_6 := hide (Hac_5.out.below hb)
  have Hboth_6 := hide (Hboth_5.out.below hb)
  clear HE_5 HB_5 HPA_5 HPB_5 HPC_5 Hab_5 Hbc_5 Hac_5 Hboth_5
  have Hba_6 := hide hp
  clear hp hb
  go_wp2_with fail
  refine (compose_st HSA.out HSB.out HSA.out _ _ _ Hab_6.out Hba_6.out _ _ ((HE_6.out).1 1 (by decide)).1 ((HE_6.out).1 0 (by decide)).1).mono ?_
  rintro e V7 ⟨x7, m7, rfl, hp, hb⟩
  have HE_7 := hide (HE_6.out.keep hb)
  have HB_7 := hide (Below.next HB_6.out hb)
  have HPA_7 := hide (HPA_6.out.below hb)
  have HPB_7 := hide (HPB_6.out.below hb)
  have HPC_7 := hide (HPC_6.out.below hb)
  have Hab_7 := hide (Hab_6.out.below hb)
  have Hbc_7 := hide (Hbc_6.out.below hb)
  have Hac_7 := hide (Hac_6.out.below hb)
  have Hboth_7 := hide (Hboth_6.out.below hb)
  have Hba_7 := hide (Hba_6.out.below hb)
  clear HE_6 HB_6 HPA_6 HPB_6 HPC_6 Hab_6 Hbc_6 Hac_6 Hboth_6 Hba_6
  have Hnone_7 := hide hp
  clear hp hb
  have HZ : Hid ((listsD sa sa).length = 0) := by rw [lists_self HSA.out.kr]; exact rfl
  go_wp2_with fail
  refine (invert_st HSA.out HSC.out _ _ Hac_7.out).mono ?_
  rintro e V8 ⟨x8, m8, rfl, hp, hb⟩
  have HE_8 := hide (HE_7.out.keep hb)
  have HB_8 := hide (Below.next HB_7.out hb)
  have HPA_8 := hide (HPA_7.out.below hb)
  have HPB_8 := hide (HPB_7.out.below hb)
  have HPC_8 := hide (HPC_7.out.below hb)
  have Hab_8 := hide (Hab_7.out.below hb)
  have Hbc_8 := hide (Hbc_7.out.below hb)
  have Hac_8 := hide (Hac_7.out.below hb)
  have Hboth_8 := hide (Hboth_7.out.below hb)
  have Hba_8 := hide (Hba_7.out.below hb)
  have Hnone_8 := hide (Hnone_7.out.below hb)
  clear HE_7 HB_7 HPA_7 HPB_7 HPC_7 Hab_7 Hbc_7 Hac_7 Hboth_7 Hba_7 Hnone_7
  have Hca_8 := hide hp
  clear hp hb
  go_wp2_with fail
  refine (compose_st HSA.out HSC.out HSA.out _ _ _ Hboth_8.out Hca_8.out _ _ ((HE_8.out).1 1 (by decide)).1 ((HE_8.out).1 0 (by decide)).1).mono ?_
  rintro e V9 ⟨x9, m9, rfl, hp, hb⟩
  have HE_9 := hide (HE_8.out.keep hb)
  have HB_9 := hide (Below.next HB_8.out hb)
  have HPA_9 := hide (HPA_8.out.below hb)
  have HPB_9 := hide (HPB_8.out.below hb)
  have HPC_9 := hide (HPC_8.out.below hb)
  have Hab_9 := hide (Hab_8.out.below hb)
  have Hbc_9 := hide (Hbc_8.out.below hb)
  have Hac_9 := hide (Hac_8.out.below hb)
  have Hboth_9 := hide (Hboth_8.out.below hb)
  have Hba_9 := hide (Hba_8.out.below hb)
  have Hnone_9 := hide (Hnone_8.out.below hb)
  have Hca_9 := hide (Hca_8.out.below hb)
  clear HE_8 HB_8 HPA_8 HPB_8 HPC_8 Hab_8 Hbc_8 Hac_8 Hboth_8 Hba_8 Hnone_8 Hca_8
  have Hleft_9 := hide hp
  clear hp hb
  go_wp2_with fail
  refine (compose_st HSB.out HSC.out HSA.out _ _ _ Hbc_9.out Hca_9.out _ _ ((HE_9.out).1 1 (by decide)).1 ((HE_9.out).1 0 (by decide)).1).mono ?_
  rintro e V10 ⟨x10, m10, rfl, hp, hb⟩
  have HE_10 := hide (HE_9.out.keep hb)
  have HB_10 := hide (Below.next HB_9.out hb)
  have HPA_10 := hide (HPA_9.out.below hb)
  have HPB_10 := hide (HPB_9.out.below hb)
  have HPC_10 := hide (HPC_9.out.below hb)
  have Hab_10 := hide (Hab_9.out.below hb)
  have Hbc_10 := hide (Hbc_9.out.below hb)
  have Hac_10 := hide (Hac_9.out.below hb)
  have Hboth_10 := hide (Hboth_9.out.below hb)
  have Hba_10 := hide (Hba_9.out.below hb)
  have Hnone_10 := hide (Hnone_9.out.below hb)
  have Hca_10 := hide (Hca_9.out.below hb)
  have Hleft_10 := hide (Hleft_9.out.below hb)
  clear HE_9 HB_9 HPA_9 HPB_9 HPC_9 Hab_9 Hbc_9 Hac_9 Hboth_9 Hba_9 Hnone_9 Hca_9 Hleft_9
  have Hright_10 := hide hp
  clear hp hb
  go_wp2_with fail
  refine (compose_st HSA.out HSB.out HSA.out _ _ _ Hab_10.out Hright_10.out _ _ ((HE_10.out).1 1 (by decide)).1 ((HE_10.out).1 0 (by decide)).1).mono ?_
  rintro e V11 ⟨x11, m11, rfl, hp, hb⟩
  have HE_11 := hide (HE_10.out.keep hb)
  have HB_11 := hide (Below.next HB_10.out hb)
  have HPA_11 := hide (HPA_10.out.below hb)
  have HPB_11 := hide (HPB_10.out.below hb)
  have HPC_11 := hide (HPC_10.out.below hb)
  have Hab_11 := hide (Hab_10.out.below hb)
  have Hbc_11 := hide (Hbc_10.out.below hb)
  have Hac_11 := hide (Hac_10.out.below hb)
  have Hboth_11 := hide (Hboth_10.out.below hb)
  have Hba_11 := hide (Hba_10.out.below hb)
  have Hnone_11 := hide (Hnone_10.out.below hb)
  have Hca_11 := hide (Hca_10.out.below hb)
  have Hleft_11 := hide (Hleft_10.out.below hb)
  have Hright_11 := hide (Hright_10.out.below hb)
  clear HE_10 HB_10 HPA_10 HPB_10 HPC_10 Hab_10 Hbc_10 Hac_10 Hboth_10 Hba_10 Hnone_10 Hca_10 Hleft_10 Hright_10
  have Hwhole_11 := hide hp
  clear hp hb
  rw [HZ.out]
  go_wp2
  go_ret
  exact ⟨rfl, HB_11.out⟩
end Go.Proofs.YtkdmocnjpajfkaaDoor
