import Derived.Test.YtkdmocnjpajfkaaDoorDLaw2
namespace Go.Proofs.YtkdmocnjpajfkaaDoor
open Go.RowKit
attribute [local go_sem ↓] Go.wp_at_zero Go.wp_at_succ

set_option maxRecDepth 100000 in
set_option maxHeartbeats 16000000 in
theorem back_any (A : Nat → Addr) (va vb vl vm : Value) (la lb : List Pr) (w : World) (hE : ErrsG 2 gLO A w) (hA : PrR w va la) (hB : PrR w vb lb) (oa : OkL la) (ob : OkL lb) (na : la.length ≤ 1048576) (nb : lb.length ≤ 1048576) :
    Calls Tryd.prog 5 #[.agg #[va, vb, vl, vm]] w fun e w' => e = .returned (.bool true) ∧ Below w.heap.size w w' := by
  obtain ⟨a1, c1, rfl⟩ : ∃ a1 c1, va = .slice a1 la.length c1 := by obtain ⟨x, y, h, _⟩ := hA; exact ⟨x, y, h⟩
  obtain ⟨a2, c2, rfl⟩ : ∃ a2 c2, vb = .slice a2 lb.length c2 := by obtain ⟨x, y, h, _⟩ := hB; exact ⟨x, y, h⟩
  obtain ⟨n1, hn1⟩ : ∃ n, n = la.length := ⟨_, rfl⟩
  obtain ⟨n2, hn2⟩ : ∃ n, n = lb.length := ⟨_, rfl⟩
  rw [← hn1] at hA ⊢
  rw [← hn2] at hB ⊢
  obtain ⟨W1, hW1⟩ : ∃ W1, w.alloc (.cells #[.slice a1 n1 c1, .slice a2 n2 c2, vl, vm] 37) = W1 := ⟨_, rfl⟩
  have hb1 : Below w.heap.size w W1 := by rw [← hW1]; exact (Below.refl _ w).alloc (Nat.le_refl _) _
  have hbox : ∀ i (v : Value), #[Value.slice a1 n1 c1, .slice a2 n2 c2, vl, vm][i]? = some v → W1.cell? ⟨w.heap.size, i, none⟩ = some v := by
    intro i v hv
    rw [← hW1]
    obtain ⟨h, rfl⟩ := Array.getElem?_eq_some_iff.1 hv
    exact (boxed_new w _ 37).2 i h
  have k1 := hbox 0 _ rfl
  have k2 := hbox 1 _ rfl
  have HE := hide (hE.keep hb1)
  have HB := hide hb1
  have HK1 := hide k1
  have HK2 := hide k2
  have HA1 := hide (hA.below hb1)
  have HA2 := hide (hB.below hb1)
  have HSA := hide (Sd.st oa na)
  have HSB := hide (Sd.st ob nb)
  have HOO := hide (And.intro oa ob)
  have HNN := hide (And.intro na nb)
  obtain ⟨Q, hQ⟩ : ∃ Q : Ending → World → Prop, Q = fun e w' => e = .returned (.bool true) ∧ Below w.heap.size w w' := ⟨_, rfl⟩
  rw [← hQ]
  have HQ := hide hQ
  clear hQ hE hA hB oa ob na nb hb1 hbox k1 k2 hn1 hn2
  go_enter Tryd.func5, Tryd.ntmps5
  go_wp2_with fail
  refine (begun_any A W1 HE.out).mono ?_
  rintro e V1 ⟨rfl, hb⟩
  have k1 := cell_bel hb HK1.out
  have k2 := cell_bel hb HK2.out
  have hk2 := hb
  have HE_1 := hide (HE.out.keep hb)
  have HB_1 := hide (Below.next HB.out hb)
  have HA1_1 := hide (HA1.out.below hb)
  have HA2_1 := hide (HA2.out.below hb)
  clear HE HB HA1 HA2
  clear hb HK1 HK2 hW1
  have HK2 := hide k2
  clear k2 hk2
  go_wp2_with fail
  refine (state_st HOO.out.1 HNN.out.1 _ _ HA1_1.out).mono ?_
  rintro e V2 ⟨x2, m2, rfl, hp, hb⟩
  clear k1
  have k2 := cell_bel hb HK2.out
  have HE_2 := hide (HE_1.out.keep hb)
  have HB_2 := hide (Below.next HB_1.out hb)
  have HA1_2 := hide (HA1_1.out.below hb)
  have HA2_2 := hide (HA2_1.out.below hb)
  clear HE_1 HB_1 HA1_1 HA2_1
  have HPA_2 := hide hp
  clear hp hb
  go_wp2_with fail
  refine (state_st HOO.out.2 HNN.out.2 _ _ HA2_2.out).mono ?_
  rintro e V3 ⟨x3, m3, rfl, hp, hb⟩
  clear k2 HK2
  have HE_3 := hide (HE_2.out.keep hb)
  have HB_3 := hide (Below.next HB_2.out hb)
  have HA1_3 := hide (HA1_2.out.below hb)
  have HA2_3 := hide (HA2_2.out.below hb)
  have HPA_3 := hide (HPA_2.out.below hb)
  clear HE_2 HB_2 HA1_2 HA2_2 HPA_2
  have HPB_3 := hide hp
  clear hp hb
  generalize stD la = sa at *
  generalize stD lb = sb at *
  clear HA1_3
  clear HA2_3
  clear HOO HNN
  go_wp2_with fail
  refine (lpairs_st HSA.out _ _ HPA_3.out).mono ?_
  rintro e V4 ⟨x4, m4, rfl, hp, hb⟩
  have HE_4 := hide (HE_3.out.keep hb)
  have HB_4 := hide (Below.next HB_3.out hb)
  have HPA_4 := hide (HPA_3.out.below hb)
  have HPB_4 := hide (HPB_3.out.below hb)
  clear HE_3 HB_3 HPA_3 HPB_3
  have HQA_4 := hide hp
  clear hp hb
  go_wp2_with fail
  refine (lpairs_st HSB.out _ _ HPB_4.out).mono ?_
  rintro e V5 ⟨x5, m5, rfl, hp, hb⟩
  have HE_5 := hide (HE_4.out.keep hb)
  have HB_5 := hide (Below.next HB_4.out hb)
  have HPA_5 := hide (HPA_4.out.below hb)
  have HPB_5 := hide (HPB_4.out.below hb)
  have HQA_5 := hide (HQA_4.out.below hb)
  clear HE_4 HB_4 HPA_4 HPB_4 HQA_4
  have HQB_5 := hide hp
  clear hp hb
  go_wp2_with fail
  refine (lists_st HSA.out HSB.out _ _ _ HQA_5.out HQB_5.out _ ((HE_5.out).1 1 (by decide)).1).mono ?_
  rintro e V6 ⟨x6, m6, rfl, hp, hb⟩
  have HE_6 := hide (HE_5.out.keep hb)
  have HB_6 := hide (Below.next HB_5.out hb)
  have HPA_6 := hide (HPA_5.out.below hb)
  have HPB_6 := hide (HPB_5.out.below hb)
  have HQA_6 := hide (HQA_5.out.below hb)
  have HQB_6 := hide (HQB_5.out.below hb)
  clear HE_5 HB_5 HPA_5 HPB_5 HQA_5 HQB_5
  have Hab_6 := hide hp
  clear hp hb
  clear HQA_6
  clear HQB_6
  go_wp2_with fail
  refine (clean_st HSA.out HSB.out _ _ Hab_6.out).mono ?_
  rintro e V7 ⟨rfl, hb⟩
  have HE_7 := hide (HE_6.out.keep hb)
  have HB_7 := hide (Below.next HB_6.out hb)
  have HPA_7 := hide (HPA_6.out.below hb)
  have HPB_7 := hide (HPB_6.out.below hb)
  have Hab_7 := hide (Hab_6.out.below hb)
  clear HE_6 HB_6 HPA_6 HPB_6 Hab_6
  clear hb
  obtain ⟨n, hn⟩ : ∃ n, n = (listsD sa sb).length := ⟨_, rfl⟩
  have HNL := hide hn
  have HAB := hide Hab_7.out
  rw [← hn] at HAB ⊢
  clear Hab_7
  have hm : n ≤ 140737488355328 := by have := HSA.out.lists HSB.out; omega
  clear hn
  go_wp2
  go_loopw [7] (fun i wr => ∃ (q : Nat), q ≤ n ∧ i = .int .i64 (q : Int) ∧ Below V7.heap.size V7 wr) (fun i _ => n - (intOf i).toNat)
  case atStart => exact ⟨0, Nat.zero_le _, rfl, Below.refl _ _⟩
  case round =>
    obtain ⟨q, hq, rfl, hbr⟩ := hrel
    have hb := hbr
    have HBR := hide hbr
    clear hbr
    have HE_8 := hide (HE_7.out.keep hb)
    have HB_8 := hide (Below.next HB_7.out hb)
    have HPA_8 := hide (HPA_7.out.below hb)
    have HPB_8 := hide (HPB_7.out.below hb)
    have HAB_8 := hide (HAB.out.below hb)
    clear HE_7 HB_7 HPA_7 HPB_7 HAB
    clear hb
    by_cases hlt : q < n
    · have j1 : (q : Int) < (n : Int) := by omega
      have j0 : (0 : Int) ≤ (q : Int) := by omega
      have hql : q < (listsD sa sb).length := by have := HNL.out; omega
      obtain ⟨a9, cap, he, hle, hnl9, hc⟩ := HAB_8.out
      obtain ⟨g, o, rfl, hch⟩ := hc q hql
      cases he
      have hmem := lists_mem HSA.out.kr HSB.out.kr (List.getElem_mem hql)
      obtain ⟨k, hk⟩ : ∃ k, k = (listsD sa sb)[q].1 := ⟨_, rfl⟩
      rw [← hk] at hmem
      obtain ⟨t1, ht1⟩ : ∃ t, t = (lk sa k).isSome := ⟨_, rfl⟩
      obtain ⟨t2, ht2⟩ : ∃ t, t = (lk sb k).isSome := ⟨_, rfl⟩
      obtain ⟨s1, hs1⟩ : ∃ s, s = (lk sa k).getD nilB := ⟨_, rfl⟩
      obtain ⟨s2, hs2⟩ : ∃ s, s = (lk sb k).getD nilB := ⟨_, rfl⟩
      obtain ⟨f0, f1, f2, f3, f4⟩ := hch
      rw [← hk] at f0
      rw [hmem.1] at f1 f2 f3 f4
      simp only [chgV] at f1 f2 f3 f4
      rw [← ht1] at f1
      rw [← ht2] at f2
      rw [← hs1] at f3
      rw [← hs2] at f4
      have HF : Hid (_ ∧ _ ∧ _ ∧ _ ∧ _) := ⟨f0, f1, f2, f3, f4⟩
      have HO1 := hide (And.intro ht1 hs1)
      have HO2 := hide (And.intro ht2 hs2)
      have HLT := hide hlt
      clear hc hnl9 hmem hk ht1 ht2 hs1 hs2 hle f1 f2 f3 f4
      go_wp2_with fail
      refine (has_st HSA.out _ k t1 s1 HO1.out.1 HO1.out.2 _ HPA_8.out).mono ?_
      rintro e U1 ⟨rfl, hu1⟩
      have f0 := cell_bel hu1 HF.out.1
      have HU1 := hide hu1
      go_wp2_with fail
      refine (has_st HSB.out _ k t2 s2 HO2.out.1 HO2.out.2 _ (HPB_8.out.below hu1)).mono ?_
      rintro e U2 ⟨rfl, hu2⟩
      have HU2 := hide (Below.next HU1.out hu2)
      clear f0 hu1 hu2
      have f1 := cell_bel HU2.out HF.out.2.1
      have f2 := cell_bel HU2.out HF.out.2.2.1
      have f3 := cell_bel HU2.out HF.out.2.2.2.1
      have f4 := cell_bel HU2.out HF.out.2.2.2.2
      have HU3 := hide (Below.next HBR.out HU2.out)
      go_wp2
      go_roundw
      case rel => exact ⟨q + 1, HLT.out, by go_num, HU3.out⟩
      case measure => have := HLT.out; simp [intOf]; omega
    · obtain rfl : q = n := by omega
      have hql : q = (listsD sa sb).length := HNL.out
      have HABX := hide HAB_8.out
      rw [hql] at HABX ⊢
      clear HAB_8 hq
      go_wp2_with fail
      refine (lpairs_st HSA.out _ _ HPA_8.out).mono ?_
      rintro e V10 ⟨x10, m10, rfl, hp, hb⟩
      have HE_10 := hide (HE_8.out.keep hb)
      have HB_10 := hide (Below.next HB_8.out hb)
      have HPA_10 := hide (HPA_8.out.below hb)
      have HPB_10 := hide (HPB_8.out.below hb)
      have HABX_10 := hide (HABX.out.below hb)
      clear HE_8 HB_8 HPA_8 HPB_8 HABX
      have HQA_10 := hide hp
      clear hp hb
      go_wp2_with fail
      refine (lchanges_st _ (HSA.out.lists HSB.out) _ _ HABX_10.out).mono ?_
      rintro e V11 ⟨x11, m11, rfl, hp, hb⟩
      have HE_11 := hide (HE_10.out.keep hb)
      have HB_11 := hide (Below.next HB_10.out hb)
      have HPA_11 := hide (HPA_10.out.below hb)
      have HPB_11 := hide (HPB_10.out.below hb)
      have HABX_11 := hide (HABX_10.out.below hb)
      have HQA_11 := hide (HQA_10.out.below hb)
      clear HE_10 HB_10 HPA_10 HPB_10 HABX_10 HQA_10
      have Hch_11 := hide hp
      clear hp hb
      go_wp2_with fail
      refine (patch_st HSA.out HSB.out _ _ _ HQA_11.out Hch_11.out _ _ ((HE_11.out).1 1 (by decide)).1 ((HE_11.out).1 0 (by decide)).1).mono ?_
      rintro e V12 ⟨x12, m12, rfl, hp, hb⟩
      have HE_12 := hide (HE_11.out.keep hb)
      have HB_12 := hide (Below.next HB_11.out hb)
      have HPA_12 := hide (HPA_11.out.below hb)
      have HPB_12 := hide (HPB_11.out.below hb)
      have HABX_12 := hide (HABX_11.out.below hb)
      have HQA_12 := hide (HQA_11.out.below hb)
      have Hch_12 := hide (Hch_11.out.below hb)
      clear HE_11 HB_11 HPA_11 HPB_11 HABX_11 HQA_11 Hch_11
      have Hthere_12 := hide hp
      clear hp hb
      clear HQA_12
      clear Hch_12
      go_wp2_with fail
      refine (lpairs_st HSB.out _ _ HPB_12.out).mono ?_
      rintro e V13 ⟨x13, m13, rfl, hp, hb⟩
      have HE_13 := hide (HE_12.out.keep hb)
      have HB_13 := hide (Below.next HB_12.out hb)
      have HPA_13 := hide (HPA_12.out.below hb)
      have HPB_13 := hide (HPB_12.out.below hb)
      have HABX_13 := hide (HABX_12.out.below hb)
      have Hthere_13 := hide (Hthere_12.out.below hb)
      clear HE_12 HB_12 HPA_12 HPB_12 HABX_12 Hthere_12
      have HQB_13 := hide hp
      clear hp hb
      go_wp2_with fail
      refine (lchanges_st _ (HSA.out.lists HSB.out) _ _ HABX_13.out).mono ?_
      rintro e V14 ⟨x14, m14, rfl, hp, hb⟩
      have HE_14 := hide (HE_13.out.keep hb)
      have HB_14 := hide (Below.next HB_13.out hb)
      have HPA_14 := hide (HPA_13.out.below hb)
      have HPB_14 := hide (HPB_13.out.below hb)
      have HABX_14 := hide (HABX_13.out.below hb)
      have Hthere_14 := hide (Hthere_13.out.below hb)
      have HQB_14 := hide (HQB_13.out.below hb)
      clear HE_13 HB_13 HPA_13 HPB_13 HABX_13 Hthere_13 HQB_13
      have Hch_14 := hide hp
      clear hp hb
      go_wp2_with fail
      refine (invert_st HSA.out HSB.out _ _ Hch_14.out).mono ?_
      rintro e V15 ⟨x15, m15, rfl, hp, hb⟩
      have HE_15 := hide (HE_14.out.keep hb)
      have HB_15 := hide (Below.next HB_14.out hb)
      have HPA_15 := hide (HPA_14.out.below hb)
      have HPB_15 := hide (HPB_14.out.below hb)
      have HABX_15 := hide (HABX_14.out.below hb)
      have Hthere_15 := hide (Hthere_14.out.below hb)
      have HQB_15 := hide (HQB_14.out.below hb)
      have Hch_15 := hide (Hch_14.out.below hb)
      clear HE_14 HB_14 HPA_14 HPB_14 HABX_14 Hthere_14 HQB_14 Hch_14
      have Hinv_15 := hide hp
      clear hp hb
      go_wp2_with fail
      refine (patch_st HSB.out HSA.out _ _ _ HQB_15.out Hinv_15.out _ _ ((HE_15.out).1 1 (by decide)).1 ((HE_15.out).1 0 (by decide)).1).mono ?_
      rintro e V16 ⟨x16, m16, rfl, hp, hb⟩
      have HE_16 := hide (HE_15.out.keep hb)
      have HB_16 := hide (Below.next HB_15.out hb)
      have HPA_16 := hide (HPA_15.out.below hb)
      have HPB_16 := hide (HPB_15.out.below hb)
      have HABX_16 := hide (HABX_15.out.below hb)
      have Hthere_16 := hide (Hthere_15.out.below hb)
      have HQB_16 := hide (HQB_15.out.below hb)
      have Hch_16 := hide (Hch_15.out.below hb)
      have Hinv_16 := hide (Hinv_15.out.below hb)
      clear HE_15 HB_15 HPA_15 HPB_15 HABX_15 Hthere_15 HQB_15 Hch_15 Hinv_15
      have Hback_16 := hide hp
      clear hp hb
      clear HQB_16
      clear Hch_16
      clear Hinv_16
      go_wp2_with fail
      refine (lpairs_st HSA.out _ _ HPA_16.out).mono ?_
      rintro e V17 ⟨x17, m17, rfl, hp, hb⟩
      have HE_17 := hide (HE_16.out.keep hb)
      have HB_17 := hide (Below.next HB_16.out hb)
      have HPA_17 := hide (HPA_16.out.below hb)
      have HPB_17 := hide (HPB_16.out.below hb)
      have HABX_17 := hide (HABX_16.out.below hb)
      have Hthere_17 := hide (Hthere_16.out.below hb)
      have Hback_17 := hide (Hback_16.out.below hb)
      clear HE_16 HB_16 HPA_16 HPB_16 HABX_16 Hthere_16 Hback_16
      have HQA_17 := hide hp
      clear hp hb
      go_wp2_with fail
      refine (lpairs_st HSA.out _ _ HPA_17.out).mono ?_
      rintro e V18 ⟨x18, m18, rfl, hp, hb⟩
      have HE_18 := hide (HE_17.out.keep hb)
      have HB_18 := hide (Below.next HB_17.out hb)
      have HPA_18 := hide (HPA_17.out.below hb)
      have HPB_18 := hide (HPB_17.out.below hb)
      have HABX_18 := hide (HABX_17.out.below hb)
      have Hthere_18 := hide (Hthere_17.out.below hb)
      have Hback_18 := hide (Hback_17.out.below hb)
      have HQA_18 := hide (HQA_17.out.below hb)
      clear HE_17 HB_17 HPA_17 HPB_17 HABX_17 Hthere_17 Hback_17 HQA_17
      have HQB_18 := hide hp
      clear hp hb
      go_wp2_with fail
      refine (lists_st HSA.out HSA.out _ _ _ HQA_18.out HQB_18.out _ ((HE_18.out).1 1 (by decide)).1).mono ?_
      rintro e V19 ⟨x19, m19, rfl, hp, hb⟩
      have HE_19 := hide (HE_18.out.keep hb)
      have HB_19 := hide (Below.next HB_18.out hb)
      have HPA_19 := hide (HPA_18.out.below hb)
      have HPB_19 := hide (HPB_18.out.below hb)
      have HABX_19 := hide (HABX_18.out.below hb)
      have Hthere_19 := hide (Hthere_18.out.below hb)
      have Hback_19 := hide (Hback_18.out.below hb)
      have HQA_19 := hide (HQA_18.out.below hb)
      have HQB_19 := hide (HQB_18.out.below hb)
      clear HE_18 HB_18 HPA_18 HPB_18 HABX_18 Hthere_18 Hback_18 HQA_18 HQB_18
      have Hnone_19 := hide hp
      clear hp hb
      clear HQA_19
      clear HQB_19
      clear HABX_19
      have HZ : Hid ((listsD sa sa).length = 0) := by rw [lists_self HSA.out.kr]; exact rfl
      rw [HZ.out]
      go_wp2_with fail
      refine (samep_same _ _ sb _ (by have := HSB.out.len; omega) Hthere_19.out HPB_19.out).mono ?_
      rintro e V20 ⟨rfl, hb⟩
      have HE_20 := hide (HE_19.out.keep hb)
      have HB_20 := hide (Below.next HB_19.out hb)
      have HPA_20 := hide (HPA_19.out.below hb)
      have HPB_20 := hide (HPB_19.out.below hb)
      have Hthere_20 := hide (Hthere_19.out.below hb)
      have Hback_20 := hide (Hback_19.out.below hb)
      have Hnone_20 := hide (Hnone_19.out.below hb)
      clear HE_19 HB_19 HPA_19 HPB_19 Hthere_19 Hback_19 Hnone_19
      clear hb
      go_wp2_with fail
      refine (samep_same _ _ sa _ (by have := HSA.out.len; omega) Hback_20.out HPA_20.out).mono ?_
      rintro e V21 ⟨rfl, hb⟩
      have HE_21 := hide (HE_20.out.keep hb)
      have HB_21 := hide (Below.next HB_20.out hb)
      have HPA_21 := hide (HPA_20.out.below hb)
      have HPB_21 := hide (HPB_20.out.below hb)
      have Hthere_21 := hide (Hthere_20.out.below hb)
      have Hback_21 := hide (Hback_20.out.below hb)
      have Hnone_21 := hide (Hnone_20.out.below hb)
      clear HE_20 HB_20 HPA_20 HPB_20 Hthere_20 Hback_20 Hnone_20
      clear hb
      go_wp2
      rw [HQ.out]
      exact ⟨rfl, HB_21.out⟩
end Go.Proofs.YtkdmocnjpajfkaaDoor
