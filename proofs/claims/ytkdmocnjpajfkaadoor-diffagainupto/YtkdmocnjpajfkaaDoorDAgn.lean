import Derived.Test.YtkdmocnjpajfkaaDoorDAgD
import Derived.Deep.RegionHeld3
namespace Go.Proofs.YtkdmocnjpajfkaaDoor
open Go.RowKit
attribute [local go_sem ↓] Go.wp_at_zero Go.wp_at_succ

set_option maxRecDepth 100000 in
set_option maxHeartbeats 16000000 in
theorem again_any (A : Nat → Addr) (va vb vl vm : Value) (la : List Pr) (l : List Ch) (w : World) (hE : ErrsG 2 gLO A w) (hA : PrR w va la) (hL : ChR w vl l) (oa : OkL la) (ol : OkC l) (na : la.length ≤ 1048576) (nl : l.length ≤ 1048576) :
    Calls Tryd.prog 4 #[.agg #[va, vb, vl, vm]] w fun e w' => e = .returned (.bool true) ∧ Below w.heap.size w w' := by
  obtain ⟨a1, c1, rfl⟩ : ∃ a1 c1, va = .slice a1 la.length c1 := by obtain ⟨x, y, h, _⟩ := hA; exact ⟨x, y, h⟩
  obtain ⟨a2, c2, rfl⟩ := hL.form
  obtain ⟨n1, hn1⟩ : ∃ n, n = la.length := ⟨_, rfl⟩
  obtain ⟨n2, hn2⟩ : ∃ n, n = l.length := ⟨_, rfl⟩
  rw [← hn1] at hA ⊢
  rw [← hn2] at hL ⊢
  have hm2 : n2 ≤ 140737488355328 := by omega
  obtain ⟨W1, hW1⟩ : ∃ W1, w.alloc (.cells #[.slice a1 n1 c1, vb, .slice a2 n2 c2, vm] 37) = W1 := ⟨_, rfl⟩
  have hb1 : Below w.heap.size w W1 := by rw [← hW1]; exact (Below.refl _ w).alloc (Nat.le_refl _) _
  have hbox : ∀ i (v : Value), #[Value.slice a1 n1 c1, vb, .slice a2 n2 c2, vm][i]? = some v → W1.cell? ⟨w.heap.size, i, none⟩ = some v := by
    intro i v hv
    rw [← hW1]
    obtain ⟨h, rfl⟩ := Array.getElem?_eq_some_iff.1 hv
    exact (boxed_new w _ 37).2 i h
  have k1 := hbox 0 _ rfl
  have k2 := hbox 2 _ rfl
  have HE := hide (hE.keep hb1)
  have HB := hide hb1
  have HK1 := hide k1
  have HK2 := hide k2
  have HA1 := hide (hA.below hb1)
  have HPL := hide (hL.below hb1)
  have HSA := hide (Sd.st oa na)
  have HOO := hide (And.intro oa ol)
  have HNN := hide (And.intro na nl)
  have HN2 := hide hn2
  obtain ⟨b0, hb0⟩ : ∃ b0, b0 = w.heap.size := ⟨_, rfl⟩
  obtain ⟨Q, hQ⟩ : ∃ Q : Ending → World → Prop, Q = fun e w' => e = .returned (.bool true) ∧ Below w.heap.size w w' := ⟨_, rfl⟩
  rw [← hQ]
  have HQ := hide hQ
  clear hQ hE hA hL oa ol na nl hb1 hbox k1 k2 hn1 hn2 hb0
  go_enter Tryd.func4, Tryd.ntmps4
  go_wp2_with fail
  refine (begun_any A W1 HE.out).mono ?_
  rintro e V1 ⟨rfl, hb⟩
  have HE_1 := hide (HE.out.keep hb)
  have HB_1 := hide (Below.next HB.out hb)
  have HA1_1 := hide (HA1.out.below hb)
  have HPL_1 := hide (HPL.out.below hb)
  have HK1_1 := hide (cell_bel hb HK1.out)
  have HK2_1 := hide (cell_bel hb HK2.out)
  clear HE HB HA1 HPL HK1 HK2
  clear hb hW1
  have k1 := HK1_1.out
  go_wp2_with fail
  refine (state_st HOO.out.1 HNN.out.1 _ _ HA1_1.out).mono ?_
  rintro e V2 ⟨x2, m2, rfl, hp, hb⟩
  have HE_2 := hide (HE_1.out.keep hb)
  have HB_2 := hide (Below.next HB_1.out hb)
  have HA1_2 := hide (HA1_1.out.below hb)
  have HPL_2 := hide (HPL_1.out.below hb)
  have HK1_2 := hide (cell_bel hb HK1_1.out)
  have HK2_2 := hide (cell_bel hb HK2_1.out)
  clear HE_1 HB_1 HA1_1 HPL_1 HK1_1 HK2_1
  have HPA_2 := hide hp
  clear hp hb
  clear k1 HK1_2 HA1_2
  generalize stD la = sa at *
  have k2 := HK2_2.out
  go_upto_region 4 with fail
  have HT1 : Hid (∀ V, Below V2.heap.size V2 V → Calls Tryd.prog 16 #[.slice x2 sa.length m2] V fun e w' => ∃ x k, e = .returned (.slice x sa.length k) ∧ PrR w' (.slice x sa.length k) sa ∧ Below V.heap.size V w') := fun V hV => lpairs_st HSA.out _ V (HPA_2.out.below hV)
  have HT2 : Hid (∀ V, Below V2.heap.size V2 V → Calls Tryd.prog 17 #[.slice a2 n2 c2] V fun e w' => ∃ x k, e = .returned (.slice x l.length k) ∧ ChR w' (.slice x l.length k) l ∧ Below V.heap.size V w') := fun V hV => lchanges_st l (by have := HNN.out.2; omega) _ V (HPL_2.out.below hV)
  go_region_held3 (fun w' => w'.cell? ⟨w.heap.size, 2, none⟩ = some (.slice a2 n2 c2)) (go_keep)
    (first
      | (have hq := HB7; clear hq; go_at_call 15; refine (patch_told HSA.out HOO.out.2 HNN.out.2 _ _ _ (HP6.out.below hg7.out) HP7.out _ _ (((HE_2.out.keep HB7.out).1 1 (by decide)).1) (((HE_2.out.keep HB7.out).1 0 (by decide)).1)).mono ?_; rintro e w8 ⟨x8, n8, m8, ev, rfl, hout, hg⟩; have HB8 : Hid (Below V2.heap.size V2 w8) := Below.next HB7.out hg; have HOUT := hide hout; have z0 := cell_bel HB8.out k2; clear hg hout)
      | (have hq := HB6; clear hq; go_at_call 17; refine (HT2.out _ HB6.out).mono ?_; rintro e w7 ⟨x7, m7, rfl, hp7, hg⟩; have HB7 : Hid (Below V2.heap.size V2 w7) := Below.next HB6.out hg; have hg7 := hide hg; have HP7 := hide hp7; have y0 := cell_bel HB7.out k2; clear hg hp7)
      | (go_at_call 16; refine (HT1.out _ ?_).mono ?_; (first | exact Below.refl _ _ | exact (Below.refl _ _).drew | exact below_drewN2 (Below.refl _ _) _); rintro e w6 ⟨x6, m6, rfl, hp6, hg⟩; have HB6 : Hid (Below V2.heap.size V2 w6) := ⟨hg.os, hg.tape, hg.output, hg.size, hg.block⟩; have HP6 := hide hp6; have z0 := cell_bel HB6.out k2; clear hg hp6))
  clear k2 z0 y0 HT1 HT2 HP6 HP7 hg7 HB6 HB7
  have hb := HB8.out
  clear HB8
  have HE_3 := hide (HE_2.out.keep hb)
  have HB_3 := hide (Below.next HB_2.out hb)
  have HPL_3 := hide (HPL_2.out.below hb)
  have HK2_3 := hide (cell_bel hb HK2_2.out)
  have HPA_3 := hide (HPA_2.out.below hb)
  clear HE_2 HB_2 HPL_2 HK2_2 HPA_2
  clear hb
  rcases HOUT.out with ⟨rfl, hev⟩ | ⟨rfl, hkl, m, hpm, rfl, hpr⟩
  · have g0 := (HE_3.out.1 1 (by decide)).1
    have g1 := (HE_3.out.1 0 (by decide)).1
    have e1 := eq_same A 1
    have e2 := eq_same A 0
    have e3 := eq_other A 0 1 w8 HE_3.out (by decide) (by decide) (by decide)
    have g0' : w8.cell? ⟨0, 0, none⟩ = some (.iface 105 (.pointer (some (A 1)))) := g0
    have g1' : w8.cell? ⟨1, 0, none⟩ = some (.iface 105 (.pointer (some (A 0)))) := g1
    clear g0 g1 HOUT
    rcases hev with rfl | rfl
    · go_wp2
      rw [HQ.out]
      exact ⟨rfl, HB_3.out⟩
    · go_wp2
      rw [HQ.out]
      exact ⟨rfl, HB_3.out⟩
  · have HKL := hide hkl
    have HPM := hide hpm
    have HPR := hide hpr
    have HOM := hide (patch_okl HSA.out.kr hkl HSA.out.ok HOO.out.2 hpm)
    have HLM : Hid (m.length ≤ 2097152) := by have := patch_len hpm; have := HSA.out.len; have := HNN.out.2; show _ ≤ _; omega
    clear HOUT hkl hpm hpr
    have k2 := HK2_3.out
    go_wp2
    go_loopw [6] (fun i wr => ∃ (q : Nat), q ≤ n2 ∧ i = .int .i64 (q : Int) ∧ Below w8.heap.size w8 wr) (fun i _ => n2 - (intOf i).toNat)
    case atStart => exact ⟨0, Nat.zero_le _, rfl, Below.refl _ _⟩
    case round =>
      obtain ⟨q, hq, rfl, hb⟩ := hrel
      have HBR := hide hb
      clear k2
      have HE_4 := hide (HE_3.out.keep hb)
      have HB_4 := hide (Below.next HB_3.out hb)
      have HPL_4 := hide (HPL_3.out.below hb)
      have HK2_4 := hide (cell_bel hb HK2_3.out)
      have HPA_4 := hide (HPA_3.out.below hb)
      have HPR_4 := hide (HPR.out.below hb)
      clear HE_3 HB_3 HPL_3 HK2_3 HPA_3 HPR
      clear hb
      have k2 := HK2_4.out
      by_cases hlt : q < n2
      · have j1 : (q : Int) < (n2 : Int) := by omega
        have j0 : (0 : Int) ≤ (q : Int) := by omega
        have hql : q < l.length := by have := HN2.out; omega
        obtain ⟨a9, cap, he, hle, hnl9, hc⟩ := HPL_4.out
        obtain ⟨rfl, -, rfl⟩ : a2 = a9 ∧ n2 = l.length ∧ c2 = cap := by simpa using he
        obtain ⟨g, o, rfl, hch⟩ := hc q hql
        obtain ⟨k, x, hkx⟩ : ∃ k x, l[q] = (k, x) := ⟨_, _, rfl⟩
        rw [hkx] at hch
        have HLT := hide hlt
        have HKX := hide hkx
        have hag := again_lk HSA.out.kr HKL.out HPM.out (List.getElem_mem hql)
        rw [hkx] at hag
        have HAG := hide hag
        clear hc hnl9 he hle hkx hag HKX hql
        obtain ⟨W2, hW2⟩ : ∃ W2, wr.alloc (.cells #[.string ⟨#[]⟩, .bool false, .bool false, .string ⟨#[]⟩, .string ⟨#[]⟩] 41) = W2 := ⟨_, rfl⟩
        have x2 : Bx5 W2 wr.heap.size ⟨#[]⟩ ⟨false, false, ⟨#[]⟩, ⟨#[]⟩⟩ := by rw [← hW2]; exact World.alloc_heap_new wr _
        have hbb : Below wr.heap.size wr W2 := by rw [← hW2]; exact (Below.refl _ wr).alloc (Nat.le_refl _) _
        have HX2 := hide x2
        have HBB := hide hbb
        have k3 := cell_bel hbb k2
        obtain ⟨f0, f1, f2, f3, f4⟩ := hch
        obtain ⟨e0, e1, e2, e3, e4⟩ := x2.cells
        have y0 := x2.frz 0
        have y1 := x2.frz 1
        have y2 := x2.frz 2
        have y3 := x2.frz 3
        have y4 := x2.frz 4
        simp only at f0 f1 f2 f3 f4 e0 e1 e2 e3 e4
        clear x2 hbb
        go_upto_region 11 with fail
        have q1 := HX2.out.all k x
        have HB2 := hide (((((HBB.out.setCell (p := ⟨wr.heap.size, 0, none⟩) (Nat.le_refl _) (.string k)).setCell (p := ⟨wr.heap.size, 1, none⟩) (Nat.le_refl _) (.bool x.had)).setCell (p := ⟨wr.heap.size, 2, none⟩) (Nat.le_refl _) (.bool x.has)).setCell (p := ⟨wr.heap.size, 3, none⟩) (Nat.le_refl _) (.string x.old)).setCell (p := ⟨wr.heap.size, 4, none⟩) (Nat.le_refl _) (.string x.new))
        clear f0 f1 f2 f3 f4 e0 e1 e2 e3 e4 y0 y1 y2 y3 y4 hW2 HX2 HBB k3
        generalize ((((W2.setCell ⟨wr.heap.size, 0, none⟩ (.string k)).setCell ⟨wr.heap.size, 1, none⟩ (.bool x.had)).setCell ⟨wr.heap.size, 2, none⟩ (.bool x.has)).setCell ⟨wr.heap.size, 3, none⟩ (.string x.old)).setCell ⟨wr.heap.size, 4, none⟩ (.string x.new) = V at *
        obtain ⟨f0, f1, f2, f3, f4⟩ := q1.cells
        have HF := hide q1
        clear q1 k2
        obtain ⟨t1, ht1⟩ : ∃ t, t = (lk sa k).isSome := ⟨_, rfl⟩
        obtain ⟨t2, ht2⟩ : ∃ t, t = (lk m k).isSome := ⟨_, rfl⟩
        obtain ⟨s1, hs1⟩ : ∃ s, s = (lk sa k).getD nilB := ⟨_, rfl⟩
        obtain ⟨s2, hs2⟩ : ∃ s, s = (lk m k).getD nilB := ⟨_, rfl⟩
        have HO1 := hide (And.intro ht1 hs1)
        have HO2 := hide (And.intro ht2 hs2)
        clear ht1 hs1 ht2 hs2
        go_wp2_with fail
        refine (has_st HSA.out _ k t1 s1 HO1.out.1 HO1.out.2 _ (HPA_4.out.below HB2.out)).mono ?_
        rintro e U1 ⟨rfl, hu1⟩
        have HU1 := hide hu1
        clear f0 f1 f2 f3 f4
        obtain ⟨f0, f1, f2, f3, f4⟩ := (HF.out.bel hu1).cells
        go_wp2_with fail
        refine (show Calls Tryd.prog 18 #[_, .string k] U1 fun e w' => e = .returned (.tuple #[.string s2, .bool t2]) ∧ Below U1.heap.size U1 w' from by rw [HO2.out.1, HO2.out.2]; exact has_any _ m k U1 (by have := HLM.out; omega) (HPR_4.out.below (Below.next HB2.out hu1))).mono ?_
        rintro e U2 ⟨rfl, hu2⟩
        clear f0 f1 f2 f3 f4
        obtain ⟨f0, f1, f2, f3, f4⟩ := ((HF.out.bel hu1).bel hu2).cells
        have HU2 := hide (Below.next HBR.out (Below.next (Below.next HB2.out hu1) hu2))
        clear hu1 hu2 HU1
        have h1 : x.had = t1 := by rw [HO1.out.1]; exact HAG.out.1
        have h2 : x.old = s1 := by rw [HO1.out.2]; exact HAG.out.2.1
        have h3 : x.has = t2 := by rw [HO2.out.1]; exact HAG.out.2.2.1
        have h4 : t2 = true → x.new = s2 := fun h => by rw [HO2.out.2]; exact HAG.out.2.2.2 (h3.trans h)
        rw [h1] at f1
        rw [h3] at f2
        rw [h2] at f3
        clear h1 h2 h3
        have HZ := hide h4
        clear h4
        cases t2 with
        | true =>
          have h5 := HZ.out rfl
          rw [h5] at f4
          clear h5
          go_wp2
          go_roundw
          case rel => exact ⟨q + 1, HLT.out, by go_num, HU2.out⟩
          case measure => have := HLT.out; simp [intOf]; omega
        | false =>
          go_wp2
          go_roundw
          case rel => exact ⟨q + 1, HLT.out, by go_num, HU2.out⟩
          case measure => have := HLT.out; simp [intOf]; omega
      · obtain rfl : n2 = q := by omega
        clear k2
        have k2 := HK2_4.out
        go_wp2_with fail
        refine (lpairs_st HSA.out _ _ HPA_4.out).mono ?_
        rintro e V5 ⟨x5, m5, rfl, hp, hb⟩
        have HE_5 := hide (HE_4.out.keep hb)
        have HB_5 := hide (Below.next HB_4.out hb)
        have HPL_5 := hide (HPL_4.out.below hb)
        have HK2_5 := hide (cell_bel hb HK2_4.out)
        have HPA_5 := hide (HPA_4.out.below hb)
        have HPR_5 := hide (HPR_4.out.below hb)
        clear HE_4 HB_4 HPL_4 HK2_4 HPA_4 HPR_4
        have HQA_5 := hide hp
        clear hp hb
        clear k2
        go_wp2_with fail
        refine (show Calls Tryd.prog 16 #[_] _ fun e w' => ∃ x k, e = .returned (.slice x m.length k) ∧ PrR w' (.slice x m.length k) m ∧ Below _ _ w' from (lpairs_any _ m _ HPR_5.out (by have := HLM.out; omega)).mono (fun e w' h => by obtain ⟨v', rfl, hown, hbl⟩ := h; obtain ⟨x, k, rfl⟩ := hown.form; exact ⟨x, k, rfl, hown.at, hbl⟩)).mono ?_
        rintro e V6 ⟨x6, m6, rfl, hp, hb⟩
        have HE_6 := hide (HE_5.out.keep hb)
        have HB_6 := hide (Below.next HB_5.out hb)
        have HPL_6 := hide (HPL_5.out.below hb)
        have HK2_6 := hide (cell_bel hb HK2_5.out)
        have HPA_6 := hide (HPA_5.out.below hb)
        have HPR_6 := hide (HPR_5.out.below hb)
        have HQA_6 := hide (HQA_5.out.below hb)
        clear HE_5 HB_5 HPL_5 HK2_5 HPA_5 HPR_5 HQA_5
        have HQM_6 := hide hp
        clear hp hb
        go_wp2_with fail
        refine (lists_any _ _ sa m _ HQA_6.out HQM_6.out HSA.out.ok HOM.out (by have := HLM.out; have := HSA.out.len; omega) _ ((HE_6.out).1 1 (by decide)).1).mono ?_
        rintro e V7 ⟨hb, hor⟩
        have HE_7 := hide (HE_6.out.keep hb)
        have HB_7 := hide (Below.next HB_6.out hb)
        have HPL_7 := hide (HPL_6.out.below hb)
        have HK2_7 := hide (cell_bel hb HK2_6.out)
        have HPA_7 := hide (HPA_6.out.below hb)
        have HPR_7 := hide (HPR_6.out.below hb)
        have HQA_7 := hide (HQA_6.out.below hb)
        have HQM_7 := hide (HQM_6.out.below hb)
        clear HE_6 HB_6 HPL_6 HK2_6 HPA_6 HPR_6 HQA_6 HQM_6
        clear hb
        rcases hor with ⟨h, _⟩ | ⟨_, v12, rfl, hown⟩
        · rw [(riseB_iff sa).2 HSA.out.kr, (riseB_iff m).2 (patch_kr HSA.out.kr HKL.out HPM.out)] at h; cases h
        rw [again_lists HSA.out.kr HKL.out HPM.out] at hown
        obtain ⟨x12, k12, rfl⟩ := hown.form
        have HLW : Hid (ChR V7 (.slice x12 (wantD l).length k12) (wantD l)) := hown.at
        have HWN : Hid ((wantD l).length ≤ 1048576) := Nat.le_trans (want_len l) HNN.out.2
        rw [show (fm (fun c => actV (normV c)) l) = wantD l from rfl]
        clear hown hq HQA_7 HQM_7 HPR_7 HPA_7
        have k2 := HK2_7.out
        go_wp2
        go_loopw [14, 15] (fun x i wr => ∃ (q : Nat) (a' : Option Addr) (c' : Nat), q ≤ n2 ∧ i = .int .i64 (q : Int) ∧ x = .slice a' (wantD (l.take q)).length c' ∧ ChO wr V7.heap.size x (wantD (l.take q)) ∧ Below V7.heap.size V7 wr) (fun _ i _ => n2 - (intOf i).toNat)
        case atStart => exact ⟨0, none, 0, Nat.zero_le _, rfl, rfl, ChO.nil _ _, Below.refl _ _⟩
        case round =>
          obtain ⟨q, a', c', hq, rfl, rfl, hown, hb⟩ := hrel
          have HBR := hide hb
          have HO := hide hown
          clear k2 hown
          have HE_8 := hide (HE_7.out.keep hb)
          have HB_8 := hide (Below.next HB_7.out hb)
          have HPL_8 := hide (HPL_7.out.below hb)
          have HK2_8 := hide (cell_bel hb HK2_7.out)
          have HLW_8 := hide (HLW.out.below hb)
          clear HE_7 HB_7 HPL_7 HK2_7 HLW
          clear hb
          have k2 := HK2_8.out
          obtain ⟨wl, hwl⟩ : ∃ wl, wl = wantD (l.take q) := ⟨_, rfl⟩
          rw [← hwl] at HO ⊢
          obtain ⟨nw, hnw⟩ : ∃ nw, nw = wl.length := ⟨_, rfl⟩
          rw [← hnw] at HO ⊢
          have HWL := hide hwl
          have HNW := hide hnw
          clear hwl hnw
          by_cases hlt : q < n2
          · have j1 : (q : Int) < (n2 : Int) := by omega
            have j0 : (0 : Int) ≤ (q : Int) := by omega
            have hql : q < l.length := by have := HN2.out; omega
            obtain ⟨a9, cap, he, hle, hnl9, hc⟩ := HPL_8.out
            obtain ⟨rfl, -, rfl⟩ : a2 = a9 ∧ n2 = l.length ∧ c2 = cap := by simpa using he
            obtain ⟨g, o, rfl, hch⟩ := hc q hql
            obtain ⟨k, x, hkx⟩ : ∃ k x, l[q] = (k, x) := ⟨_, _, rfl⟩
            rw [hkx] at hch
            have HLT := hide hlt
            have HKX := hide hkx
            have hwt := want_take l q hql k x hkx
            have HLN : Hid (nw ≤ 1048576) := by rw [HNW.out, HWL.out]; exact Nat.le_trans (want_len _) (by rw [List.length_take]; have := HNN.out.2; omega)
            rw [← HWL.out] at hwt
            have HWT := hide hwt
            clear hc hnl9 he hle hkx HKX hql hwt
            obtain ⟨W2, hW2⟩ : ∃ W2, wr.alloc (.cells #[.string ⟨#[]⟩, .bool false, .bool false, .string ⟨#[]⟩, .string ⟨#[]⟩] 41) = W2 := ⟨_, rfl⟩
            have x2 : Bx5 W2 wr.heap.size ⟨#[]⟩ ⟨false, false, ⟨#[]⟩, ⟨#[]⟩⟩ := by rw [← hW2]; exact World.alloc_heap_new wr _
            have hbb : Below wr.heap.size wr W2 := by rw [← hW2]; exact (Below.refl _ wr).alloc (Nat.le_refl _) _
            have HX2 := hide x2
            have HBB := hide hbb
            have k3 := cell_bel hbb k2
            obtain ⟨f0, f1, f2, f3, f4⟩ := hch
            obtain ⟨e0, e1, e2, e3, e4⟩ := x2.cells
            have y0 := x2.frz 0
            have y1 := x2.frz 1
            have y2 := x2.frz 2
            have y3 := x2.frz 3
            have y4 := x2.frz 4
            simp only at f0 f1 f2 f3 f4 e0 e1 e2 e3 e4
            clear x2 hbb
            go_upto_region 21 with fail
            have q1 := HX2.out.all k x
            have HB2 := hide (((((HBB.out.setCell (p := ⟨wr.heap.size, 0, none⟩) (Nat.le_refl _) (.string k)).setCell (p := ⟨wr.heap.size, 1, none⟩) (Nat.le_refl _) (.bool x.had)).setCell (p := ⟨wr.heap.size, 2, none⟩) (Nat.le_refl _) (.bool x.has)).setCell (p := ⟨wr.heap.size, 3, none⟩) (Nat.le_refl _) (.string x.old)).setCell (p := ⟨wr.heap.size, 4, none⟩) (Nat.le_refl _) (.string x.new))
            clear f0 f1 f2 f3 f4 e0 e1 e2 e3 e4 y0 y1 y2 y3 y4 hW2 HX2 HBB k3
            generalize ((((W2.setCell ⟨wr.heap.size, 0, none⟩ (.string k)).setCell ⟨wr.heap.size, 1, none⟩ (.bool x.had)).setCell ⟨wr.heap.size, 2, none⟩ (.bool x.has)).setCell ⟨wr.heap.size, 3, none⟩ (.string x.old)).setCell ⟨wr.heap.size, 4, none⟩ (.string x.new) = V at *
            clear k2
            obtain ⟨had, has, old, new⟩ := x
            have HQ1 := hide q1
            have HON := hide (list_eq old new)
            obtain ⟨f0, f1, f2, f3, f4⟩ := q1.cells
            have z3 := q1.frz 3
            have z4 := q1.frz 4
            simp only at f0 f1 f2 f3 f4 HB2
            clear q1
            cases had with
            | true =>
              cases has with
              | true =>
                have HWT2 : Hid (wantD (l.take (q + 1)) = wl ++ actL k ⟨true, true, old, new⟩) := HWT.out
                clear HWT
                have HWT := hide HWT2.out
                have HQU := hide HQ1.out
                have HBU := hide HB2.out
                by_cases hon : old = new
                · have hd : (old.toList == new.toList) = true := by rw [HON.out]; simp [hon]
                  have HID : Hid (idleV ⟨true, true, old, new⟩ = true) := by show (true == true && decide (old = new)) = true; simp [hon]
                  go_wp2
                  go_roundw
                  case rel => exact ⟨q + 1, a', c', HLT.out, by go_num, by rw [HWT.out, actL_idle k ⟨true, true, old, new⟩ HID.out, List.append_nil, ← HNW.out], by rw [HWT.out, actL_idle k ⟨true, true, old, new⟩ HID.out, List.append_nil]; exact HO.out.below HBU.out, Below.next HBR.out HBU.out⟩
                  case measure => have := HLT.out; simp [intOf]; omega
                · have hd : (old.toList == new.toList) = false := by rw [HON.out]; simp [hon]
                  have HID : Hid (idleV ⟨true, true, old, new⟩ = false) := by show (true == true && decide (old = new)) = false; simp [hon]
                  go_upto_region 26 with fail
                  clear f0 f1 f2 f3 f4 z3 z4
                  obtain ⟨f0, f1, f2, f3, f4⟩ := HQU.out.cells
                  simp only at f0 f1 f2 f3 f4
                  have HBW := hide (Below.next HBR.out HBU.out)
                  obtain ⟨a3, c3, W4, hrun, hown1, hgr⟩ := push_chs V7.heap.size _ wl (k, ⟨true, true, old, new⟩) 41 V nw HNW.out.symm (HO.out.below HBU.out) (by have := HLN.out; omega) HBW.out.size
                  simp only [chC] at hrun hgr
                  have HO1 := hide hown1
                  have HG := hide hgr
                  clear hown1 hgr
                  go_wp2_with (first | (at_builtin; refine wpList_append_run 27 rfl (.tmp 137) (.tmp 139) rfl rfl _ _ rfl rfl _ _ hrun ?_))
                  clear hrun
                  have HBF : Hid (Below V7.heap.size V7 W4) := bel_but HBW.out (((But.refl V7.heap.size (fun _ => true) V).alloc _).grown HG.out (fun b o hb ho => ⟨((HO.out.below HBU.out).blk b hb).1, rfl⟩)) (Nat.le_refl _)
                  go_wp2
                  go_roundw
                  case rel => exact ⟨q + 1, a3, c3, HLT.out, by go_num, by rw [HWT.out, actL_act k ⟨true, true, old, new⟩ HID.out, List.length_append, ← HNW.out]; exact rfl, by rw [HWT.out, actL_act k ⟨true, true, old, new⟩ HID.out]; exact HO1.out, HBF.out⟩
                  case measure => have := HLT.out; simp [intOf]; omega
              | false =>
                have HWT2 : Hid (wantD (l.take (q + 1)) = wl ++ actL k ⟨true, false, old, ⟨#[]⟩⟩) := HWT.out
                clear HWT
                have HWT := hide HWT2.out
                have HQU : Hid (Bx5 (V.setCell ⟨wr.heap.size, 4, none⟩ (.string ⟨#[]⟩)) wr.heap.size k ⟨true, false, old, ⟨#[]⟩⟩) := Go.heap_setCell_same _ wr.heap.size 4 _ 41 _ HQ1.out
                have HBU : Hid (Below wr.heap.size wr (V.setCell ⟨wr.heap.size, 4, none⟩ (.string ⟨#[]⟩))) := HB2.out.setCell (p := ⟨wr.heap.size, 4, none⟩) (Nat.le_refl _) _
                have HID : Hid (idleV ⟨true, false, old, ⟨#[]⟩⟩ = false) := rfl
                go_upto_region 26 with fail
                clear f0 f1 f2 f3 f4 z3 z4
                generalize (V.setCell ⟨wr.heap.size, 4, none⟩ (.string ⟨#[]⟩)) = U at *
                obtain ⟨f0, f1, f2, f3, f4⟩ := HQU.out.cells
                simp only at f0 f1 f2 f3 f4
                have HBW := hide (Below.next HBR.out HBU.out)
                obtain ⟨a3, c3, W4, hrun, hown1, hgr⟩ := push_chs V7.heap.size _ wl (k, ⟨true, false, old, ⟨#[]⟩⟩) 41 U nw HNW.out.symm (HO.out.below HBU.out) (by have := HLN.out; omega) HBW.out.size
                simp only [chC] at hrun hgr
                have HO1 := hide hown1
                have HG := hide hgr
                clear hown1 hgr
                go_wp2_with (first | (at_builtin; refine wpList_append_run 27 rfl (.tmp 137) (.tmp 139) rfl rfl _ _ rfl rfl _ _ hrun ?_))
                clear hrun
                have HBF : Hid (Below V7.heap.size V7 W4) := bel_but HBW.out (((But.refl V7.heap.size (fun _ => true) U).alloc _).grown HG.out (fun b o hb ho => ⟨((HO.out.below HBU.out).blk b hb).1, rfl⟩)) (Nat.le_refl _)
                go_wp2
                go_roundw
                case rel => exact ⟨q + 1, a3, c3, HLT.out, by go_num, by rw [HWT.out, actL_act k ⟨true, false, old, ⟨#[]⟩⟩ HID.out, List.length_append, ← HNW.out]; exact rfl, by rw [HWT.out, actL_act k ⟨true, false, old, ⟨#[]⟩⟩ HID.out]; exact HO1.out, HBF.out⟩
                case measure => have := HLT.out; simp [intOf]; omega
            | false =>
              cases has with
              | true =>
                have HWT2 : Hid (wantD (l.take (q + 1)) = wl ++ actL k ⟨false, true, ⟨#[]⟩, new⟩) := HWT.out
                clear HWT
                have HWT := hide HWT2.out
                have HQU : Hid (Bx5 (V.setCell ⟨wr.heap.size, 3, none⟩ (.string ⟨#[]⟩)) wr.heap.size k ⟨false, true, ⟨#[]⟩, new⟩) := Go.heap_setCell_same _ wr.heap.size 3 _ 41 _ HQ1.out
                have HBU : Hid (Below wr.heap.size wr (V.setCell ⟨wr.heap.size, 3, none⟩ (.string ⟨#[]⟩))) := HB2.out.setCell (p := ⟨wr.heap.size, 3, none⟩) (Nat.le_refl _) _
                have HID : Hid (idleV ⟨false, true, ⟨#[]⟩, new⟩ = false) := rfl
                go_upto_region 26 with fail
                clear f0 f1 f2 f3 f4 z3 z4
                generalize (V.setCell ⟨wr.heap.size, 3, none⟩ (.string ⟨#[]⟩)) = U at *
                obtain ⟨f0, f1, f2, f3, f4⟩ := HQU.out.cells
                simp only at f0 f1 f2 f3 f4
                have HBW := hide (Below.next HBR.out HBU.out)
                obtain ⟨a3, c3, W4, hrun, hown1, hgr⟩ := push_chs V7.heap.size _ wl (k, ⟨false, true, ⟨#[]⟩, new⟩) 41 U nw HNW.out.symm (HO.out.below HBU.out) (by have := HLN.out; omega) HBW.out.size
                simp only [chC] at hrun hgr
                have HO1 := hide hown1
                have HG := hide hgr
                clear hown1 hgr
                go_wp2_with (first | (at_builtin; refine wpList_append_run 27 rfl (.tmp 137) (.tmp 139) rfl rfl _ _ rfl rfl _ _ hrun ?_))
                clear hrun
                have HBF : Hid (Below V7.heap.size V7 W4) := bel_but HBW.out (((But.refl V7.heap.size (fun _ => true) U).alloc _).grown HG.out (fun b o hb ho => ⟨((HO.out.below HBU.out).blk b hb).1, rfl⟩)) (Nat.le_refl _)
                go_wp2
                go_roundw
                case rel => exact ⟨q + 1, a3, c3, HLT.out, by go_num, by rw [HWT.out, actL_act k ⟨false, true, ⟨#[]⟩, new⟩ HID.out, List.length_append, ← HNW.out]; exact rfl, by rw [HWT.out, actL_act k ⟨false, true, ⟨#[]⟩, new⟩ HID.out]; exact HO1.out, HBF.out⟩
                case measure => have := HLT.out; simp [intOf]; omega
              | false =>
                have HWT2 : Hid (wantD (l.take (q + 1)) = wl ++ actL k ⟨false, false, ⟨#[]⟩, ⟨#[]⟩⟩) := HWT.out
                clear HWT
                have HWT := hide HWT2.out
                have HBU : Hid (Below wr.heap.size wr (((V.setCell ⟨wr.heap.size, 3, none⟩ (.string ⟨#[]⟩))).setCell ⟨wr.heap.size, 4, none⟩ (.string ⟨#[]⟩))) := (HB2.out.setCell (p := ⟨wr.heap.size, 3, none⟩) (Nat.le_refl _) _).setCell (p := ⟨wr.heap.size, 4, none⟩) (Nat.le_refl _) _
                have HID : Hid (idleV ⟨false, false, ⟨#[]⟩, ⟨#[]⟩⟩ = true) := by show (false == false && decide ((⟨#[]⟩ : ByteArray) = ⟨#[]⟩)) = true; simp
                go_wp2
                go_roundw
                case rel => exact ⟨q + 1, a', c', HLT.out, by go_num, by rw [HWT.out, actL_idle k ⟨false, false, ⟨#[]⟩, ⟨#[]⟩⟩ HID.out, List.append_nil, ← HNW.out], by rw [HWT.out, actL_idle k ⟨false, false, ⟨#[]⟩, ⟨#[]⟩⟩ HID.out, List.append_nil]; exact HO.out.below HBU.out, Below.next HBR.out HBU.out⟩
                case measure => have := HLT.out; simp [intOf]; omega
          · obtain rfl : n2 = q := by omega
            have hql : l.take n2 = l := by rw [HN2.out]; exact List.take_length
            have HWW : Hid (wl = wantD l) := by rw [HWL.out, hql]; exact rfl
            have HOL := HO.out.at
            rw [HWW.out] at HOL
            have HOL := hide HOL
            clear hql hq
            have HNE : Hid (nw = (wantD l).length) := by rw [HNW.out, HWW.out]; exact rfl
            go_wp2_with fail
            refine (samec_same _ _ (wantD l) _ (by have := HWN.out; omega) HLW_8.out HOL.out).mono ?_
            rintro e U9 ⟨rfl, hb⟩
            have HBX := hide (Below.next HB_8.out hb)
            clear hb
            go_wp2
            rw [HQ.out]
            exact ⟨rfl, HBX.out⟩
end Go.Proofs.YtkdmocnjpajfkaaDoor
