import Derived.Test.YtlopimdnjookeaaDoorMBack
namespace Go.Proofs.YtlopimdnjookeaaDoor
open Go.RowKit

theorem same_below {w : World} {v1 v2 : Value} {l : List UInt8} (h1 : RdA w v1 l) (h2 : RdA w v2 l) (hm : l.length ≤ 140737488355328) : Calls Tryd.prog 22 #[v1, v2] w fun e w' => e = .returned (.bool true) ∧ Below w.heap.size w w' := by
  have h := same_any v1 v2 l l w hm hm h1 h2
  rw [decide_eq_true rfl] at h
  exact h

set_option maxRecDepth 100000 in
set_option maxHeartbeats 8000000 in
theorem only_any (A : Nat → Addr) (a : Option Addr) (n c : Nat) (l : List UInt8) (pages slot : Int) (w : World) (hv : RdA w (.slice a n c) l) (hm : l.length ≤ 140737488355328) (hE : ErrsAt A w) (hT : Tab w) :
    Calls Tryd.prog 6 #[.agg #[.slice a n c, .int .i64 pages, .int .i64 slot]] w fun e w' => e = .returned (.bool true) ∧ Below w.heap.size w w' := by
  have HV := hide hv
  have HMX := hide hm
  have HE := hide hE
  have HTB := hide hT
  have HB := hide (below_new w (.cells #[.slice a n c, .int .i64 pages, .int .i64 slot] 54))
  have HX := hide (boxed_new w #[.slice a n c, .int .i64 pages, .int .i64 slot] 54)
  have HEV : Hid (EnvM (A 0) (A 1) w) := ⟨(HE.out.1 0 (by decide)).1, (HE.out.1 1 (by decide)).1, HTB.out⟩
  have HBK : Hid (∀ w, ErrsAt A w → Tab w → Calls Tryd.prog 4 #[.agg #[.int .i64 9, .int .i64 3, .int .u64 12]] w fun e w' => e = .returned (.bool true) ∧ Below w.heap.size w w') := fun w h1 h2 => back_any A 9 3 12 w (by unfold Mt.num; simp only; omega) h1 h2
  have HDC : Hid (∀ w, RdA w (.slice a n c) l → EnvM (A 0) (A 1) w → Calls Tryd.prog 19 #[.slice a n c, .int .i64 pages, .int .i64 slot] w fun e w' => e = .returned (.tuple (decV (A 0) (A 1) l pages slot)) ∧ Below w.heap.size w w') := fun w h hE => decode_any (A 0) (A 1) _ _ pages slot w h HMX.out hE.tab hE.arg hE.text
  have HN1 : Hid (∀ w, ErrsAt A w → Calls Tryd.prog 21 #[.iface 108 (.pointer (some (A 0)))] w fun e w' => e = .returned (.int .i64 1) ∧ w = w') := fun w h => num_arg A w h
  have HN2 : Hid (∀ w, ErrsAt A w → Calls Tryd.prog 21 #[.iface 108 (.pointer (some (A 1)))] w fun e w' => e = .returned (.int .i64 2) ∧ w = w') := fun w h => num_text A w h
  have zeq := mt_self
  clear hv hm hE hT
  go_enter Tryd.func6, Tryd.ntmps6
  go_wp2_with fail
  generalize w.alloc (.cells #[.slice a n c, .int .i64 pages, .int .i64 slot] 54) = W0 at *
  refine (HBK.out _ (HE.out.below HB.out) (HTB.out.below HB.out)).mono ?_
  rintro e w1 ⟨rfl, hb1⟩
  have HB1 := hide (Below.next HB.out hb1)
  have HX1 := hide (HX.out.below hb1)
  have c0 := HX1.out.2 0 (by simp)
  have c1 := HX1.out.2 1 (by simp)
  have c2 := HX1.out.2 2 (by simp)
  simp only [List.getElem_cons_zero, List.getElem_cons_succ] at c0 c1 c2
  clear hb1 HB HX HBK
  go_wp2_with fail
  refine (HDC.out _ (HV.out.below HB1.out) (HEV.out.below HB1.out)).mono ?_
  rintro e w2 ⟨rfl, hb2⟩
  by_cases h1 : 4 ≤ pages
  · by_cases h2 : pages ≤ 1048576
    · by_cases hs : slot = 0 ∨ slot = 1
      · by_cases hok : okM l pages slot
        · have hdv : decV (A 0) (A 1) l pages slot = #[.agg (parseM l).cells.toArray, .nilIface] := by
            unfold decV
            rw [if_neg (by rintro (h | h); exact h ⟨h1, h2⟩; exact h (by omega)), if_pos hok]
          rcases hs with rfl | rfl
          · have k0 : ((0 : Int) == 0) = true := rfl
            rw [hdv]
            have HOK := hide hok
            have hnum := parseM_num l hok.1
            have HFB : Hid (mpage (parseM l) = l) := hok.2.2.2.2
            have HPG : Hid ((parseM l).pages = pages) := hok.2.1
            have HSL : Hid ((((parseM l).txid % 2 : Nat) : Int) = 0) := hok.2.2.2.1
            have HMY : Hid (MayM (parseM l)) := hok.2.2.1
            clear hok hdv HOK
            obtain ⟨mt, hmt⟩ : ∃ mt, mt = parseM l := ⟨_, rfl⟩
            rw [← hmt] at HFB HPG HSL HMY hnum ⊢
            clear hmt
            obtain ⟨P, R, T⟩ := mt
            have ht : T < 18446744073709551616 := hnum.2.2.2.2
            have hS : (T : Int) % 2 = 0 := by have := HSL.out; simp only at this; omega
            have hP : P = pages := HPG.out
            subst hP
            clear hnum
            simp only [Mt.cells]
            have hb2' := Below.next hb2 (below_new w2 (.cells #[.int .i64 P, .int .i64 R, .int .u64 (T : Int)] 31))
            have HB2 := hide (Below.next HB1.out hb2')
            have HX2 := hide (HX1.out.below hb2')
            have HN3 := hide (boxed_new w2 #[.int .i64 P, .int .i64 R, .int .u64 (T : Int)] 31)
            have d1 := HX2.out.2 1 (by simp)
            have d2 := HX2.out.2 2 (by simp)
            simp only [List.getElem_cons_zero, List.getElem_cons_succ] at d1 d2
            clear hb2 hb2' HX1 c0 c1 c2 HB1
            go_wp2_with fail
            generalize w2.alloc (.cells #[.int .i64 P, .int .i64 R, .int .u64 (T : Int)] 31) = W2 at *
            generalize w2.heap.size = nb at *
            refine (encode_ok ⟨P, R, T⟩ _ HMY.out ht (HTB.out.below HB2.out)).mono ?_
            rintro e w3 ⟨g, rfl, hr3, hg, hb3⟩
            have HB3 := hide (Below.next HB2.out hb3)
            have HX3 := hide (HX2.out.below hb3)
            have HN4 := hide (HN3.out.below hb3)
            have e0 := HX3.out.2 0 (by simp)
            simp only [List.getElem_cons_zero] at e0
            rw [HFB.out] at hr3
            have HR3 := hide hr3
            have HL5 : Hid (l.length = 512) := by show _ = _; rw [← HFB.out]; exact mpage_len _
            clear hb3 HB2 HX2 HN3 d1 d2 hr3 hg
            go_wp2_with fail
            refine (same_below (rda_row HR3.out HL5.out 512) (HV.out.below HB3.out) HMX.out).mono ?_
            rintro e w4 ⟨rfl, hb4⟩
            have HB4 := hide (Below.next HB3.out hb4)
            have HX4 := HX3.out.below hb4
            have HN5 := HN4.out.below hb4
            have f1 := HX4.2 1 (by simp)
            have f2 := HX4.2 2 (by simp)
            have g0 := HN5.2 0 (by simp)
            have g2 := HN5.2 2 (by simp)
            simp only [List.getElem_cons_zero, List.getElem_cons_succ] at f1 f2 g0 g2
            clear hb4 HB3 HX3 HN4 HX4 HN5 e0
            go_wp2_with fail
            go_ret
            exact ⟨rfl, HB4.out⟩
          · have k0 : ((1 : Int) == 0) = false := rfl
            have k1 : ((1 : Int) == 1) = true := rfl
            rw [hdv]
            have HOK := hide hok
            have hnum := parseM_num l hok.1
            have HFB : Hid (mpage (parseM l) = l) := hok.2.2.2.2
            have HPG : Hid ((parseM l).pages = pages) := hok.2.1
            have HSL : Hid ((((parseM l).txid % 2 : Nat) : Int) = 1) := hok.2.2.2.1
            have HMY : Hid (MayM (parseM l)) := hok.2.2.1
            clear hok hdv HOK
            obtain ⟨mt, hmt⟩ : ∃ mt, mt = parseM l := ⟨_, rfl⟩
            rw [← hmt] at HFB HPG HSL HMY hnum ⊢
            clear hmt
            obtain ⟨P, R, T⟩ := mt
            have ht : T < 18446744073709551616 := hnum.2.2.2.2
            have hS : (T : Int) % 2 = 1 := by have := HSL.out; simp only at this; omega
            have hP : P = pages := HPG.out
            subst hP
            clear hnum
            simp only [Mt.cells]
            have hb2' := Below.next hb2 (below_new w2 (.cells #[.int .i64 P, .int .i64 R, .int .u64 (T : Int)] 31))
            have HB2 := hide (Below.next HB1.out hb2')
            have HX2 := hide (HX1.out.below hb2')
            have HN3 := hide (boxed_new w2 #[.int .i64 P, .int .i64 R, .int .u64 (T : Int)] 31)
            have d1 := HX2.out.2 1 (by simp)
            have d2 := HX2.out.2 2 (by simp)
            simp only [List.getElem_cons_zero, List.getElem_cons_succ] at d1 d2
            clear hb2 hb2' HX1 c0 c1 c2 HB1
            go_wp2_with fail
            generalize w2.alloc (.cells #[.int .i64 P, .int .i64 R, .int .u64 (T : Int)] 31) = W2 at *
            generalize w2.heap.size = nb at *
            refine (encode_ok ⟨P, R, T⟩ _ HMY.out ht (HTB.out.below HB2.out)).mono ?_
            rintro e w3 ⟨g, rfl, hr3, hg, hb3⟩
            have HB3 := hide (Below.next HB2.out hb3)
            have HX3 := hide (HX2.out.below hb3)
            have HN4 := hide (HN3.out.below hb3)
            have e0 := HX3.out.2 0 (by simp)
            simp only [List.getElem_cons_zero] at e0
            rw [HFB.out] at hr3
            have HR3 := hide hr3
            have HL5 : Hid (l.length = 512) := by show _ = _; rw [← HFB.out]; exact mpage_len _
            clear hb3 HB2 HX2 HN3 d1 d2 hr3 hg
            go_wp2_with fail
            refine (same_below (rda_row HR3.out HL5.out 512) (HV.out.below HB3.out) HMX.out).mono ?_
            rintro e w4 ⟨rfl, hb4⟩
            have HB4 := hide (Below.next HB3.out hb4)
            have HX4 := HX3.out.below hb4
            have HN5 := HN4.out.below hb4
            have f1 := HX4.2 1 (by simp)
            have f2 := HX4.2 2 (by simp)
            have g0 := HN5.2 0 (by simp)
            have g2 := HN5.2 2 (by simp)
            simp only [List.getElem_cons_zero, List.getElem_cons_succ] at f1 f2 g0 g2
            clear hb4 HB3 HX3 HN4 HX4 HN5 e0
            go_wp2_with fail
            go_ret
            exact ⟨rfl, HB4.out⟩
        · have hdv : decV (A 0) (A 1) l pages slot = #[zMt, .iface 108 (.pointer (some (A 1)))] := by
            unfold decV
            rw [if_neg (by rintro (h | h); exact h ⟨h1, h2⟩; exact h (by omega)), if_neg hok]
          rw [hdv]
          clear hdv hok
          rcases hs with rfl | rfl
          · have k0 : ((0 : Int) == 0) = true := rfl
            have hb2' := Below.next hb2 (below_new w2 (.cells #[.int .i64 0, .int .i64 0, .int .u64 0] 31))
            have HB2 := hide (Below.next HB1.out hb2')
            have HX2 := HX1.out.below hb2'
            have d1 := HX2.2 1 (by simp)
            have d2 := HX2.2 2 (by simp)
            simp only [List.getElem_cons_zero, List.getElem_cons_succ] at d1 d2
            clear hb2 hb2' HX2 HX1 c0 c1 c2 HB1
            go_wp2_with fail
            generalize w2.alloc (.cells #[.int .i64 0, .int .i64 0, .int .u64 0] 31) = W2 at *
            refine (HN2.out _ (HE.out.below HB2.out)).mono ?_
            rintro e w' ⟨rfl, rfl⟩
            go_wp2_with fail
            go_ret
            exact ⟨rfl, HB2.out⟩
          · have k0 : ((1 : Int) == 0) = false := rfl
            have k1 : ((1 : Int) == 1) = true := rfl
            have hb2' := Below.next hb2 (below_new w2 (.cells #[.int .i64 0, .int .i64 0, .int .u64 0] 31))
            have HB2 := hide (Below.next HB1.out hb2')
            have HX2 := HX1.out.below hb2'
            have d1 := HX2.2 1 (by simp)
            have d2 := HX2.2 2 (by simp)
            simp only [List.getElem_cons_zero, List.getElem_cons_succ] at d1 d2
            clear hb2 hb2' HX2 HX1 c0 c1 c2 HB1
            go_wp2_with fail
            generalize w2.alloc (.cells #[.int .i64 0, .int .i64 0, .int .u64 0] 31) = W2 at *
            refine (HN2.out _ (HE.out.below HB2.out)).mono ?_
            rintro e w' ⟨rfl, rfl⟩
            go_wp2_with fail
            go_ret
            exact ⟨rfl, HB2.out⟩
      · have hdv : decV (A 0) (A 1) l pages slot = #[zMt, .iface 108 (.pointer (some (A 0)))] := by
          unfold decV
          rw [if_pos (.inr (fun h => hs (by omega)))]
        rw [hdv]
        have k0 : (slot == 0) = false := beq_eq_false_iff_ne.2 (fun h => hs (.inl h))
        have k1 : (slot == 1) = false := beq_eq_false_iff_ne.2 (fun h => hs (.inr h))
        clear hdv hs
        have hb2' := Below.next hb2 (below_new w2 (.cells #[.int .i64 0, .int .i64 0, .int .u64 0] 31))
        have HB2 := hide (Below.next HB1.out hb2')
        have HX2 := HX1.out.below hb2'
        have d1 := HX2.2 1 (by simp)
        have d2 := HX2.2 2 (by simp)
        simp only [List.getElem_cons_zero, List.getElem_cons_succ] at d1 d2
        clear hb2 hb2' HX2 HX1 c0 c1 c2 HB1
        go_wp2_with fail
        generalize w2.alloc (.cells #[.int .i64 0, .int .i64 0, .int .u64 0] 31) = W2 at *
        refine (HN1.out _ (HE.out.below HB2.out)).mono ?_
        rintro e w' ⟨rfl, rfl⟩
        go_wp2_with fail
        go_ret
        exact ⟨rfl, HB2.out⟩
    · have hdv : decV (A 0) (A 1) l pages slot = #[zMt, .iface 108 (.pointer (some (A 0)))] := by
        unfold decV
        rw [if_pos (.inl (fun h => h2 h.2))]
      rw [hdv]
      clear hdv
      have hb2' := Below.next hb2 (below_new w2 (.cells #[.int .i64 0, .int .i64 0, .int .u64 0] 31))
      have HB2 := hide (Below.next HB1.out hb2')
      have HX2 := HX1.out.below hb2'
      have d1 := HX2.2 1 (by simp)
      have d2 := HX2.2 2 (by simp)
      simp only [List.getElem_cons_zero, List.getElem_cons_succ] at d1 d2
      clear hb2 hb2' HX2 HX1 c0 c1 c2 HB1
      go_wp2_with fail
      generalize w2.alloc (.cells #[.int .i64 0, .int .i64 0, .int .u64 0] 31) = W2 at *
      refine (HN1.out _ (HE.out.below HB2.out)).mono ?_
      rintro e w' ⟨rfl, rfl⟩
      go_wp2_with fail
      go_ret
      exact ⟨rfl, HB2.out⟩
  · have hdv : decV (A 0) (A 1) l pages slot = #[zMt, .iface 108 (.pointer (some (A 0)))] := by
      unfold decV
      rw [if_pos (.inl (fun h => h1 h.1))]
    rw [hdv]
    clear hdv
    have hb2' := Below.next hb2 (below_new w2 (.cells #[.int .i64 0, .int .i64 0, .int .u64 0] 31))
    have HB2 := hide (Below.next HB1.out hb2')
    have HX2 := HX1.out.below hb2'
    have d1 := HX2.2 1 (by simp)
    have d2 := HX2.2 2 (by simp)
    simp only [List.getElem_cons_zero, List.getElem_cons_succ] at d1 d2
    clear hb2 hb2' HX2 HX1 c0 c1 c2 HB1
    go_wp2_with fail
    generalize w2.alloc (.cells #[.int .i64 0, .int .i64 0, .int .u64 0] 31) = W2 at *
    refine (HN1.out _ (HE.out.below HB2.out)).mono ?_
    rintro e w' ⟨rfl, rfl⟩
    go_wp2_with fail
    go_ret
    exact ⟨rfl, HB2.out⟩

end Go.Proofs.YtlopimdnjookeaaDoor
