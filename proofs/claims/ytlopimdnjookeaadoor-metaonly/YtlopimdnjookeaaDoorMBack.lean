import Derived.Test.YtlopimdnjookeaaDoorMtLawKit
namespace Go.Proofs.YtlopimdnjookeaaDoor
open Go.RowKit

set_option maxRecDepth 100000 in
set_option maxHeartbeats 8000000 in
theorem back_any (A : Nat → Addr) (p r : Int) (t : Nat) (w : World) (hn : (⟨p, r, t⟩ : Mt).num) (hE : ErrsAt A w) (hT : Tab w) :
    Calls Tryd.prog 4 #[.agg #[.int .i64 p, .int .i64 r, .int .u64 (t : Int)]] w fun e w' => e = .returned (.bool true) ∧ Below w.heap.size w w' := by
  have HN := hide hn
  have ht : t < 18446744073709551616 := hn.2.2.2.2
  have HE := hide hE
  have HTB := hide hT
  have HB := hide (below_new w (.cells #[.int .i64 p, .int .i64 r, .int .u64 (t : Int)] 31))
  clear hn hE hT
  go_enter Tryd.func4, Tryd.ntmps4
  go_wp2_with fail
  refine (tidy_any p r t _ HN.out.1 HN.out.2.1 HN.out.2.2.1 HN.out.2.2.2.1).mono ?_
  rintro e w1 ⟨P, R, rfl, hm, hb1⟩
  have HM := hide hm
  have hp1 : 4 ≤ P := hm.1.1
  have hp2 : P ≤ 1048576 := hm.1.2
  have hX1 := boxed_new w1 #[.int .i64 P, .int .i64 R, .int .u64 (t : Int)] 31
  have hB1 := Below.next (Below.next HB.out hb1) (below_new w1 (.cells #[.int .i64 P, .int .i64 R, .int .u64 (t : Int)] 31))
  have HX1 := hide hX1
  have HB1 := hide hB1
  clear hm hb1 hX1 hB1
  obtain ⟨S, hS⟩ : ∃ S, (t : Int) % 2 = S := ⟨_, rfl⟩
  have hS0 : 0 ≤ S := by omega
  have hS1 : S < 2 := by omega
  have HS : Hid (S = ((t % 2 : Nat) : Int)) := by show _ = _; omega
  have HEN : Hid (∀ w, Tab w → Calls Tryd.prog 18 #[.agg #[.int .i64 P, .int .i64 R, .int .u64 (t : Int)]] w fun e w' => ∃ g, e = .returned (.tuple #[.slice (some ⟨g, 0, none⟩) 512 512, .nilIface]) ∧ RowT 5 w' g (mpage ⟨P, R, t⟩) ∧ w.heap.size ≤ g ∧ Below w.heap.size w w') := fun w h => encode_ok ⟨P, R, t⟩ w HM.out ht h
  have HPL := hide (mpage_len ⟨P, R, t⟩)
  have HDC : Hid (∀ w g pages slot, RowT 5 w g (mpage ⟨P, R, t⟩) → EnvM (A 0) (A 1) w → Calls Tryd.prog 19 #[.slice (some ⟨g, 0, none⟩) 512 512, .int .i64 pages, .int .i64 slot] w fun e w' => e = .returned (.tuple (decV (A 0) (A 1) (mpage ⟨P, R, t⟩) pages slot)) ∧ Below w.heap.size w w') := fun w g pages slot h hE => decode_any (A 0) (A 1) _ _ pages slot w (rda_row h HPL.out 512) (by rw [HPL.out]; decide) hE.tab hE.arg hE.text
  have HD1 : Hid (decV (A 0) (A 1) (mpage ⟨P, R, t⟩) P S = #[.agg #[.int .i64 P, .int .i64 R, .int .u64 (t : Int)], .nilIface]) := by
    show _ = _
    rw [HS.out]; exact decV_own _ _ ⟨P, R, t⟩ HM.out ht
  have HD2 : Hid (decV (A 0) (A 1) (mpage ⟨P, R, t⟩) P (1 - S) = #[zMt, .iface 108 (.pointer (some (A 1)))]) :=
    decV_other _ _ ⟨P, R, t⟩ HM.out ht P (1 - S) HM.out.1 ⟨by omega, by omega⟩ (by rintro ⟨_, h⟩; have := HS.out; simp only at h; omega)
  have HD3 : Hid (∀ o, 4 ≤ o → o ≤ 5 → P ≠ o → decV (A 0) (A 1) (mpage ⟨P, R, t⟩) o S = #[zMt, .iface 108 (.pointer (some (A 1)))]) := fun o h1 h2 h3 =>
    decV_other _ _ ⟨P, R, t⟩ HM.out ht o S ⟨h1, by omega⟩ ⟨hS0, hS1⟩ (fun h => h3 h.1)
  have HEV : Hid (EnvM (A 0) (A 1) w) := ⟨(HE.out.1 0 (by decide)).1, (HE.out.1 1 (by decide)).1, HTB.out⟩
  go_wp2_with fail
  generalize w1.alloc (.cells #[.int .i64 P, .int .i64 R, .int .u64 (t : Int)] 31) = W1 at *
  generalize w1.heap.size = qb at *
  refine (HEN.out _ (HTB.out.below HB1.out)).mono ?_
  rintro e w2 ⟨g, rfl, hr2, hg, hb2⟩
  have HR2 := hide hr2
  have HB2 := hide (Below.next HB1.out hb2)
  have HX2 := hide (HX1.out.below hb2)
  have c0 := HX2.out.2 0 (by simp)
  simp only [List.getElem_cons_zero] at c0
  clear hr2 hg hb2 HX1 HB1
  go_wp2_with fail
  refine (HDC.out _ g P S HR2.out (HEV.out.below HB2.out)).mono ?_
  rintro e w3 ⟨rfl, hb3⟩
  rw [HD1.out]
  have hb3' := Below.next hb3 (below_new w3 (.cells #[.int .i64 P, .int .i64 R, .int .u64 (t : Int)] 31))
  have HN3 := hide (boxed_new w3 #[.int .i64 P, .int .i64 R, .int .u64 (t : Int)] 31)
  have HR3 := hide (HR2.out.below hb3')
  have HB3 := hide (Below.next HB2.out hb3')
  have HX3 := hide (HX2.out.below hb3')
  have d0 := HX3.out.2 0 (by simp)
  simp only [List.getElem_cons_zero] at d0
  clear c0 hb3 hb3' HR2 HB2 HX2
  go_wp2_with fail
  generalize w3.alloc (.cells #[.int .i64 P, .int .i64 R, .int .u64 (t : Int)] 31) = W3 at *
  generalize w3.heap.size = nb at *
  refine (HDC.out _ g P (1 - S) HR3.out (HEV.out.below HB3.out)).mono ?_
  rintro e w4 ⟨rfl, hb4⟩
  rw [HD2.out]
  have hb4' := Below.next hb4 (below_new w4 (.cells #[.int .i64 0, .int .i64 0, .int .u64 0] 31))
  have HR4 := hide (HR3.out.below hb4')
  have HB4 := hide (Below.next HB3.out hb4')
  have HX4 := hide (HX3.out.below hb4')
  have HN4 := hide (HN3.out.below hb4')
  have f0 := HX4.out.2 0 (by simp)
  simp only [List.getElem_cons_zero] at f0
  clear d0 hb4 hb4' HR3 HB3 HX3 HN3
  obtain ⟨oth, ho1, ho2, ho3, ho4⟩ : ∃ oth : Int, 4 ≤ oth ∧ oth ≤ 5 ∧ P ≠ oth ∧ (oth = if P = 4 then 5 else 4) := by
    by_cases h : P = 4
    · exact ⟨5, by omega, by omega, by omega, by rw [if_pos h]⟩
    · exact ⟨4, by omega, by omega, by omega, by rw [if_neg h]⟩
  have HD5 := hide (HD3.out oth ho1 ho2 ho3)
  have HNT : Hid (∀ w, ErrsAt A w → Calls Tryd.prog 21 #[.iface 108 (.pointer (some (A 1)))] w fun e w' => e = .returned (.int .i64 2) ∧ w = w') := fun w h => num_text A w h
  have HSL : Hid (∀ w, Calls Tryd.prog 20 #[.int .u64 (t : Int)] w fun e w' => e = .returned (.int .i64 S) ∧ w = w') := fun w => by
    rw [HS.out]; exact slot_any t w ht
  have meq := mt_self
  have HO : Hid (oth = if P = 4 then 5 else 4) := ho4
  clear ho1 ho2 ho3 ho4
  by_cases h4 : P = 4
  · rw [if_pos h4] at HO
    have h4b : (P == 4) = true := by rw [h4]; rfl
    have e5 : oth = 5 := HO.out
    subst e5
    clear h4
    go_wp2_with fail
    generalize w4.alloc (.cells #[.int .i64 0, .int .i64 0, .int .u64 0] 31) = W4 at *
    generalize w4.heap.size = mb at *
    refine (HDC.out _ g 5 S HR4.out (HEV.out.below HB4.out)).mono ?_
    rintro e w5 ⟨rfl, hb5⟩
    rw [HD5.out]
    have hb5' := Below.next hb5 (below_new w5 (.cells #[.int .i64 0, .int .i64 0, .int .u64 0] 31))
    have HB5 := hide (Below.next HB4.out hb5')
    have HX5 := HX4.out.below hb5'
    have HN5 := HN4.out.below hb5'
    have x0 := HX5.2 0 (by simp)
    have x1 := HX5.2 1 (by simp)
    have x2 := HX5.2 2 (by simp)
    have y0 := HN5.2 0 (by simp)
    have y1 := HN5.2 1 (by simp)
    have y2 := HN5.2 2 (by simp)
    simp only [List.getElem_cons_zero, List.getElem_cons_succ] at x0 x1 x2 y0 y1 y2
    clear f0 hb5 hb5' HX5 HN5 HX4 HN4 HR4 HB4
    go_wp2_with fail
    generalize w5.alloc (.cells #[.int .i64 0, .int .i64 0, .int .u64 0] 31) = W5 at *
    refine (HSL.out _).mono ?_
    rintro e w' ⟨rfl, rfl⟩
    go_wp2_with fail
    refine (HNT.out _ (HE.out.below HB5.out)).mono ?_
    rintro e w' ⟨rfl, rfl⟩
    go_wp2_with fail
    refine (HNT.out _ (HE.out.below HB5.out)).mono ?_
    rintro e w' ⟨rfl, rfl⟩
    go_wp2_with fail
    go_ret
    exact ⟨rfl, HB5.out⟩
  · rw [if_neg h4] at HO
    have h4b : (P == 4) = false := beq_eq_false_iff_ne.2 h4
    have e5 : oth = 4 := HO.out
    subst e5
    clear h4
    go_wp2_with fail
    generalize w4.alloc (.cells #[.int .i64 0, .int .i64 0, .int .u64 0] 31) = W4 at *
    generalize w4.heap.size = mb at *
    refine (HDC.out _ g 4 S HR4.out (HEV.out.below HB4.out)).mono ?_
    rintro e w5 ⟨rfl, hb5⟩
    rw [HD5.out]
    have hb5' := Below.next hb5 (below_new w5 (.cells #[.int .i64 0, .int .i64 0, .int .u64 0] 31))
    have HB5 := hide (Below.next HB4.out hb5')
    have HX5 := HX4.out.below hb5'
    have HN5 := HN4.out.below hb5'
    have x0 := HX5.2 0 (by simp)
    have x1 := HX5.2 1 (by simp)
    have x2 := HX5.2 2 (by simp)
    have y0 := HN5.2 0 (by simp)
    have y1 := HN5.2 1 (by simp)
    have y2 := HN5.2 2 (by simp)
    simp only [List.getElem_cons_zero, List.getElem_cons_succ] at x0 x1 x2 y0 y1 y2
    clear f0 hb5 hb5' HX5 HN5 HX4 HN4 HR4 HB4
    go_wp2_with fail
    generalize w5.alloc (.cells #[.int .i64 0, .int .i64 0, .int .u64 0] 31) = W5 at *
    refine (HSL.out _).mono ?_
    rintro e w' ⟨rfl, rfl⟩
    go_wp2_with fail
    refine (HNT.out _ (HE.out.below HB5.out)).mono ?_
    rintro e w' ⟨rfl, rfl⟩
    go_wp2_with fail
    refine (HNT.out _ (HE.out.below HB5.out)).mono ?_
    rintro e w' ⟨rfl, rfl⟩
    go_wp2_with fail
    go_ret
    exact ⟨rfl, HB5.out⟩

end Go.Proofs.YtlopimdnjookeaaDoor
