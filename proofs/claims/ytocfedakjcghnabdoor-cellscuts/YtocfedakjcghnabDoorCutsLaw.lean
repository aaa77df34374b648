import Derived.Test.YtocfedakjcghnabDoorRCut
import Derived.Test.YtocfedakjcghnabDoorSameI
namespace Go.Proofs.YtocfedakjcghnabDoor
open Go.RowKit

theorem owns_setCell_ne {w : World} {base e n g j : Nat} {v u : Value} {us : List Value} (h : w.ownsRow base e 1 v n us) (hne : v.ownBlock ≠ some g) : (w.setCell ⟨g, j, none⟩ u).ownsRow base e 1 v n us := by
  refine ⟨h.1, ?_⟩
  rcases h.2 with h' | ⟨g', cap, cur, rfl, hb, hg, hnc, hcm, hcs, htk⟩
  · exact .inl h'
  · exact .inr ⟨g', cap, cur, rfl, hb, (Below.heap_setCell w ⟨g, j, none⟩ u g' (fun e => hne (by rw [e]; rfl))).trans hg, hnc, hcm, hcs, htk⟩
theorem owns_below {w w' : World} {base e n : Nat} {v : Value} {us : List Value} (h : w.ownsRow base e 1 v n us) (hb : Below w.heap.size w w') : w'.ownsRow base e 1 v n us := by
  refine ⟨h.1, ?_⟩
  rcases h.2 with h' | ⟨g', cap, cur, rfl, hbg, hg, hnc, hcm, hcs, htk⟩
  · exact .inl h'
  · have hlt : g' < w.heap.size := by
      rcases Nat.lt_or_ge g' w.heap.size with h' | h'
      · exact h'
      · rw [Array.getElem?_eq_none h'] at hg; cases hg
    exact .inr ⟨g', cap, cur, rfl, hbg, (hb.block g' hlt).trans hg, hnc, hcm, hcs, htk⟩
/-- The numbers as far as k turned round. -/
def turned (l : List Int) (k : Nat) : List Int := l.reverse.take k ++ l.drop k
theorem turned_len (l : List Int) (k : Nat) (h : k ≤ l.length) : (turned l k).length = l.length := by simp [turned]; omega
theorem turned_zero (l : List Int) : turned l 0 = l := by simp [turned]
theorem turned_all (l : List Int) : turned l l.length = l.reverse := by
  unfold turned; rw [List.take_of_length_le (by simp), List.drop_length, List.append_nil]
theorem turned_set (l : List Int) (k : Nat) (h : k < l.length) : (turned l k).set k l[l.length - 1 - k] = turned l (k + 1) := by
  unfold turned
  have hr : k < l.reverse.length := by simpa using h
  rw [List.take_succ_eq_append_getElem hr, List.set_append_right _ _ (by simp; omega), List.getElem_reverse]
  rw [List.drop_eq_getElem_cons h, show k - (List.take k l.reverse).length = 0 by simp; omega, List.set_cons_zero]
  simp
theorem ints_set (l : List Int) (k : Nat) (x : Int) : (ints l).set k (.int .i64 x) = ints (l.set k x) := by simp [ints, List.map_set]

set_option maxRecDepth 100000 in
set_option maxHeartbeats 16000000 in
theorem cuts_any (A : Nat → Addr) (v : Value) (l : List Int) (w : World) (hm : l.length ≤ 17592186043904) (hr : RowR w v (ints l)) (hE : ErrsG 4 gAll A w) :
    Calls Tryd.prog 3 #[v] w fun e w' => e = .returned (.bool true) ∧ Below w.heap.size w w' := by
  have HR := hide hr
  have HE := hide hE
  have hform : ∃ a c, v = .slice a l.length c := by
    obtain ⟨a, c, rfl, _⟩ := hr
    exact ⟨a, c, by rw [ints_length]⟩
  obtain ⟨va, vc, rfl⟩ := hform
  obtain ⟨n, hn⟩ : ∃ n, n = l.length := ⟨_, rfl⟩
  rw [← hn] at hm
  rw [← hn]
  rw [← hn] at HR
  have HN := hide hn
  clear hr hE hn
  obtain ⟨a1, c1, w1, hrun1, ho1, hg1⟩ := append_row 22 3 _ 8 info3 Tryd.underlying22 rfl w.heap.size 0 (.slice none 0 0) [] w (World.ownsRow_nil _ _ _ _) _ _ HR.out (ints_one l) (by rw [ints_length, ← HN.out]; omega) (by decide) (Nat.le_refl _)
  rw [ints_length, ← HN.out, Nat.zero_add] at hrun1 ho1
  rw [List.nil_append] at ho1
  have hb1 : Below w.heap.size w w1 := (Below.refl _ _).grown hg1 (Nat.le_refl _) (fun j hj => by cases hj)
  obtain ⟨a2, c2, w2, hrun2, ho2, hg2⟩ := append_row 22 3 _ 8 info3 Tryd.underlying22 rfl w.heap.size n (.slice a1 n c1) (ints l) (w1.alloc (.cells #[.int .i64 (-9)] 3)) (ho1.alloc _) (.slice (some ⟨w1.heap.size, 0, none⟩) 1 1) (ints [-9]) (rowR_of_owns (World.ownsRow_lit (base := 0) (e := 3) (size := 1) w1 #[.int .i64 (-9)] 1 (Nat.zero_le _) (by decide) rfl)) (ints_one _) (by rw [ints_length]; show (n + 1) * 8 ≤ _; omega) (by decide) (by have := hb1.size; simp; omega)
  rw [ints_length, show ([(-9 : Int)] : List Int).length = 1 from rfl] at hrun2 ho2
  rw [← ints_append] at ho2
  have hb2 : Below w.heap.size w w2 := (hb1.alloc (by have := hb1.size; omega) _).grown hg2 (by have := hb1.size; simp; omega) (fun j hj => (ho1.lt j hj).1)
  have hform2 := ho2.form (by omega)
  obtain ⟨g2, c2', he2, hgb2, hgl2⟩ := hform2
  cases he2
  have HO2 := hide ho2
  have HB2 := hide hb2
  have HI2 : Hid (RowR w2 (.slice (some ⟨g2, 0, none⟩) n c2) (ints l)) := by
    have h := (rowR_of_owns ho2).take (m := n) (by omega)
    rw [ints_append, List.take_append_of_le_length (by rw [ints_length, ← HN.out]; exact Nat.le_refl _), List.take_of_length_le (by rw [ints_length, ← HN.out]; exact Nat.le_refl _)] at h
    exact h
  have hc2 : n ≤ c2 := by
    obtain ⟨_, _, he, hle, _⟩ := HI2.out
    cases he; rw [ints_length, ← HN.out] at hle; exact hle
  have hc2I : (n : Int) ≤ (c2 : Int) := by omega
  have hn0 : (0 : Int) ≤ (n : Int) := by omega
  clear ho1 ho2 hb1 hb2 hg1 hg2
  go_enter Tryd.func3, Tryd.ntmps3
  go_wp2_with (first | (at_builtin; refine wpList_append_run 22 rfl (.tmp 18) (.tmp 19) rfl rfl _ _ rfl rfl _ _ hrun1 ?_) | (at_builtin; refine wpList_append_run 22 rfl (.tmp 21) (.tmp 22) rfl rfl _ _ rfl rfl _ _ hrun2 ?_))
  clear hrun1 hrun2
  refine (cut_any A _ l w2 (by rw [← HN.out]; omega) HI2.out.ints (errs_below HE.out HB2.out)).mono ?_
  rintro e w3 ⟨hcv, hb3⟩
  obtain ⟨i1, n1, ev1, rfl, hcn1, hno1⟩ := hcv.num
  have HC1 : Hid (CutN 2 (gapC l) l i1 n1 ∧ NumOf A ev1 n1) := ⟨hcn1, hno1⟩
  have HB3 := hide (Below.next HB2.out hb3)
  have HO3 := hide (owns_below HO2.out hb3)
  have HI3 := hide (HI2.out.below hb3)
  clear hcv hb3 hcn1 hno1 HB2 HI2 HO2
  go_wp2_with fail
  refine (pivot_any A _ l w3 (by rw [← HN.out]; omega) HI3.out.ints (errs_below HE.out HB3.out)).mono ?_
  rintro e w4 ⟨hcv, hb4⟩
  obtain ⟨i2, n2, ev2, rfl, hcn2, hno2⟩ := hcv.num
  have HC2 : Hid (CutN 3 (gapP l) l i2 n2 ∧ NumOf A ev2 n2) := ⟨hcn2, hno2⟩
  have HB4 := hide (Below.next HB3.out hb4)
  have HO4 := hide (owns_below HO3.out hb4)
  have HI4 := hide (HI3.out.below hb4)
  clear hcv hb4 hcn2 hno2 HB3 HI3 HO3
  obtain ⟨a5, c5, w5, hrun5, ho5, hg5⟩ := append_row 22 3 _ 8 info3 Tryd.underlying22 rfl w4.heap.size 0 (.slice none 0 0) [] w4 (World.ownsRow_nil _ _ _ _) _ _ (HR.out.below HB4.out) (ints_one l) (by rw [ints_length, ← HN.out]; omega) (by decide) (Nat.le_refl _)
  rw [ints_length, ← HN.out, Nat.zero_add] at hrun5 ho5
  rw [List.nil_append] at ho5
  have hb5 : Below w4.heap.size w4 w5 := (Below.refl _ _).grown hg5 (Nat.le_refl _) (fun j hj => by cases hj)
  have HB5 := hide (Below.next HB4.out hb5)
  have HG4 : Hid (g2 < w4.heap.size ∧ w.heap.size ≤ w4.heap.size) := ⟨by
    obtain ⟨g', c', he, hb, hl⟩ := HO4.out.form (by omega)
    cases he; exact hl, HB4.out.size⟩
  have HO5 := hide (owns_below HO4.out hb5)
  have HI5 := hide (HI4.out.below hb5)
  have HP5 := hide ho5
  have HV5 := hide (HR.out.below HB5.out)
  generalize w4.heap.size = q4 at *
  clear ho5 hb5 hg5 HO4 HI4 HB4
  go_wp2_with (first | (at_builtin; refine wpList_append_run 22 rfl (.tmp 38) (.tmp 39) rfl rfl _ _ rfl rfl _ _ hrun5 ?_))
  clear hrun5
  refine (rcut_any _ l w5 (by rw [← HN.out]; omega) (rowR_of_owns HP5.out).ints).mono ?_
  rintro e w' ⟨k1, m1, rfl, hcn, rfl⟩
  obtain ⟨rfl, rfl⟩ := HC1.out.1.unique hcn
  clear hcn
  go_wp2_with fail
  refine (rpivot_any _ l w5 (by rw [← HN.out]; omega) (rowR_of_owns HP5.out).ints).mono ?_
  rintro e w' ⟨k2, m2, rfl, hcn, rfl⟩
  obtain ⟨rfl, rfl⟩ := HC2.out.1.unique hcn
  clear hcn
  go_wp2_with fail
  refine (samei_any _ _ l w5 (by rw [← HN.out]; omega) HI5.out.ints HV5.out.ints).mono ?_
  rintro e w6 ⟨rfl, hb6⟩
  have HB6 := hide (Below.next HB5.out hb6)
  have HO6 := hide (owns_below HO5.out hb6)
  have HP6 := hide (owns_below HP5.out hb6)
  have HNM := hide (fun ev c (h : NumOf A ev c) => num_of w6 h (errs_below HE.out HB6.out))
  have hlast : w6.cell? ⟨g2, n, none⟩ = some (.int .i64 (-9)) := by
    rw [HO6.out.cellAt n (by omega), ints_append, List.getElem?_append_right (by rw [ints_length, ← HN.out]; exact Nat.le_refl _), ints_length, ← HN.out, Nat.sub_self]; rfl
  have hnn : (n : Int) < ((n + 1 : Nat) : Int) := by omega
  have d1 : ((i1 : Int) != (i1 : Int)) = false := by simp
  have d2 : ((i2 : Int) != (i2 : Int)) = false := by simp
  have d3 : ((n1 : Int) != (n1 : Int)) = false := by simp
  have d4 : ((n2 : Int) != (n2 : Int)) = false := by simp
  clear hb6 HB5 HO5 HP5 HI5 HV5
  go_wp2_with fail
  refine (HNM.out ev1 n1 HC1.out.2).mono ?_
  rintro e w' ⟨rfl, rfl⟩
  go_wp2_with fail
  refine (HNM.out ev2 n2 HC2.out.2).mono ?_
  rintro e w' ⟨rfl, rfl⟩
  go_wp2_with fail
  go_loopw [15] (fun i wr => ∃ k : Nat, k ≤ n ∧ i = .int .i64 k ∧ wr.ownsRow w.heap.size 3 1 (.slice (some ⟨g2, 0, none⟩) (n + 1) c2) (n + 1) (ints (turned l k ++ [-9])) ∧ wr.ownsRow q4 3 1 (.slice a5 n c5) n (ints (turned l k)) ∧ Below w.heap.size w wr) (fun i _ => n - (intOf i).toNat)
  case atStart => exact ⟨0, Nat.zero_le _, rfl, by rw [turned_zero]; exact HO6.out, by rw [turned_zero]; exact HP6.out, HB6.out⟩
  case round =>
    obtain ⟨k, hk, rfl, hof, hoo, hbw⟩ := hrel
    clear hlast HO6 HP6 HB6 HNM
    by_cases hlt : k < n
    · have hkl : k < l.length := by have := HN.out; omega
      have hjl : n - 1 - k < l.length := by have := HN.out; omega
      obtain ⟨vg, vo, rfl, f1⟩ : ∃ g o, va = some ⟨g, o, none⟩ ∧ wr.cell? ⟨g, o + (n - 1 - k), none⟩ = some (.int .i64 l[n - 1 - k]) := by
        obtain ⟨a', c', he, _, _, hc⟩ := HR.out.below hbw
        cases he
        exact hc _ _ (ints_get l _ hjl)
      obtain ⟨vg', vo', he', f0⟩ : ∃ g o, some (⟨vg, vo, none⟩ : Addr) = some ⟨g, o, none⟩ ∧ w.cell? ⟨g, o + (n - 1 - k), none⟩ = some (.int .i64 l[n - 1 - k]) := by
        obtain ⟨a', c', he, _, _, hc⟩ := HR.out
        cases he
        exact hc _ _ (ints_get l _ hjl)
      cases he'
      have hvg : vg < w.heap.size := World.block_lt_of_cell? w _ f0
      clear f0
      obtain ⟨g5, c5', he5, hgb5, hgl5⟩ := hoo.form (by omega)
      cases he5
      have hg2b : w.heap.size ≤ g2 := by
        obtain ⟨g', c', he, hb, _⟩ := hof.form (by omega)
        cases he; exact hb
      have n1 : ¬ vg = g2 := by omega
      have n2 : ¬ g2 = vg := by omega
      have n3 : ¬ g5 = g2 := by have := HG4.out; omega
      have n4 : ¬ g2 = g5 := by have := HG4.out; omega
      have n5 : ¬ vg = g5 := by have := HG4.out; omega
      have hset : (turned l k).set k l[n - 1 - k] = turned l (k + 1) := by
        have h := turned_set l k hkl
        simp only [← HN.out] at h
        exact h
      obtain ⟨x, hx⟩ : ∃ x, x = l[n - 1 - k] := ⟨_, rfl⟩
      rw [← hx] at f1 hset
      have HSET := hide hset
      have ce1 := hof.cellAt k (by omega)
      rw [ints_get _ k (by simp [turned_len l k (by omega)]; omega)] at ce1
      have ce2 := hoo.cellAt k (by omega)
      rw [ints_get _ k (by rw [turned_len l k (by omega)]; omega)] at ce2
      generalize (turned l k ++ [-9])[k]'(by simp [turned_len l k (by omega)]; omega) = y1 at ce1
      generalize (turned l k)[k]'(by rw [turned_len l k (by omega)]; omega) = y2 at ce2
      have z1 := hof.frozenAt k
      have z2 := hoo.frozenAt k
      have hof2 := owns_setCell_ne (g := g5) (j := k) (u := .int .i64 x) (hof.stored k (.int .i64 x)).1 (by intro e; cases e; exact n4 rfl)
      have hoo2 := ((owns_setCell_ne (g := g2) (j := k) (u := .int .i64 x) hoo (by intro e; cases e; exact n3 rfl)).stored k (.int .i64 x)).1
      rw [ints_set, List.set_append_left _ _ (by rw [turned_len l k (by omega)]; omega), HSET.out] at hof2
      rw [ints_set, HSET.out] at hoo2
      have hb2 : Below w.heap.size w ((wr.setCell ⟨g2, k, none⟩ (.int .i64 x)).setCell ⟨g5, k, none⟩ (.int .i64 x)) := (hbw.setCell (by exact hg2b) _).setCell (by show w.heap.size ≤ g5; have := HG4.out; omega) _
      have HF := hide hof2
      have HO := hide hoo2
      have HBB := hide hb2
      have hw1 : IntKind.i64.wrap ((n : Int) - 1) = (n : Int) - 1 := by rw [IntKind.wrap_i64]; omega
      have hw2 : IntKind.i64.wrap ((n : Int) - 1 - (k : Int)) = ((n - 1 - k : Nat) : Int) := by rw [IntKind.wrap_i64]; omega
      have hltI : (k : Int) < (n : Int) := by omega
      have hj1 : ((n - 1 - k : Nat) : Int) < (n : Int) := by omega
      have hj2 : n - 1 - k < n := by omega
      have hk2 : k < n + 1 := by omega
      clear hx hof hoo hof2 hoo2 hb2 hbw hset hgb5 hgl5 hg2b hvg
      go_wp2
      go_roundw
      case rel => exact ⟨k + 1, by omega, by go_num, HF.out, HO.out, HBB.out⟩
      case measure => simp [intOf]; omega
    · have hkn : k = n := by omega
      have hltI : ¬ (k : Int) < (n : Int) := by omega
      have hrl : turned l k = l.reverse := by rw [hkn, HN.out]; exact turned_all l
      rw [hrl] at hof hoo
      have HOF := hide hof
      have HOO := hide hoo
      have HBW := hide hbw
      have HNR : Hid (n = l.reverse.length) := by show n = _; rw [List.length_reverse]; exact HN.out
      clear hof hoo hbw hrl hkn HR HC1 HC2
      generalize l.reverse = l2 at *
      have HI6 : Hid (RowR wr (.slice (some ⟨g2, 0, none⟩) n c2) (ints l2)) := by
        have h := (rowR_of_owns HOF.out).take (m := n) (by omega)
        rw [ints_append, List.take_append_of_le_length (by rw [ints_length, ← HNR.out]; exact Nat.le_refl _), List.take_of_length_le (by rw [ints_length, ← HNR.out]; exact Nat.le_refl _)] at h
        exact h
      have hc2 : n ≤ c2 := by
        obtain ⟨_, _, he, hle, _⟩ := HI6.out
        cases he; rw [ints_length, ← HNR.out] at hle; exact hle
      go_wp2_with fail
      refine (cut_any A _ l2 wr (by rw [← HNR.out]; omega) HI6.out.ints (errs_below HE.out HBW.out)).mono ?_
      rintro e w3 ⟨hcv, hb3⟩
      obtain ⟨i3, n3, ev3, rfl, hcn1, hno1⟩ := hcv.num
      have HC1 : Hid (CutN 2 (gapC l2) l2 i3 n3 ∧ NumOf A ev3 n3) := ⟨hcn1, hno1⟩
      have HB3 := hide (Below.next HBW.out hb3)
      have HO3 := hide (owns_below HOO.out hb3)
      have HI3 := hide (HI6.out.below hb3)
      clear hcv hb3 hcn1 hno1 HBW HI6 HOO HOF
      go_wp2_with fail
      refine (pivot_any A _ l2 w3 (by rw [← HNR.out]; omega) HI3.out.ints (errs_below HE.out HB3.out)).mono ?_
      rintro e w4 ⟨hcv, hb4⟩
      obtain ⟨i4, n4, ev4, rfl, hcn2, hno2⟩ := hcv.num
      have HC2 : Hid (CutN 3 (gapP l2) l2 i4 n4 ∧ NumOf A ev4 n4) := ⟨hcn2, hno2⟩
      have HB4 := hide (Below.next HB3.out hb4)
      have HO4 := hide (owns_below HO3.out hb4)
      clear hcv hb4 hcn2 hno2 HB3 HI3 HO3
      go_wp2_with fail
      refine (rcut_any _ l2 w4 (by rw [← HNR.out]; omega) (rowR_of_owns HO4.out).ints).mono ?_
      rintro e w' ⟨k1, m1, rfl, hcn, rfl⟩
      obtain ⟨rfl, rfl⟩ := HC1.out.1.unique hcn
      clear hcn
      go_wp2_with fail
      refine (rpivot_any _ l2 w4 (by rw [← HNR.out]; omega) (rowR_of_owns HO4.out).ints).mono ?_
      rintro e w' ⟨k2, m2, rfl, hcn, rfl⟩
      obtain ⟨rfl, rfl⟩ := HC2.out.1.unique hcn
      have HNM := hide (fun ev c (h : NumOf A ev c) => num_of w4 h (errs_below HE.out HB4.out))
      have b1 : ((i3 : Int) == (i3 : Int)) = true := by simp
      have b2 : ((i4 : Int) == (i4 : Int)) = true := by simp
      have b3 : ((n3 : Int) == (n3 : Int)) = true := by simp
      have b4 : ((n4 : Int) == (n4 : Int)) = true := by simp
      clear hcn
      go_wp2_with fail
      refine (HNM.out ev3 n3 HC1.out.2).mono ?_
      rintro e w' ⟨rfl, rfl⟩
      go_wp2_with fail
      refine (HNM.out ev4 n4 HC2.out.2).mono ?_
      rintro e w' ⟨rfl, rfl⟩
      go_wp2_with fail
      go_ret
      exact ⟨rfl, HB4.out⟩

end Go.Proofs.YtocfedakjcghnabDoor
