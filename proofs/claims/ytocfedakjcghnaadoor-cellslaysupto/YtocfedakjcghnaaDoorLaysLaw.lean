import Derived.Test.YtocfedakjcghnaaDoorCTurn
namespace Go.Proofs.YtocfedakjcghnaaDoor
open Go.RowKit

theorem owns_belowB {w w' : World} {B base e n : Nat} {v : Value} {us : List Value} (h : w.ownsRow base e 1 v n us) (hv : ∀ g, v.ownBlock = some g → g < B) (hb : Below B w w') : w'.ownsRow base e 1 v n us := by
  refine ⟨h.1, ?_⟩
  rcases h.2 with h' | ⟨g', cap, cur, rfl, hbg, hg, hnc, hcm, hcs, htk⟩
  · exact .inl h'
  · exact .inr ⟨g', cap, cur, rfl, hbg, (hb.block g' (hv g' rfl)).trans hg, hnc, hcm, hcs, htk⟩
theorem turnL_nil : turnL [] = [] := rfl
theorem turn_owned (base n c : Nat) (a : Option Addr) (l : List ByteArray) (w : World) (hn : l.length = n) (hm : n ≤ 1048576) (hs : sizeL l ≤ 4194304) (ho : w.ownsRow base 9 1 (.slice a n c) n (strs l)) :
    Calls Tryd.prog 20 #[.slice a n c] w fun e w' => e = .returned (.slice a n c) ∧ w'.ownsRow base 9 1 (.slice a n c) n (strs (turnL l)) ∧ Below base w w' := by
  by_cases h0 : n = 0
  · subst h0
    have hl : l = [] := List.length_eq_zero_iff.1 hn
    subst hl
    refine (turn_nil a c w).mono ?_
    rintro e w' ⟨rfl, rfl⟩
    exact ⟨rfl, ho, Below.refl _ _⟩
  · obtain ⟨g, c', he, hbg, hgl⟩ := ho.form (by omega)
    cases he
    refine (turn_some base g n n c l [] w hn (by omega) hm (Nat.le_refl _) hs (by rw [List.append_nil]; exact ho)).mono ?_
    rintro e w' ⟨rfl, ho', hso⟩
    rw [List.append_nil] at ho'
    exact ⟨rfl, ho', ⟨hso.os, hso.tape, hso.output, hso.size, fun k hk => hso.block k (by omega) (by omega)⟩⟩
theorem turn_head (base g n c : Nat) (l tl : List ByteArray) (w : World) (hn : l.length = n) (hm : n ≤ 1048576) (hs : sizeL l ≤ 4194304) (ho : w.ownsRow base 9 1 (.slice (some ⟨g, 0, none⟩) (n + 1) c) (n + 1) (strs (l ++ tl))) (hg : base ≤ g) (hgl : g < w.heap.size) :
    Calls Tryd.prog 20 #[.slice (some ⟨g, 0, none⟩) n c] w fun e w' => e = .returned (.slice (some ⟨g, 0, none⟩) n c) ∧ w'.ownsRow base 9 1 (.slice (some ⟨g, 0, none⟩) (n + 1) c) (n + 1) (strs (turnL l ++ tl)) ∧ Below base w w' := by
  by_cases h0 : n = 0
  · subst h0
    have hl : l = [] := List.length_eq_zero_iff.1 hn
    subst hl
    refine (turn_nil _ c w).mono ?_
    rintro e w' ⟨rfl, rfl⟩
    exact ⟨rfl, ho, Below.refl _ _⟩
  · refine (turn_some base g n (n + 1) c l tl w hn (by omega) hm (by omega) hs ho).mono ?_
    rintro e w' ⟨rfl, ho', hso⟩
    exact ⟨rfl, ho', ⟨hso.os, hso.tape, hso.output, hso.size, fun k hk => hso.block k (by omega) (by omega)⟩⟩
theorem behind_row (w : World) : RowR (w.alloc (.cells #[.string ⟨#[98, 101, 104, 105, 110, 100]⟩] 9)) (.slice (some ⟨w.heap.size, 0, none⟩) 1 1) (strs [⟨#[98, 101, 104, 105, 110, 100]⟩]) := lit_row w (strs [⟨#[98, 101, 104, 105, 110, 100]⟩]) 9 1 rfl (by decide)
/-- The first part of a row of texts. -/
theorem head_row {w : World} {base g n c : Nat} {l tl : List ByteArray} (hn : l.length = n) (h : w.ownsRow base 9 1 (.slice (some ⟨g, 0, none⟩) (n + 1) c) (n + 1) (strs (l ++ tl))) : RowR w (.slice (some ⟨g, 0, none⟩) n c) (strs l) := by
  have h' := (rowR_of_owns h).take (m := n) (by omega)
  rw [strs_append, List.take_append_of_le_length (by rw [strs_length, hn]; exact Nat.le_refl _), List.take_of_length_le (by rw [strs_length, hn]; exact Nat.le_refl _)] at h'
  exact h'

set_option maxRecDepth 100000 in
set_option maxHeartbeats 16000000 in
theorem lays_any (A : Nat → Addr) (v : Value) (l : List ByteArray) (w : World) (hm : l.length ≤ 1048576) (hs : sizeL l ≤ 4194304) (hr : RowR w v (strs l)) (hE : ErrsG 4 gAll A w) :
    Calls Tryd.prog 5 #[v] w fun e w' => e = .returned (.bool true) ∧ Below w.heap.size w w' := by
  have HR := hide hr
  have HER := hide hE
  have hform : ∃ a c, v = .slice a l.length c := by
    obtain ⟨a, c, rfl, _⟩ := hr
    exact ⟨a, c, by rw [strs_length]⟩
  obtain ⟨va, vc, rfl⟩ := hform
  obtain ⟨n, hn⟩ : ∃ n, n = l.length := ⟨_, rfl⟩
  have HTS := hide (turn_size l hm hs)
  rw [← hn] at hm HR
  rw [← hn]
  have HE : Hid (l.length = n) := hn.symm
  have HS := hide hs
  have HS6 : Hid (sizeL l ≤ 1152921504606846976) := by show _ ≤ _; omega
  clear hr hE hn hs
  go_enter Tryd.func5, Tryd.ntmps5
  go_wp2_with fail
  refine (texts_any _ l w (by rw [HE.out]; omega) HR.out).mono ?_
  rintro e w1 ⟨a1, c1, rfl, ho1, hb1⟩
  rw [HE.out] at ho1 ⊢
  obtain ⟨a2, c2, w2, hrun2, ho2, hg2⟩ := append_row 24 9 _ 16 info9 Tryd.underlying24 rfl w.heap.size n (.slice a1 n c1) (strs l) (w1.alloc (.cells #[.string ⟨#[98, 101, 104, 105, 110, 100]⟩] 9)) (owns_alloc ho1 _) (.slice (some ⟨w1.heap.size, 0, none⟩) 1 1) (strs [⟨#[98, 101, 104, 105, 110, 100]⟩]) (behind_row w1) (strs_one _) (by rw [strs_length]; show (n + 1) * 16 ≤ _; omega) (by decide) (by have := hb1.size; simp; omega)
  rw [strs_length, show ([(⟨#[98, 101, 104, 105, 110, 100]⟩ : ByteArray)] : List ByteArray).length = 1 from rfl] at hrun2 ho2
  rw [← strs_append] at ho2
  have hb2 : Below w.heap.size w w2 := (hb1.alloc (by have := hb1.size; omega) _).grown hg2 (by have := hb1.size; simp; omega) (fun j hj => (ho1.lt j hj).1)
  obtain ⟨g2, c2', he2, hgb2, hgl2⟩ := ho2.form (by omega)
  cases he2
  have HO2 := hide ho2
  have HB2 := hide hb2
  have HI2 := hide (head_row HE.out ho2)
  have hc2 : n ≤ c2 := by
    obtain ⟨_, _, he, hle, _⟩ := HI2.out
    cases he; rw [strs_length, HE.out] at hle; exact hle
  have hc2I : (n : Int) ≤ (c2 : Int) := by omega
  have hn0 : (0 : Int) ≤ (n : Int) := by omega
  have HG2 : Hid (w.heap.size ≤ g2 ∧ g2 < w2.heap.size) := ⟨hgb2, hgl2⟩
  clear ho1 ho2 hb1 hb2 hg2 hgb2 hgl2
  go_wp2_with (first | (at_builtin; refine wpList_append_run 24 rfl (.tmp 15) (.tmp 16) rfl rfl _ _ rfl rfl _ _ hrun2 ?_))
  clear hrun2
  refine (size_any _ l w2 HS6.out HI2.out.strs).mono ?_
  rintro e wq ⟨rfl, rfl⟩
  obtain ⟨sz, hsz⟩ : ∃ sz, sz = sizeL l := ⟨_, rfl⟩
  rw [← hsz]
  have HSZ := hide hsz
  clear hsz
  go_wp2_with fail
  refine (lay_any A _ l w2 HS6.out HI2.out.strs (errs_below HER.out HB2.out)).mono ?_
  rintro e w3 ⟨hv, hb3⟩
  obtain ⟨s, cc, ev, rfl, hln, hno⟩ := hv.num
  have HLN : Hid (LayN l s cc ∧ NumOf A ev cc) := ⟨hln, hno⟩
  have HB3 := hide (Below.next HB2.out hb3)
  have HO3 := hide (owns_below HO2.out hb3)
  have HG3 : Hid (w.heap.size ≤ g2 ∧ g2 < w3.heap.size) := ⟨HG2.out.1, Nat.lt_of_lt_of_le HG2.out.2 hb3.size⟩
  clear hv hln hno hb3 HB2 HO2 HG2 HI2
  go_wp2_with fail
  refine (texts_any _ l w3 (by rw [HE.out]; omega) (HR.out.below HB3.out)).mono ?_
  rintro e w4 ⟨a4, c4, rfl, ho4, hb4⟩
  have HB4 := hide (Below.next HB3.out hb4)
  have HO4 := hide (owns_below HO3.out hb4)
  have HG4 : Hid (w.heap.size ≤ g2 ∧ g2 < w4.heap.size) := ⟨HG3.out.1, Nat.lt_of_lt_of_le HG3.out.2 hb4.size⟩
  have HRL := hide (rlay_any _ l w4 HS6.out (rowR_of_owns ho4).strs)
  clear ho4 hb4 HB3 HO3 HG3
  go_wp2_with fail
  refine HRL.out.mono ?_
  rintro e w5 ⟨⟨s', c', rfl, hln⟩, hb5⟩
  obtain ⟨rfl, rfl⟩ := HLN.out.1.unique hln
  have HB5 := hide (Below.next HB4.out hb5)
  have HO5 := hide (owns_below HO4.out hb5)
  have HG5 : Hid (w.heap.size ≤ g2 ∧ g2 < w5.heap.size) := ⟨HG4.out.1, Nat.lt_of_lt_of_le HG4.out.2 hb5.size⟩
  have HSA := hide (sames_same _ _ l w5 (by rw [HE.out]; omega) (head_row HE.out HO5.out).strs (HR.out.below HB5.out).strs)
  clear hln hb5 HB4 HO4 HG4 HRL
  go_wp2_with fail
  refine HSA.out.mono ?_
  rintro e w6 ⟨rfl, hb6⟩
  have HB6 := hide (Below.next HB5.out hb6)
  have HO6 := hide (owns_below HO5.out hb6)
  have HG6 : Hid (w.heap.size ≤ g2 ∧ g2 < w6.heap.size) := ⟨HG5.out.1, Nat.lt_of_lt_of_le HG5.out.2 hb6.size⟩
  have hlast : w6.cell? ⟨g2, n, none⟩ = some (.string ⟨#[98, 101, 104, 105, 110, 100]⟩) := by
    rw [HO6.out.cellAt n (by omega), strs_append, List.getElem?_append_right (by rw [strs_length, HE.out]; exact Nat.le_refl _), strs_length, HE.out, Nat.sub_self]; rfl
  have hnn : (n : Int) < ((n + 1 : Nat) : Int) := by omega
  clear hb6 HB5 HO5 HG5 HSA
  go_wp2_with fail
  refine (texts_any _ l w6 (by rw [HE.out]; omega) (HR.out.below HB6.out)).mono ?_
  rintro e w7 ⟨a7, c7, rfl, ho7, hb7⟩
  have HB7 := hide (Below.next HB6.out hb7)
  have HO7 := hide (owns_below HO6.out hb7)
  have HG7 : Hid (w.heap.size ≤ g2 ∧ g2 < w7.heap.size) := ⟨HG6.out.1, Nat.lt_of_lt_of_le HG6.out.2 hb7.size⟩
  have HRS := hide (rsize_any _ l w7 HS6.out (rowR_of_owns ho7).strs)
  rw [← HSZ.out] at HRS
  have HNM := hide (num_of w7 HLN.out.2 (errs_below HER.out HB7.out))
  have d1 : ((sz : Int) != (sz : Int)) = false := by simp
  have d2 : ((cc : Int) != (cc : Int)) = false := by simp
  clear ho7 hb7 HB6 HO6 HG6 hlast
  go_wp2_with fail
  refine HRS.out.mono ?_
  rintro e wq ⟨rfl, rfl⟩
  go_wp2_with fail
  refine HNM.out.mono ?_
  rintro e wq ⟨rfl, rfl⟩
  go_wp2_with fail
  refine (turn_head w.heap.size g2 n c2 l _ w7 HE.out hm HS.out HO7.out HG7.out.1 HG7.out.2).mono ?_
  rintro e w8 ⟨rfl, ho8, hb8⟩
  have HE2 : Hid ((turnL l).length = n) := by show _ = _; rw [turnL_len]; exact HE.out
  have HB8 := hide (HB7.out.trans hb8)
  have HG8 : Hid (w.heap.size ≤ g2 ∧ g2 < w8.heap.size) := ⟨HG7.out.1, Nat.lt_of_lt_of_le HG7.out.2 hb8.size⟩
  have HO8 := hide ho8
  have HI8 := hide (head_row HE2.out ho8)
  have HSI := hide (size_any _ (turnL l) w8 HTS.out HI8.out.strs)
  clear ho8 hb8 HB7 HO7 HG7 HRS HNM HLN d1 d2
  obtain ⟨sz2, hsz2⟩ : ∃ sz, sz = sizeL (turnL l) := ⟨_, rfl⟩
  rw [← hsz2] at HSI
  have HSZ2 := hide hsz2
  clear hsz2
  go_wp2_with fail
  refine HSI.out.mono ?_
  rintro e wq ⟨rfl, rfl⟩
  go_wp2_with fail
  refine (lay_any A _ (turnL l) w8 HTS.out HI8.out.strs (errs_below HER.out HB8.out)).mono ?_
  rintro e w9 ⟨hv, hb9⟩
  obtain ⟨s2, cc2, ev2, rfl, hln, hno⟩ := hv.num
  have HLN : Hid (LayN (turnL l) s2 cc2 ∧ NumOf A ev2 cc2) := ⟨hln, hno⟩
  have HB9 := hide (Below.next HB8.out hb9)
  clear hv hln hno hb9 HB8 HO8 HI8 HG8 HSI
  go_wp2_with fail
  refine (texts_any _ l w9 (by rw [HE.out]; omega) (HR.out.below HB9.out)).mono ?_
  rintro e w10 ⟨a10, c10, rfl, ho10, hb10⟩
  rw [HE.out] at ho10 ⊢
  have HB10 := hide (Below.next HB9.out hb10)
  have HT10 := hide (turn_owned w9.heap.size n c10 a10 l w10 HE.out hm HS.out ho10)
  have HZ10 : Hid (w.heap.size ≤ w9.heap.size) := HB9.out.size
  clear ho10 hb10 HB9
  go_wp2_with fail
  refine HT10.out.mono ?_
  rintro e w11 ⟨rfl, ho11, hb11⟩
  have HB11 := hide (HB10.out.trans (hb11.mono HZ10.out))
  have HRL := hide (rlay_any _ (turnL l) w11 HTS.out (rowR_of_owns ho11).strs)
  clear ho11 hb11 HB10 HT10 HZ10
  go_wp2_with fail
  refine HRL.out.mono ?_
  rintro e w12 ⟨⟨s', c', rfl, hln⟩, hb12⟩
  obtain ⟨rfl, rfl⟩ := HLN.out.1.unique hln
  have HB12 := hide (Below.next HB11.out hb12)
  clear hln hb12 HB11 HRL
  go_wp2_with fail
  refine (texts_any _ l w12 (by rw [HE.out]; omega) (HR.out.below HB12.out)).mono ?_
  rintro e w13 ⟨a13, c13, rfl, ho13, hb13⟩
  rw [HE.out] at ho13 ⊢
  have HB13 := hide (Below.next HB12.out hb13)
  have HT13 := hide (turn_owned w12.heap.size n c13 a13 l w13 HE.out hm HS.out ho13)
  have HZ13 : Hid (w.heap.size ≤ w12.heap.size) := HB12.out.size
  clear ho13 hb13 HB12
  go_wp2_with fail
  refine HT13.out.mono ?_
  rintro e w14 ⟨rfl, ho14, hb14⟩
  have HB14 := hide (HB13.out.trans (hb14.mono HZ13.out))
  have HRS := hide (rsize_any _ (turnL l) w14 HTS.out (rowR_of_owns ho14).strs)
  rw [← HSZ2.out] at HRS
  have HNM := hide (num_of w14 HLN.out.2 (errs_below HER.out HB14.out))
  have d1 : ((sz2 : Int) == (sz2 : Int)) = true := by simp
  have d2 : ((cc2 : Int) == (cc2 : Int)) = true := by simp
  clear ho14 hb14 HB13 HT13 HZ13
  go_wp2_with fail
  refine HRS.out.mono ?_
  rintro e wq ⟨rfl, rfl⟩
  go_wp2_with fail
  refine HNM.out.mono ?_
  rintro e wq ⟨rfl, rfl⟩
  go_wp2
  go_ret
  exact ⟨rfl, HB14.out⟩

end Go.Proofs.YtocfedakjcghnaaDoor
