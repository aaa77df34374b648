import Derived.Test.YtdacbajiapdiiaaLPairs2
import Derived.Test.YtdacbajiapdiiaaLKept
import Derived.Test.YtdacbajiapdiiaaLSame
import Derived.Test.YtdacbajiapdiiaaLSet
import Derived.Test.YtdacbajiapdiiaaLRefF
namespace Go.Proofs.Ytdacbajiapdiiaa
open Go.RowKit

theorem undrew {a b : World} (h : Below a.drew.heap.size a.drew b) : Below a.heap.size a b := ⟨h.os, h.tape, h.output, h.size, h.block⟩

set_option maxRecDepth 20000 in
set_option maxHeartbeats 4000000 in
theorem finds_any (l : List Pr) (a : Option Addr) (c : Nat) (key value : ByteArray) (root : Bool) (w : World) (hl : l.length ≤ 4398046510976) (hr : PrR w (.slice a l.length c) l) :
    Calls Try.prog 3 #[.agg #[.slice a l.length c, .string key, .string value, .bool root]] w fun e w' => e = .returned (.bool true) ∧ Below w.heap.size w w' := by
  have hb0 := below_new w (.cells #[.slice a l.length c, .string key, .string value, .bool root] 24)
  have hx0 := boxed_new w #[.slice a l.length c, .string key, .string value, .bool root] 24
  have HP := hide (pairs_any (.slice a l.length c) l _ hl (hr.below hb0))
  have HB0 := hide hb0
  have HX0 := hide hx0
  have HR0 := hide (hr.below hb0)
  have HL := hide hl
  obtain ⟨n, hn⟩ : ∃ n, n = l.length := ⟨_, rfl⟩
  obtain ⟨N, hN⟩ : ∃ N, N = n + 64 := ⟨_, rfl⟩
  have hnN : n ≤ N := by omega
  rw [← hn] at HP HB0 HX0 HR0 HL hl ⊢
  have HN := hide hn
  have HNN := hide hN
  have c0 : (w.alloc (.cells #[.slice a n c, .string key, .string value, .bool root] 24)).cell? ⟨w.heap.size, 0, none⟩ = some (.slice a n c) := HX0.out.2 0 (by simp)
  clear hb0 hx0 hr hn hN
  go_enter Try.func3, Try.ntmps3
  go_wp2_with fail
  refine HP.out.mono ?_
  rintro e w1 ⟨u, rfl, hown, hb1⟩
  have hlen : (l ++ marks 64).length = N := by rw [List.length_append, marks_len, ← HN.out, HNN.out]
  obtain ⟨ua, uc, hu⟩ := hown.form
  rw [hlen] at hu
  subst hu
  have hm := hown.at
  have huc : N ≤ uc := by obtain ⟨_, _, he, h, _⟩ := hm; cases he; rw [← hlen]; exact h
  have htk : (l ++ marks 64).take n = l := by rw [HN.out, List.take_left]
  have hml := hm.take (m := n) hnN
  rw [htk] at hml
  have HM := hide hm
  have HML := hide hml
  have HXL := hide (HR0.out.below hb1)
  have HX := hide (HX0.out.below hb1)
  have HB1 := hide (Below.next HB0.out hb1)
  have hsl := fun W => slTo W ua N uc n (by omega)
  have k0 : w1.cell? ⟨w.heap.size, 0, none⟩ = some (.slice a n c) := HX.out.2 0 (by simp)
  have k1 : w1.cell? ⟨w.heap.size, 1, none⟩ = some (.string key) := HX.out.2 1 (by simp)
  have k2 : w1.cell? ⟨w.heap.size, 2, none⟩ = some (.string value) := HX.out.2 2 (by simp)
  have hln : l.length ≤ 140737488355328 := by have := HN.out; omega
  have hln2 : l.length ≤ 4398046511000 := by have := HN.out; omega
  have hln3 : l.length ≤ 4398046510976 := by have := HN.out; omega
  clear hown hb1 hm hml htk HP HX0 HR0 HB0 c0
  obtain ⟨q, hq⟩ : ∃ q, q = findN l key := ⟨_, rfl⟩
  obtain ⟨fb, hfb⟩ : ∃ fb, fb = foundB l key := ⟨_, rfl⟩
  have HF : Hid (∀ W, Below w1.heap.size w1 W → Calls Try.prog 5 #[.slice ua n uc, .string key] W fun e w' => e = .returned (.tuple #[.int .i64 (q : Int), .bool fb]) ∧ Below W.heap.size W w') := fun W h => by rw [hq, hfb]; exact lfind_any _ l key W hln (HML.out.below h)
  have HS : Hid (∀ W, Below w1.heap.size w1 W → Calls Try.prog 6 #[.slice ua n uc, .string key, .string value] W fun e w' => ∃ u, e = .returned u ∧ PrO w' W.heap.size u (setL l key value) ∧ Below W.heap.size W w') := fun W h => lset_any _ l key value W hln2 (HML.out.below h)
  have HD : Hid (∀ W, Below w1.heap.size w1 W → Calls Try.prog 7 #[.slice ua n uc, .string key] W fun e w' => ∃ u, e = .returned (.tuple #[u, .bool fb]) ∧ PrO w' W.heap.size u (dropL l key) ∧ Below W.heap.size W w') := fun W h => by rw [hfb]; exact ldrop_any _ l key W hln2 (HML.out.below h)
  have HK : Hid (∀ W, Below w1.heap.size w1 W → Calls Try.prog 8 #[.slice ua N uc, .slice a n c] W fun e w' => e = .returned (.bool true) ∧ Below W.heap.size W w') := fun W h => kept_true _ _ l W hln3 (HM.out.below h) (HXL.out.below h)
  have HRF : Hid (∀ W, Below w1.heap.size w1 W → Calls Try.prog 9 #[.slice a n c, .string key] W fun e w' => e = .returned (.tuple #[.int .i64 (q : Int), .bool fb]) ∧ Below W.heap.size W w') := fun W h => by rw [hq, hfb]; exact rlfind_any _ l key W hln (HXL.out.below h)
  have HRS : Hid (∀ W, Below w1.heap.size w1 W → Calls Try.prog 10 #[.slice a n c, .string key, .string value] W fun e w' => ∃ u, e = .returned u ∧ PrO w' W.heap.size u (setL l key value) ∧ Below W.heap.size W w') := fun W h => rlset_any _ l key value W hln2 (HXL.out.below h)
  have HRD : Hid (∀ W, Below w1.heap.size w1 W → Calls Try.prog 11 #[.slice a n c, .string key] W fun e w' => ∃ u, e = .returned (.tuple #[u, .bool fb]) ∧ PrO w' W.heap.size u (dropL l key) ∧ Below W.heap.size W w') := fun W h => by rw [hfb]; exact rldrop_any _ l key W hln2 (HXL.out.below h)
  have HLS : Hid ((setL l key value).length ≤ 140737488355328 ∧ (dropL l key).length ≤ 140737488355328) := by
    have := findN_le l key
    constructor
    · simp only [setL, List.length_append, List.length_cons, List.length_take, List.length_drop]; omega
    · simp only [dropL, List.length_append, List.length_take, List.length_drop]; omega
  clear hq hfb HM HML HXL
  go_wp2_with fail
  go_region_held3 (fun w' => w'.cell? ⟨w.heap.size, 1, none⟩ = some (.string key)) (go_keep)
    (first | (go_at_call 5; refine (HF.out _ ?_).mono ?_; (exact (Below.refl _ _).drew); rintro e w2 ⟨rfl, hb2d⟩; have hb2 : Below w1.heap.size w1 w2 := undrew hb2d; have HB2 := hide hb2; have r1 : w2.cell? ⟨w.heap.size, 1, none⟩ = some (.string key) := (HX.out.below hb2).2 1 (by simp); clear hb2 hb2d))
  have r2 : w2.cell? ⟨w.heap.size, 2, none⟩ = some (.string value) := (HX.out.below HB2.out).2 2 (by simp)
  clear HF k0 k1 k2
  go_wp2_with fail
  go_region_held3 (fun w' => w'.cell? ⟨w.heap.size, 1, none⟩ = some (.string key) ∧ w'.cell? ⟨w.heap.size, 2, none⟩ = some (.string value)) (go_keep)
    (first | (go_at_call 6; refine (HS.out _ ?_).mono ?_; (exact Below.next HB2.out (Below.refl _ _).drew); rintro e w3 ⟨u1, rfl, ho3, hb3d⟩; have hb3 : Below w1.heap.size w1 w3 := Below.next HB2.out (undrew hb3d); have HB3 := hide hb3; have HO3 := hide ho3; have s1 : w3.cell? ⟨w.heap.size, 1, none⟩ = some (.string key) := (HX.out.below hb3).2 1 (by simp); have s2 : w3.cell? ⟨w.heap.size, 2, none⟩ = some (.string value) := (HX.out.below hb3).2 2 (by simp); clear hb3 hb3d ho3))
  clear HS r1 r2 HB2
  go_wp2_with fail
  go_region_held3 (fun w' => w'.cell? ⟨w.heap.size, 1, none⟩ = some (.string key)) (go_keep)
    (first | (go_at_call 7; refine (HD.out _ ?_).mono ?_; (exact Below.next HB3.out (Below.refl _ _).drew); rintro e w4 ⟨u2, rfl, ho4, hb4d⟩; have hb34 : Below w3.heap.size w3 w4 := undrew hb4d; have HB34 := hide hb34; have hb4 : Below w1.heap.size w1 w4 := Below.next HB3.out hb34; have HB4 := hide hb4; have HO4 := hide ho4; have s1 : w4.cell? ⟨w.heap.size, 1, none⟩ = some (.string key) := (HX.out.below hb4).2 1 (by simp); clear hb4 hb4d hb34 ho4))
  have k0 : w4.cell? ⟨w.heap.size, 0, none⟩ = some (.slice a n c) := (HX.out.below HB4.out).2 0 (by simp)
  have HO34 := hide (HO3.out.below HB34.out)
  clear HD HB3 s1 s2 HB34 HO3
  go_wp2_with fail
  refine (HK.out _ HB4.out).mono ?_
  rintro e w5 ⟨rfl, hb5d⟩
  have HB5 := hide (Below.next HB4.out hb5d)
  have HO35 := hide (HO34.out.below hb5d)
  have HO45 := hide (HO4.out.below hb5d)
  have k0' : w5.cell? ⟨w.heap.size, 0, none⟩ = some (.slice a n c) := (HX.out.below HB5.out).2 0 (by simp)
  have k1' : w5.cell? ⟨w.heap.size, 1, none⟩ = some (.string key) := (HX.out.below HB5.out).2 1 (by simp)
  clear hb5d HK HB4 HO34 HO4 k0
  go_wp2_with fail
  refine (HRF.out _ HB5.out).mono ?_
  rintro e w6 ⟨rfl, hb6d⟩
  have HB6 := hide (Below.next HB5.out hb6d)
  have HO36 := hide (HO35.out.below hb6d)
  have HO46 := hide (HO45.out.below hb6d)
  have k0 : w6.cell? ⟨w.heap.size, 0, none⟩ = some (.slice a n c) := (HX.out.below HB6.out).2 0 (by simp)
  have k1 : w6.cell? ⟨w.heap.size, 1, none⟩ = some (.string key) := (HX.out.below HB6.out).2 1 (by simp)
  have k2 : w6.cell? ⟨w.heap.size, 2, none⟩ = some (.string value) := (HX.out.below HB6.out).2 2 (by simp)
  clear hb6d HRF HB5 HO35 HO45 k0' k1'
  go_wp2_with fail
  refine (HRS.out _ HB6.out).mono ?_
  rintro e w7 ⟨u3, rfl, ho7, hb7d⟩
  have HB7 := hide (Below.next HB6.out hb7d)
  have HO37 := hide (HO36.out.below hb7d)
  have HO47 := hide (HO46.out.below hb7d)
  have HO7 := hide ho7
  have k0' : w7.cell? ⟨w.heap.size, 0, none⟩ = some (.slice a n c) := (HX.out.below HB7.out).2 0 (by simp)
  have k1' : w7.cell? ⟨w.heap.size, 1, none⟩ = some (.string key) := (HX.out.below HB7.out).2 1 (by simp)
  clear hb7d HRS HB6 HO36 HO46 k0 k1 k2 ho7
  go_wp2_with fail
  refine (HRD.out _ HB7.out).mono ?_
  rintro e w8 ⟨u4, rfl, ho8, hb8d⟩
  have HB8 := hide (Below.next HB7.out hb8d)
  have HA1 := hide (samep_same u1 u3 _ w8 HLS.out.1 (HO37.out.below hb8d).at (HO7.out.below hb8d).at)
  have HO48 := hide (HO47.out.below hb8d)
  have HO8 := hide ho8
  clear hb8d HRD HB7 HO37 HO47 k0' k1' HO7 ho8
  go_wp2_with fail
  refine HA1.out.mono ?_
  rintro e w9 ⟨rfl, hb9d⟩
  have HB9 := hide (Below.next HB8.out hb9d)
  have HA2 := hide (samep_same u2 u4 _ w9 HLS.out.2 (HO48.out.below hb9d).at (HO8.out.below hb9d).at)
  clear hb9d HB8 HA1 HO48 HO8
  go_wp2_with fail
  refine HA2.out.mono ?_
  rintro e w10 ⟨rfl, hb10d⟩
  have HB10 := hide (Below.next HB1.out (Below.next HB9.out hb10d))
  have e1 : ((q : Int) == (q : Int)) = true := by simp
  have e2 : (fb == fb) = true := by simp
  clear hb10d HB9 HA2 HX HB1
  go_wp2
  go_ret
  exact ⟨rfl, HB10.out⟩

end Go.Proofs.Ytdacbajiapdiiaa
