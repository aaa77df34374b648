import Derived.Test.YtdacbajiapdiiabDoorPrPut
import Derived.Test.YtdacbajiapdiiabDoorEncodesLaw
import Derived.Test.YtdacbajiapdiiabDoorLRefF
import Derived.Test.YtdacbajiapdiiabDoorLSame
import Derived.Test.YtdacbajiapdiiabDoorRLCut
import Derived.Deep.DeepCutAuto
import Derived.Deep.CutBlock
namespace Go.Proofs.YtdacbajiapdiiabDoor
open Go.RowKit

/-- What both sides answer to Encode. -/
theorem enc_both {A : Nat → Addr} {l : List Pr} {e : Ending} (hv : EncV A l e) :
    ∃ (S : ByteArray) (cc : Nat) (ev : Value), e = .returned (.tuple #[.string S, ev]) ∧ (∀ W, ErrsG 13 gAll A W → Calls Tryd.prog 9 #[ev] W fun e w' => e = .returned (.int .i64 (cc : Int)) ∧ W = w') ∧ (∀ e, REncV l e → e = .returned (.tuple #[.string S, .int .i64 (cc : Int)])) := by
  have hk := chk_kinds l true
  rcases hv with ⟨h, he⟩ | ⟨k, h, he⟩
  · refine ⟨encL l, 0, .nilIface, he, fun W _ => num_nil W, fun e hr => ?_⟩
    rcases hr with ⟨_, hr⟩ | ⟨k, h2, _⟩
    · exact hr
    · rw [h] at h2; cases h2
  · refine ⟨⟨#[]⟩, k + 1, errV A (some k), he, fun W hE => num_err A (some k) W hE (by rw [h] at hk; exact hk), fun e hr => ?_⟩
    rcases hr with ⟨h2, _⟩ | ⟨k', h2, hr⟩
    · rw [h] at h2; cases h2
    · rw [h] at h2; cases h2; exact hr
theorem num_of13 {A : Nat → Addr} {ev : Value} {c : Nat} (W : World) (h : NumOf A ev c) (hE : ErrsG 13 gAll A W) : Calls Tryd.prog 9 #[ev] W fun e w' => e = .returned (.int .i64 (c : Int)) ∧ W = w' := num_of W h (hE.weak (by decide))

set_option maxRecDepth 40000 in
set_option maxHeartbeats 8000000 in
theorem stale_any (A : Nat → Addr) (l : List Pr) (a : Option Addr) (c : Nat) (key value : ByteArray) (root : Bool) (w : World) (hl : l.length ≤ 4398046510976) (hok : OkL l) (hr : PrR w (.slice a l.length c) l) (hE : ErrsG 13 gAll A w) :
    Calls Tryd.prog 16 #[.agg #[.slice a l.length c, .string key, .string value, .bool root]] w fun e w' => e = .returned (.bool true) ∧ Below w.heap.size w w' := by
  have hb0 := below_new w (.cells #[.slice a l.length c, .string key, .string value, .bool root] 35)
  have hx0 := boxed_new w #[.slice a l.length c, .string key, .string value, .bool root] 35
  have HP := hide (pairs_any (.slice a l.length c) l _ hl (hr.below hb0))
  have HE0 := hide (hE.keep hb0)
  have HE0b := hide (hE.keep hb0)
  have HB0 := hide hb0
  have HX0 := hide hx0
  have HR0 := hide (hr.below hb0)
  obtain ⟨n, hn⟩ : ∃ n, n = l.length := ⟨_, rfl⟩
  obtain ⟨N, hN⟩ : ∃ N, N = n + 64 := ⟨_, rfl⟩
  have hnN : n ≤ N := by omega
  rw [← hn] at HP HB0 HX0 HR0 HE0 HE0b hl ⊢
  have HN := hide hn
  have HNN := hide hN
  have c0 : (w.alloc (.cells #[.slice a n c, .string key, .string value, .bool root] 35)).cell? ⟨w.heap.size, 0, none⟩ = some (.slice a n c) := HX0.out.2 0 (by simp)
  clear hb0 hx0 hr hn hN hE
  go_enter Tryd.func16, Tryd.ntmps16
  go_wp2_with fail
  generalize hWA : w.alloc (.cells #[.slice a n c, .string key, .string value, .bool root] 35) = WA at *
  clear hWA
  refine HP.out.mono ?_
  rintro e w1 ⟨u, rfl, hown, hb1⟩
  have hlen : (l ++ marks 64).length = N := by rw [List.length_append, marks_len, ← HN.out, HNN.out]
  obtain ⟨g, uc, hu, hgA, hg1, huc⟩ := hown.some (by rw [hlen, HNN.out]; omega)
  rw [hlen] at hu huc
  subst hu
  have htk : (l ++ marks 64).take n = l := by rw [HN.out, List.take_left]
  have hml := hown.at.take (m := n) hnN
  rw [htk] at hml
  have HOW := hide hown
  have HML := hide hml
  have HX := hide (HX0.out.below hb1)
  have HE := hide (HE0.out.keep hb1)
  have HBA := hide hb1
  have hsl := fun W => slTo W (some ⟨g, 0, none⟩) N uc n (by omega)
  have k0 : w1.cell? ⟨w.heap.size, 0, none⟩ = some (.slice a n c) := HX.out.2 0 (by simp)
  have hln : l.length ≤ 140737488355328 := by have := HN.out; omega
  have hln3 : l.length ≤ 4398046510976 := by have := HN.out; omega
  have HOK := hide hok
  clear hown hb1 hml htk HP c0 HE0 hok
  have C1 : Hid (∀ W, Below w1.heap.size w1 W → Calls Tryd.prog 36 #[.slice (some ⟨g, 0, none⟩) n uc] W fun e w' => (∃ u, e = .returned u) ∧ Below W.heap.size W w') := fun W h => (lsize_any _ l W HOK.out hln (HML.out.below h)).mono fun e w' h => ⟨⟨_, h.1⟩, h.2⟩
  have C2 : Hid (∀ W, Below w1.heap.size w1 W → Calls Tryd.prog 24 #[.slice (some ⟨g, 0, none⟩) n uc, .bool root] W fun e w' => (∃ u, e = .returned u) ∧ Below W.heap.size W w') := fun W h => (lcheck_any A _ l root W HOK.out hln (HML.out.below h) (errC_all (HE.out.keep h))).mono fun e w' h => ⟨⟨_, h.1⟩, h.2⟩
  have C3 : Hid (∀ W, Below w1.heap.size w1 W → Calls Tryd.prog 11 #[.slice (some ⟨g, 0, none⟩) n uc] W fun e w' => (∃ u, e = .returned u) ∧ Below W.heap.size W w') := fun W h => (lenc_any A _ l W HOK.out hln (HML.out.below h) (errC_all (HE.out.keep h))).mono fun e w' h => ⟨by rcases h.1 with ⟨_, h⟩ | ⟨_, _, h⟩ <;> exact ⟨_, h⟩, h.2⟩
  have C4 : Hid (∀ W, Below w1.heap.size w1 W → Calls Tryd.prog 33 #[.slice (some ⟨g, 0, none⟩) n uc, .string key] W fun e w' => (∃ u, e = .returned u) ∧ Below W.heap.size W w') := fun W h => (lfind_any _ l key W hln (HML.out.below h)).mono fun e w' h => ⟨⟨_, h.1⟩, h.2⟩
  have C5 : Hid (∀ W, Below w1.heap.size w1 W → Calls Tryd.prog 15 #[.slice (some ⟨g, 0, none⟩) n uc, .string key, .string value] W fun e w' => (∃ u, e = .returned u) ∧ Below W.heap.size W w') := fun W h => (lset_any _ l key value W (by omega) (HML.out.below h)).mono fun e w' ⟨u, h1, _, h2⟩ => ⟨⟨_, h1⟩, h2⟩
  have C6 : Hid (∀ W, Below w1.heap.size w1 W → Calls Tryd.prog 18 #[.slice (some ⟨g, 0, none⟩) n uc, .string key] W fun e w' => (∃ u, e = .returned u) ∧ Below W.heap.size W w') := fun W h => (ldrop_any _ l key W (by omega) (HML.out.below h)).mono fun e w' ⟨u, h1, _, h2⟩ => ⟨⟨_, h1⟩, h2⟩
  have C7 : Hid (∀ W, Below w1.heap.size w1 W → Calls Tryd.prog 19 #[.slice (some ⟨g, 0, none⟩) n uc] W fun e w' => (∃ u, e = .returned u) ∧ Below W.heap.size W w') := fun W h => (lcut_any A _ l W HOK.out (by omega) (HML.out.below h) (errC_all (HE.out.keep h))).mono fun e w' ⟨⟨_, _, _, _, _, h1, _⟩, h2⟩ => ⟨⟨_, h1⟩, h2⟩
  go_wp2_with fail
  refine (C1.out _ (Below.refl _ _)).mono ?_
  rintro e w2 ⟨⟨x1, rfl⟩, hb⟩
  have HB2 := hide hb
  have k3 : w2.cell? ⟨w.heap.size, 3, none⟩ = some (.bool root) := (HX.out.below HB2.out).2 3 (by simp)
  clear hb C1 k0
  go_wp2_with fail
  refine (C2.out _ HB2.out).mono ?_
  rintro e w3 ⟨⟨x2, rfl⟩, hb⟩
  have HB3 := hide (Below.next HB2.out hb)
  clear hb C2 HB2 k3
  go_wp2_with fail
  refine (C3.out _ HB3.out).mono ?_
  rintro e w4 ⟨⟨x3, rfl⟩, hb⟩
  have HB4 := hide (Below.next HB3.out hb)
  have k1 : w4.cell? ⟨w.heap.size, 1, none⟩ = some (.string key) := (HX.out.below HB4.out).2 1 (by simp)
  clear hb C3 HB3
  go_wp2_with fail
  refine (C4.out _ HB4.out).mono ?_
  rintro e w5 ⟨⟨x4, rfl⟩, hb⟩
  have HB5 := hide (Below.next HB4.out hb)
  clear hb C4 HB4 k1
  have k1 : w5.cell? ⟨w.heap.size, 1, none⟩ = some (.string key) := (HX.out.below HB5.out).2 1 (by simp)
  have k2 : w5.cell? ⟨w.heap.size, 2, none⟩ = some (.string value) := (HX.out.below HB5.out).2 2 (by simp)
  go_wp2_with fail
  refine (C5.out _ HB5.out).mono ?_
  rintro e w6 ⟨⟨x5, rfl⟩, hb⟩
  have HB6 := hide (Below.next HB5.out hb)
  clear hb C5 HB5 k1 k2
  have k1 : w6.cell? ⟨w.heap.size, 1, none⟩ = some (.string key) := (HX.out.below HB6.out).2 1 (by simp)
  go_wp2_with fail
  refine (C6.out _ HB6.out).mono ?_
  rintro e w7 ⟨⟨x6, rfl⟩, hb⟩
  have HB7 := hide (Below.next HB6.out hb)
  clear hb C6 HB6 k1
  go_wp2_with fail
  refine (C7.out _ HB7.out).mono ?_
  rintro e w8 ⟨⟨x7, rfl⟩, hb⟩
  have HB8 := hide (Below.next HB7.out hb)
  have HO8 := hide (HOW.out.below HB8.out)
  have HA8 := hide (Below.next HBA.out HB8.out)
  have hg8 : g < w8.heap.size := Nat.lt_of_lt_of_le hg1 HB8.out.size
  have hxb : w.heap.size < WA.heap.size := HX0.out.1
  clear hb C7 HB7 HOW HML HX HE HBA HB8
  obtain ⟨b8, hb8⟩ : ∃ b8, b8 = w8.heap.size := ⟨_, rfl⟩
  rw [← hb8] at hg8
  have HB8 := hide hb8
  clear hb8
  have HGB := hide hgA
  go_wp2_with fail
  go_loopw [5, 6] (fun u i wr => ∃ k : Nat, k ≤ n ∧ i = .int .i64 k ∧ PrO wr b8 u (sw (l.take k)) ∧ PrO wr WA.heap.size (.slice (some ⟨g, 0, none⟩) N uc) (stA l k ++ marks 64) ∧ b8 ≤ wr.heap.size ∧ Below WA.heap.size WA wr) (fun _ i _ => n - (intOf i).toNat)
  case atStart => exact ⟨0, Nat.zero_le _, rfl, PrO.nil _ _, by rw [stA_zero]; exact HO8.out, by rw [HB8.out]; exact Nat.le_refl _, HA8.out⟩
  case round =>
    obtain ⟨k, hk, rfl, how, hom, hbs, hbw⟩ := hrel
    clear HO8 HA8
    by_cases hlt : k < n
    · have hkl : k < l.length := by have := HN.out; omega
      have hltI : (k : Int) < (n : Int) := by omega
      have j0 : (0 : Int) ≤ (k : Int) := by omega
      obtain ⟨a', cp, he, _, _, hcc⟩ := HR0.out.below hbw
      obtain ⟨g0, o0, ha, f1, f2⟩ := hcc k hkl
      simp only [Value.slice.injEq] at he
      obtain ⟨rfl, -⟩ := he
      subst ha
      have k0 : wr.cell? ⟨w.heap.size, 0, none⟩ = some (.slice (some ⟨g0, o0, none⟩) n c) := (HX0.out.below hbw).2 0 (by simp)
      have HSN := hide (sw_snoc l k hkl)
      have HST := hide (stA_set l (marks 64) k hkl)
      have hkm : k < (stA l k ++ marks 64).length := by rw [List.length_append, stA_len]; omega
      have hwl : (sw (l.take k)).length = k := by rw [sw_len, List.length_take]; omega
      obtain ⟨s1, hs1⟩ : ∃ s1, s1 = l[k].1 := ⟨_, rfl⟩
      obtain ⟨s2, hs2⟩ : ∃ s2, s2 = l[k].2 := ⟨_, rfl⟩
      rw [← hs1] at f1
      rw [← hs2] at f2
      rw [← hs1, ← hs2] at HSN HST
      obtain ⟨ua, uc', hu⟩ := how.form
      rw [hwl] at hu
      subst hu
      have HOWn := hide how
      have HOM := hide hom
      have HBW := hide hbw
      have HKM := hide hkm
      have HWL := hide hwl
      clear hcc how hom hbw hkm hwl hs1 hs2
      go_upto_region 14 with fail
      go_cut [7] (fun u7 wx => u7 = .pointer (some ⟨wr.heap.size, 0, none⟩) ∧ wx = (wr.alloc (.cells #[.string s2, .string s1] 45)).drew)
      case first =>
        go_region_held3 (fun w' => w'.cell? ⟨w.heap.size, 0, none⟩ = some (.slice (some ⟨g0, o0, none⟩) n c) ∧ w'.cell? ⟨g0, o0 + k * 2, none⟩ = some (.string s1) ∧ w'.cell? ⟨g0, o0 + k * 2 + 1, none⟩ = some (.string s2)) (go_keep) (fail)
        all_goals
          go_wp2_with fail
          go_meet
        case rel => exact ⟨rfl, rfl⟩
      case rest =>
        obtain ⟨rfl, rfl⟩ := hcut
        have hbx : Boxed wr.heap.size [.string s2, .string s1] (wr.alloc (.cells #[.string s2, .string s1] 45)).drew := boxed_new wr #[.string s2, .string s1] 45
        have hbl : Below wr.heap.size wr (wr.alloc (.cells #[.string s2, .string s1] 45)).drew := (below_new wr _).drew
        have HBX := hide (Below.next HBW.out hbl)
        have HOX := hide (HOWn.out.below hbl)
        have hom := HOM.out.below hbl
        have hbs2 : b8 ≤ (wr.alloc (.cells #[.string s2, .string s1] 45)).drew.heap.size := Nat.le_trans hbs hbl.size
        have hnb : wr.heap.size ≠ g := by omega
        clear HBW HOWn HOM k0 f1 f2 hbl hbs
        generalize (wr.alloc (.cells #[.string s2, .string s1] 45)).drew = WX at *
        generalize wr.heap.size = nb at *
        obtain ⟨⟨u1, q1⟩, ⟨u2, q2⟩, z1, z2⟩ := hom.spot k HKM.out
        have b0 : WX.cell? ⟨nb, 0, none⟩ = some (.string s2) := hbx.2 0 (by simp)
        have b1 : WX.cell? ⟨nb, 1, none⟩ = some (.string s1) := hbx.2 1 (by simp)
        have hom2 := hom.wrote k (s2, s1)
        rw [HST.out] at hom2
        have hbx2 := (hbx.put (j := k * 2) hnb (.string s2)).put (j := k * 2 + 1) hnb (.string s1)
        have HBY : Hid (Below WA.heap.size WA ((WX.setCell ⟨g, k * 2, none⟩ (.string s2)).setCell ⟨g, k * 2 + 1, none⟩ (.string s1))) := (HBX.out.setCell HGB.out _).setCell HGB.out _
        have hne : (Value.slice ua k uc').ownBlock ≠ some g := fun h => by have := (HOX.out.blk g h).1; omega
        have HOY : Hid (PrO ((WX.setCell ⟨g, k * 2, none⟩ (.string s2)).setCell ⟨g, k * 2 + 1, none⟩ (.string s1)) b8 (.slice ua k uc') (sw (l.take k))) := (HOX.out.put hne _).put hne _
        have hbs3 : b8 ≤ ((WX.setCell ⟨g, k * 2, none⟩ (.string s2)).setCell ⟨g, k * 2 + 1, none⟩ (.string s1)).heap.size := by simpa [World.setCell] using hbs2
        have HBX2 := hide hbx2
        have HM2 := hide hom2
        have HBS := hide hbs3
        clear hom hom2 hbx hbx2 HOX HBX hne HST hbs2 hbs3
        go_upto_region 16 with fail
        have b0' := HBX2.out.2 0 (by simp)
        have b1' := HBX2.out.2 1 (by simp)
        simp only [List.getElem_cons_zero, List.getElem_cons_succ] at b0' b1'
        have hbs3 := HBS.out
        have hom2 := HM2.out
        clear HBX2 HM2 HBS q1 q2 z1 z2 b0 b1
        generalize (WX.setCell ⟨g, k * 2, none⟩ (.string s2)).setCell ⟨g, k * 2 + 1, none⟩ (.string s1) = WY at *
        obtain ⟨a1, cp1, w2, hrun, hown1, hb2, hsz2⟩ := push_prs b8 _ _ (s2, s1) 45 _ _ b8 k HWL.out HOY.out (by omega) hbs3 (Nat.le_refl _) (Below.refl b8 _)
        rw [← HSN.out] at hown1
        have HO1 := hide hown1
        have HM1 := hide (hom2.under (fun j hj => by cases hj; exact hg8) hb2)
        have hWb : WA.heap.size ≤ b8 := by omega
        have HB1 := hide (HBY.out.trans (hb2.mono hWb))
        have hbs4 : b8 ≤ w2.heap.size := Nat.le_trans hbs3 hsz2
        clear hom2 HBY HOY hown1 hb2 hsz2 HSN
        go_wp2_with (first | (at_builtin; refine wpList_append_run 24 rfl (.tmp 87) (.tmp 89) rfl rfl _ _ rfl rfl _ _ hrun ?_))
        clear hrun
        go_wp2
        go_roundw
        case rel => exact ⟨k + 1, by omega, by go_num, HO1.out, HM1.out, hbs4, HB1.out⟩
        case measure => simp [intOf]; omega
    · have hkn : k = n := by omega
      have hltI : ¬ (k : Int) < (n : Int) := by omega
      have e1 : l.take k = l := by rw [hkn, HN.out, List.take_length]
      have e2 : stA l k = sw l := by rw [hkn, HN.out, stA_all]
      rw [e1] at how
      rw [e2] at hom
      have hS := sw_ok HOK.out
      have hSl := sw_len l
      have htk : (sw l ++ marks 64).take n = sw l := by rw [HN.out, ← hSl, List.take_left]
      have hml := hom.at.take (m := n) hnN
      rw [htk] at hml
      obtain ⟨S, hSe⟩ : ∃ S, S = sw l := ⟨_, rfl⟩
      rw [← hSe] at how hml hS hSl
      obtain ⟨wa, wc, hu⟩ := how.form
      rw [hSl, ← HN.out] at hu
      subst hu
      have HW := hide how.at
      have HML := hide hml
      have HSO := hide hS
      have HX := hide (HX0.out.below hbw)
      have HE := hide (HE0b.out.keep hbw)
      have HBF := hide (Below.next HB0.out hbw)
      have hm1 : S.length ≤ 140737488355328 := by have := HN.out; omega
      have hm2 : S.length ≤ 4398046511000 := by have := HN.out; omega
      have hm3 : S.length ≤ 4398046511104 := by have := HN.out; omega
      have hq1 := findN_le S key
      have hq2 := behindN_le S key
      have hq3 := behindN_ge S key
      have hqd : (dropL S key).length ≤ S.length := by unfold dropL; simp only [List.length_append, List.length_take, List.length_drop]; omega
      have hqs : (setL S key value).length ≤ S.length + 1 := by unfold setL; simp only [List.length_append, List.length_cons, List.length_take, List.length_drop]; omega
      clear how hom hml hS hSl htk hSe hkn e1 e2 HX0 HR0 HB0 HE0b HB8 HGB hbs hbw
      obtain ⟨q, hq⟩ : ∃ q, q = findN S key := ⟨_, rfl⟩
      obtain ⟨fb, hfb⟩ : ∃ fb, fb = foundB S key := ⟨_, rfl⟩
      obtain ⟨D, hD⟩ : ∃ D, D = dropL S key := ⟨_, rfl⟩
      obtain ⟨T, hT⟩ : ∃ T, T = setL S key value := ⟨_, rfl⟩
      obtain ⟨Z, hZ⟩ : ∃ Z, Z = wsz (szL S) := ⟨_, rfl⟩
      have hDl : D.length ≤ 140737488355328 := by rw [hD]; omega
      have hTl : T.length ≤ 140737488355328 := by rw [hT]; omega
      have D1 : Hid (∀ W, Below wr.heap.size wr W → Calls Tryd.prog 11 #[.slice (some ⟨g, 0, none⟩) n uc] W fun e w' => EncV A S e ∧ Below W.heap.size W w') := fun W h => lenc_any A _ S W HSO.out hm1 (HML.out.below h) (errC_all (HE.out.keep h))
      have D2 : Hid (∀ W, Below wr.heap.size wr W → Calls Tryd.prog 13 #[.slice wa n wc] W fun e w' => REncV S e ∧ Below W.heap.size W w') := fun W h => rlenc_any _ S W HSO.out hm1 (HW.out.below h)
      have D3 : Hid (∀ W, Below wr.heap.size wr W → Calls Tryd.prog 33 #[.slice (some ⟨g, 0, none⟩) n uc, .string key] W fun e w' => e = .returned (.tuple #[.int .i64 (q : Int), .bool fb]) ∧ Below W.heap.size W w') := fun W h => by rw [hq, hfb]; exact lfind_any _ S key W hm1 (HML.out.below h)
      have D4 : Hid (∀ W, Below wr.heap.size wr W → Calls Tryd.prog 37 #[.slice wa n wc, .string key] W fun e w' => e = .returned (.tuple #[.int .i64 (q : Int), .bool fb]) ∧ Below W.heap.size W w') := fun W h => by rw [hq, hfb]; exact rlfind_any _ S key W hm1 (HW.out.below h)
      have D5 : Hid (∀ W, Below wr.heap.size wr W → Calls Tryd.prog 18 #[.slice (some ⟨g, 0, none⟩) n uc, .string key] W fun e w' => ∃ u, e = .returned (.tuple #[u, .bool fb]) ∧ PrO w' W.heap.size u D ∧ Below W.heap.size W w') := fun W h => by rw [hD, hfb]; exact ldrop_any _ S key W hm2 (HML.out.below h)
      have D6 : Hid (∀ W, Below wr.heap.size wr W → Calls Tryd.prog 38 #[.slice wa n wc, .string key] W fun e w' => ∃ u, e = .returned (.tuple #[u, .bool fb]) ∧ PrO w' W.heap.size u D ∧ Below W.heap.size W w') := fun W h => by rw [hD, hfb]; exact rldrop_any _ S key W hm2 (HW.out.below h)
      have D7 : Hid (∀ W, Below wr.heap.size wr W → Calls Tryd.prog 19 #[.slice (some ⟨g, 0, none⟩) n uc] W fun e w' => LCutV A W.heap.size S e w' ∧ Below W.heap.size W w') := fun W h => lcut_any A _ S W HSO.out hm3 (HML.out.below h) (errC_all (HE.out.keep h))
      have D8 : Hid (∀ W, Below wr.heap.size wr W → Calls Tryd.prog 39 #[.slice wa n wc] W fun e w' => RCutV W.heap.size S e w' ∧ Below W.heap.size W w') := fun W h => rlcut_any _ S W HSO.out hm3 (HW.out.below h)
      have D9 : Hid (∀ W, Below wr.heap.size wr W → Calls Tryd.prog 15 #[.slice (some ⟨g, 0, none⟩) n uc, .string key, .string value] W fun e w' => ∃ u, e = .returned u ∧ PrO w' W.heap.size u T ∧ Below W.heap.size W w') := fun W h => by rw [hT]; exact lset_any _ S key value W hm2 (HML.out.below h)
      have D10 : Hid (∀ W, Below wr.heap.size wr W → Calls Tryd.prog 40 #[.slice wa n wc, .string key, .string value] W fun e w' => ∃ u, e = .returned u ∧ PrO w' W.heap.size u T ∧ Below W.heap.size W w') := fun W h => by rw [hT]; exact rlset_any _ S key value W hm2 (HW.out.below h)
      have D11 : Hid (∀ W, Below wr.heap.size wr W → Calls Tryd.prog 36 #[.slice (some ⟨g, 0, none⟩) n uc] W fun e w' => e = .returned (.int .i64 Z) ∧ Below W.heap.size W w') := fun W h => by rw [hZ]; exact lsize_any _ S W HSO.out hm1 (HML.out.below h)
      have D12 : Hid (∀ W, Below wr.heap.size wr W → Calls Tryd.prog 41 #[.slice wa n wc] W fun e w' => e = .returned (.int .i64 Z) ∧ Below W.heap.size W w') := fun W h => by rw [hZ]; exact rlsize_any _ S W HSO.out hm1 (HW.out.below h)
      obtain ⟨EV, hEV⟩ : ∃ EV, EV = errV A (chk S root) := ⟨_, rfl⟩
      obtain ⟨NE, hNE⟩ : ∃ NE, NE = numE (chk S root) := ⟨_, rfl⟩
      have D13 : Hid (∀ W, Below wr.heap.size wr W → Calls Tryd.prog 24 #[.slice (some ⟨g, 0, none⟩) n uc, .bool root] W fun e w' => e = .returned EV ∧ Below W.heap.size W w') := fun W h => by rw [hEV]; exact lcheck_any A _ S root W HSO.out hm1 (HML.out.below h) (errC_all (HE.out.keep h))
      have D14 : Hid (∀ W, Below wr.heap.size wr W → Calls Tryd.prog 30 #[.slice wa n wc, .bool root] W fun e w' => e = .returned (.int .i64 (NE : Int)) ∧ Below W.heap.size W w') := fun W h => by rw [hNE]; exact rlcheck_any _ S root W HSO.out hm1 (HW.out.below h)
      have D15 : Hid (∀ W, Below wr.heap.size wr W → Calls Tryd.prog 9 #[EV] W fun e w' => e = .returned (.int .i64 (NE : Int)) ∧ W = w') := fun W h => by rw [hEV, hNE]; exact num_err A _ W (HE.out.keep h) (chk_kinds S root)
      have SMD : Hid (∀ (u v : Value) W, PrR W u D → PrR W v D → Calls Tryd.prog 8 #[u, v] W fun e w' => e = .returned (.bool true) ∧ Below W.heap.size W w') := fun u v W h1 h2 => samep_same u v D W hDl h1 h2
      have SMT : Hid (∀ (u v : Value) W, PrR W u T → PrR W v T → Calls Tryd.prog 8 #[u, v] W fun e w' => e = .returned (.bool true) ∧ Below W.heap.size W w') := fun u v W h1 h2 => samep_same u v T W hTl h1 h2
      clear hEV hNE hq hfb hD hT hZ hqd hqs hq1 hq2 hq3 hDl hTl HML HW
      go_wp2_with fail
      refine (D1.out _ (Below.refl _ _)).mono ?_
      rintro e v1 ⟨hv, hb⟩
      obtain ⟨s, cc, ev, rfl, hno, hrv⟩ := enc_both hv
      have HNO := hide hno
      have HRV := hide hrv
      have HB1 := hide hb
      clear hv hno hrv hb D1
      go_wp2_with fail
      refine (D2.out _ HB1.out).mono ?_
      rintro e v2 ⟨hv, hb⟩
      obtain rfl := HRV.out e hv
      have HB2 := hide (Below.next HB1.out hb)
      have k1 : v2.cell? ⟨w.heap.size, 1, none⟩ = some (.string key) := (HX.out.below HB2.out).2 1 (by simp)
      clear hv hb D2 HB1 HRV
      go_wp2_with fail
      refine (D3.out _ HB2.out).mono ?_
      rintro e v3 ⟨rfl, hb⟩
      have HB3 := hide (Below.next HB2.out hb)
      clear hb D3 HB2 k1
      have k1 : v3.cell? ⟨w.heap.size, 1, none⟩ = some (.string key) := (HX.out.below HB3.out).2 1 (by simp)
      go_wp2_with fail
      refine (D4.out _ HB3.out).mono ?_
      rintro e v4 ⟨rfl, hb⟩
      have HB4 := hide (Below.next HB3.out hb)
      clear hb D4 HB3 k1
      have k1 : v4.cell? ⟨w.heap.size, 1, none⟩ = some (.string key) := (HX.out.below HB4.out).2 1 (by simp)
      go_wp2_with fail
      refine (D5.out _ HB4.out).mono ?_
      rintro e v5 ⟨ud, rfl, hod, hb⟩
      have HB5 := hide (Below.next HB4.out hb)
      have HOD := hide hod.at
      clear hb D5 HB4 k1 hod
      have k1 : v5.cell? ⟨w.heap.size, 1, none⟩ = some (.string key) := (HX.out.below HB5.out).2 1 (by simp)
      go_wp2_with fail
      refine (D6.out _ HB5.out).mono ?_
      rintro e v6 ⟨ul, rfl, hol, hb⟩
      have HB6 := hide (Below.next HB5.out hb)
      have HOD6 := hide (HOD.out.below hb)
      have HOL6 := hide hol.at
      clear hb D6 HB5 k1 hol HOD
      go_wp2_with fail
      refine (D7.out _ HB6.out).mono ?_
      rintro e v7 ⟨⟨i, dd, u1, u2, ev2, rfl, hcn, hno, hlists⟩, hb⟩
      have HB7 := hide (Below.next HB6.out hb)
      have HCN := hide hcn
      have HNO2 := hide hno
      have HLI : Hid (PrR v7 u1 (if dd = 0 then S.take i else []) ∧ PrR v7 u2 (if dd = 0 then S.drop i else [])) := by
        rcases hlists with ⟨h0, h1, h2, _⟩ | ⟨h0, rfl, rfl⟩
        · rw [if_pos h0, if_pos h0]; exact ⟨h1.at, h2.at⟩
        · rw [if_neg h0, if_neg h0]; exact ⟨PrR.nil _, PrR.nil _⟩
      have HOD7 := hide (HOD6.out.below hb)
      have HOL7 := hide (HOL6.out.below hb)
      clear hb D7 HB6 hcn hno hlists HOD6 HOL6
      go_wp2_with fail
      refine (D8.out _ HB7.out).mono ?_
      rintro e v8 ⟨⟨i', d', y1, y2, rfl, hcn', hlists⟩, hb⟩
      obtain ⟨rfl, rfl⟩ := HCN.out.unique hcn'
      have HB8 := hide (Below.next HB7.out hb)
      have hli8 : PrR v8 y1 (if dd = 0 then S.take i else []) ∧ PrR v8 y2 (if dd = 0 then S.drop i else []) := by
        rcases hlists with ⟨h0, h1, h2⟩ | ⟨h0, rfl, rfl⟩
        · rw [if_pos h0, if_pos h0]; exact ⟨h1.at, h2.at⟩
        · rw [if_neg h0, if_neg h0]; exact ⟨PrR.nil _, PrR.nil _⟩
      have hlb : (if dd = 0 then S.take i else []).length ≤ 140737488355328 ∧ (if dd = 0 then S.drop i else []).length ≤ 140737488355328 := by
        split
        · rw [List.length_take, List.length_drop]; omega
        · simp
      have SM1 : Hid (∀ W, Below v8.heap.size v8 W → Calls Tryd.prog 8 #[u1, y1] W fun e w' => e = .returned (.bool true) ∧ Below W.heap.size W w') := fun W h => samep_same u1 y1 _ W hlb.1 ((HLI.out.1.below hb).below h) (hli8.1.below h)
      have SM2 : Hid (∀ W, Below v8.heap.size v8 W → Calls Tryd.prog 8 #[u2, y2] W fun e w' => e = .returned (.bool true) ∧ Below W.heap.size W w') := fun W h => samep_same u2 y2 _ W hlb.2 ((HLI.out.2.below hb).below h) (hli8.2.below h)
      have SM0 : Hid (∀ W, Below v8.heap.size v8 W → Calls Tryd.prog 8 #[ud, ul] W fun e w' => e = .returned (.bool true) ∧ Below W.heap.size W w') := fun W h => SMD.out ud ul W ((HOD7.out.below hb).below h) ((HOL7.out.below hb).below h)
      clear hb D8 HB7 hcn' hlists hli8 hlb HLI HOD7 HOL7 SMD HCN
      have k1 : v8.cell? ⟨w.heap.size, 1, none⟩ = some (.string key) := (HX.out.below HB8.out).2 1 (by simp)
      have k2 : v8.cell? ⟨w.heap.size, 2, none⟩ = some (.string value) := (HX.out.below HB8.out).2 2 (by simp)
      clear hsl hlen hltI hk hg8 hg1 hgA huc hxb hln hln3 hm1 hm2 hm3 hl HOK HSO
      go_upto_region 25 with fail
      go_cut [26] (fun u wx => u = .bool true ∧ Below v8.heap.size v8 wx)
      case first =>
        go_region_held3 (fun w' => w'.cell? ⟨w.heap.size, 1, none⟩ = some (.string key) ∧ w'.cell? ⟨w.heap.size, 2, none⟩ = some (.string value)) (go_keep)
          (first
            | (go_at_call 15; refine (D9.out _ ?_).mono ?_; (first | exact Below.next HB8.out HQ2.out | exact HB8.out.drew); rintro e W1 ⟨p1, rfl, ho1, hb1⟩; have HO1 := hide ho1; have HS1 := hide hb1; have HQ1 : Hid (Below v8.heap.size v8 W1) := (by first | exact Below.next HQ2.out hb1 | exact undrewC hb1); have k1 : W1.cell? ⟨w.heap.size, 1, none⟩ = some (.string key) := (HX.out.below (Below.next HB8.out HQ1.out)).2 1 (by simp); have k2 : W1.cell? ⟨w.heap.size, 2, none⟩ = some (.string value) := (HX.out.below (Below.next HB8.out HQ1.out)).2 2 (by simp); clear ho1 hb1)
            | (go_at_call 40; refine (D10.out _ ?_).mono ?_; (first | exact Below.next HB8.out HQ1.out | exact HB8.out.drew); rintro e W2 ⟨p2, rfl, ho2, hb2⟩; have HO2 := hide ho2; have HS2 := hide hb2; have HQ2 : Hid (Below v8.heap.size v8 W2) := (by first | exact Below.next HQ1.out hb2 | exact undrewC hb2); have k1 : W2.cell? ⟨w.heap.size, 1, none⟩ = some (.string key) := (HX.out.below (Below.next HB8.out HQ2.out)).2 1 (by simp); have k2 : W2.cell? ⟨w.heap.size, 2, none⟩ = some (.string value) := (HX.out.below (Below.next HB8.out HQ2.out)).2 2 (by simp); clear ho2 hb2)
            | (go_at_call 8; refine (SMT.out _ _ _ ?_ ?_).mono ?_; (first | exact (HO1.out.below HS2.out).at | exact HO1.out.at); (first | exact HO2.out.at | exact (HO2.out.below HS1.out).at); rintro e W3 ⟨rfl, hb3⟩; have HS3 : Hid (Below v8.heap.size v8 W3) := (by first | exact Below.next HQ2.out hb3 | exact Below.next HQ1.out hb3); have k1 : W3.cell? ⟨w.heap.size, 1, none⟩ = some (.string key) := (HX.out.below (Below.next HB8.out HS3.out)).2 1 (by simp); have k2 : W3.cell? ⟨w.heap.size, 2, none⟩ = some (.string value) := (HX.out.below (Below.next HB8.out HS3.out)).2 2 (by simp); clear hb3))
        all_goals
          go_wp2_with fail
          go_meet
        all_goals exact ⟨rfl, HS3.out⟩
      case rest =>
        obtain ⟨rfl, hb9⟩ := hcut
        have HB9 := hide hb9
        clear hb9 k1 k2 SMT D9 D10
        go_wp2_with fail
        refine (SM0.out _ HB9.out).mono ?_
        rintro e v10 ⟨rfl, hb⟩
        have HB10 := hide (Below.next HB9.out hb)
        clear hb HB9 SM0
        go_wp2_with fail
        refine (SM1.out _ HB10.out).mono ?_
        rintro e v11 ⟨rfl, hb⟩
        have HB11 := hide (Below.next HB10.out hb)
        clear hb HB10 SM1
        go_wp2_with fail
        refine (SM2.out _ HB11.out).mono ?_
        rintro e v12 ⟨rfl, hb⟩
        have HB12 := hide (Below.next HB8.out (Below.next HB11.out hb))
        clear hb HB11 SM2 HB8
        have k3 : v12.cell? ⟨w.heap.size, 3, none⟩ = some (.bool root) := (HX.out.below HB12.out).2 3 (by simp)
        have e1 : (Z == Z) = true := by simp
        have e2 : ((NE : Int) == (NE : Int)) = true := by simp
        go_upto_region 29 with fail
        go_cut [30] (fun u wx => u = .bool true ∧ Below wr.heap.size wr wx)
        case first =>
          have HQ : Hid (Below wr.heap.size wr v12.drew) := HB12.out.drew
          go_region_held3 (fun w' => w'.cell? ⟨w.heap.size, 3, none⟩ = some (.bool root)) (go_keep)
            (first
              | (go_at_call 36; refine (D11.out _ HQ.out).mono ?_; rintro e W1 ⟨rfl, hb⟩; have HQ := hide (Below.next HQ.out hb); have k3 : W1.cell? ⟨w.heap.size, 3, none⟩ = some (.bool root) := (HX.out.below HQ.out).2 3 (by simp); clear hb)
              | (go_at_call 41; refine (D12.out _ HQ.out).mono ?_; rintro e W1 ⟨rfl, hb⟩; have HQ := hide (Below.next HQ.out hb); have k3 : W1.cell? ⟨w.heap.size, 3, none⟩ = some (.bool root) := (HX.out.below HQ.out).2 3 (by simp); clear hb)
              | (go_at_call 24; refine (D13.out _ HQ.out).mono ?_; rintro e W1 ⟨rfl, hb⟩; have HQ := hide (Below.next HQ.out hb); have k3 : W1.cell? ⟨w.heap.size, 3, none⟩ = some (.bool root) := (HX.out.below HQ.out).2 3 (by simp); clear hb)
              | (go_at_call 30; refine (D14.out _ HQ.out).mono ?_; rintro e W1 ⟨rfl, hb⟩; have HQ := hide (Below.next HQ.out hb); have k3 : W1.cell? ⟨w.heap.size, 3, none⟩ = some (.bool root) := (HX.out.below HQ.out).2 3 (by simp); clear hb)
              | (go_at_call 9; refine (D15.out _ HQ.out).mono ?_; rintro e W1 ⟨rfl, rfl⟩))
          all_goals
            go_wp2_with fail
            go_meet
          all_goals exact ⟨rfl, HQ.out⟩
        case rest =>
          obtain ⟨rfl, hb13⟩ := hcut
          have HB13 := hide (Below.next HBF.out hb13)
          have HE13 := hide (HE.out.keep hb13)
          have N1 := hide (HNO.out _ HE13.out)
          have N2 := hide (num_of13 _ HNO2.out HE13.out)
          have e3 : ((q : Int) == (q : Int)) = true := by simp
          have e4 : ((cc : Int) == (cc : Int)) = true := by simp
          have e5 : ((dd : Int) == (dd : Int)) = true := by simp
          have e6 : (fb == fb) = true := by simp
          clear hb13 HB12 k3 D11 D12 D13 D14 D15 HE HNO HNO2 HE13 HX HBF
          go_wp2_with fail
          refine N1.out.mono ?_
          rintro e v14 ⟨rfl, rfl⟩
          go_wp2_with fail
          refine N2.out.mono ?_
          rintro e v15 ⟨rfl, rfl⟩
          go_wp2
          go_ret
          exact ⟨rfl, HB13.out⟩

end Go.Proofs.YtdacbajiapdiiabDoor
