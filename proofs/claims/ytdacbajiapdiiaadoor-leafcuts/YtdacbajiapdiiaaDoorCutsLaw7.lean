import Derived.Test.YtdacbajiapdiiaaDoorLPairs2
import Derived.Test.YtdacbajiapdiiaaDoorLKept
import Derived.Test.YtdacbajiapdiiaaDoorLSame
import Derived.Test.YtdacbajiapdiiaaDoorRLCut
import Derived.Test.YtdacbajiapdiiaaDoorLErr13
namespace Go.Proofs.YtdacbajiapdiiaaDoor
open Go.RowKit

theorem numOf_err13 {A : Nat → Addr} {ev : Value} {c : Nat} (W : World) (h : NumOf A ev c) (hE : ErrsG 13 gAll A W) : Calls Tryd.prog 13 #[ev] W fun e w' => e = .returned (.int .i64 (c : Int)) ∧ W = w' := num_of W h (hE.weak (by decide))

set_option maxRecDepth 20000 in
set_option maxHeartbeats 4000000 in
theorem cuts_any (A : Nat → Addr) (l : List Pr) (a : Option Addr) (c : Nat) (key value : ByteArray) (root : Bool) (w : World) (hl : l.length ≤ 4398046510976) (hok : OkL l) (hr : PrR w (.slice a l.length c) l) (hE : ErrsG 13 gAll A w) :
    Calls Tryd.prog 5 #[.agg #[.slice a l.length c, .string key, .string value, .bool root]] w fun e w' => e = .returned (.bool true) ∧ Below w.heap.size w w' := by
  have hb0 := below_new w (.cells #[.slice a l.length c, .string key, .string value, .bool root] 24)
  have hx0 := boxed_new w #[.slice a l.length c, .string key, .string value, .bool root] 24
  have HP := hide (pairs_any (.slice a l.length c) l _ hl (hr.below hb0))
  have HE0 := hide (hE.keep hb0)
  have HB0 := hide hb0
  have HX0 := hide hx0
  have HR0 := hide (hr.below hb0)
  obtain ⟨n, hn⟩ : ∃ n, n = l.length := ⟨_, rfl⟩
  obtain ⟨N, hN⟩ : ∃ N, N = n + 64 := ⟨_, rfl⟩
  have hnN : n ≤ N := by omega
  rw [← hn] at HP HB0 HX0 HR0 HE0 hl ⊢
  have HN := hide hn
  have HNN := hide hN
  have c0 : (w.alloc (.cells #[.slice a n c, .string key, .string value, .bool root] 24)).cell? ⟨w.heap.size, 0, none⟩ = some (.slice a n c) := HX0.out.2 0 (by simp)
  clear hb0 hx0 hr hn hN hE
  go_enter Tryd.func5, Tryd.ntmps5
  go_wp2_with fail
  refine HP.out.mono ?_
  rintro e w1 ⟨u, rfl, hown, hb1⟩
  have hlen : (l ++ marks 64).length = N := by rw [List.length_append, marks_len, ← HN.out, HNN.out]
  obtain ⟨ua, uc, hu⟩ := hown.form
  rw [hlen] at hu
  subst hu
  have hm := hown.at
  have huc : N ≤ uc := by obtain ⟨_, _, he, h, _⟩ := hm; cases he; rw [← hlen]; exact h
  have htk : (l ++ marks 64).take n = l := by rw [HN.out, List.take_left]
  have hml := hm.take (m := n) hnN
  rw [htk] at hml
  have HM := hide hm
  have HML := hide hml
  have HXL := hide (HR0.out.below hb1)
  have HX := hide (HX0.out.below hb1)
  have HE := hide (HE0.out.keep hb1)
  have HB1 := hide (Below.next HB0.out hb1)
  have hsl := fun W => slTo W ua N uc n (by omega)
  have k0 : w1.cell? ⟨w.heap.size, 0, none⟩ = some (.slice a n c) := HX.out.2 0 (by simp)
  have hln : l.length ≤ 140737488355328 := by have := HN.out; omega
  have hln3 : l.length ≤ 4398046510976 := by have := HN.out; omega
  clear hown hb1 hm hml htk HP HX0 HR0 HB0 c0 HE0
  have HC : Hid (∀ W, Below w1.heap.size w1 W → Calls Tryd.prog 20 #[.slice ua n uc] W fun e w' => LCutV A W.heap.size l e w' ∧ Below W.heap.size W w') := fun W h => lcut_any A _ l W hok (by omega) (HML.out.below h) (errC_all (HE.out.keep h))
  have HK : Hid (∀ W, Below w1.heap.size w1 W → Calls Tryd.prog 11 #[.slice ua N uc, .slice a n c] W fun e w' => e = .returned (.bool true) ∧ Below W.heap.size W w') := fun W h => kept_true _ _ l W hln3 (HM.out.below h) (HXL.out.below h)
  have HRC : Hid (∀ W, Below w1.heap.size w1 W → Calls Tryd.prog 21 #[.slice a n c] W fun e w' => RCutV W.heap.size l e w' ∧ Below W.heap.size W w') := fun W h => rlcut_any _ l W hok (by omega) (HXL.out.below h)
  clear HM HML HXL
  go_wp2_with fail
  refine (HC.out _ (Below.refl _ _)).mono ?_
  rintro e w2 ⟨⟨i, cc, u1, u2, ev, rfl, hcn, hno, hlists⟩, hb2⟩
  have HB2 := hide hb2
  have HCN := hide hcn
  have HNO := hide hno
  have HLI : Hid (PrR w2 u1 (if cc = 0 then l.take i else []) ∧ PrR w2 u2 (if cc = 0 then l.drop i else [])) := by
    rcases hlists with ⟨h0, h1, h2, _⟩ | ⟨h0, rfl, rfl⟩
    · rw [if_pos h0, if_pos h0]; exact ⟨h1.at, h2.at⟩
    · rw [if_neg h0, if_neg h0]; exact ⟨PrR.nil _, PrR.nil _⟩
  have k0' : w2.cell? ⟨w.heap.size, 0, none⟩ = some (.slice a n c) := (HX.out.below hb2).2 0 (by simp)
  clear hb2 HC k0 hcn hno hlists
  go_wp2_with fail
  refine (HK.out _ HB2.out).mono ?_
  rintro e w3 ⟨rfl, hb3d⟩
  have HB3 := hide (Below.next HB2.out hb3d)
  have HLI3 : Hid (PrR w3 u1 (if cc = 0 then l.take i else []) ∧ PrR w3 u2 (if cc = 0 then l.drop i else [])) := ⟨HLI.out.1.below hb3d, HLI.out.2.below hb3d⟩
  have k0 : w3.cell? ⟨w.heap.size, 0, none⟩ = some (.slice a n c) := (HX.out.below HB3.out).2 0 (by simp)
  clear hb3d HK HB2 HLI k0'
  go_wp2_with fail
  refine (HRC.out _ HB3.out).mono ?_
  rintro e w4 ⟨⟨i', c', v1, v2, rfl, hcn', hlists⟩, hb4d⟩
  obtain ⟨rfl, rfl⟩ := HCN.out.unique hcn'
  have HB4 := hide (Below.next HB3.out hb4d)
  have hli4 : PrR w4 v1 (if cc = 0 then l.take i else []) ∧ PrR w4 v2 (if cc = 0 then l.drop i else []) := by
    rcases hlists with ⟨h0, h1, h2⟩ | ⟨h0, rfl, rfl⟩
    · rw [if_pos h0, if_pos h0]; exact ⟨h1.at, h2.at⟩
    · rw [if_neg h0, if_neg h0]; exact ⟨PrR.nil _, PrR.nil _⟩
  have hlb : (if cc = 0 then l.take i else []).length ≤ 140737488355328 ∧ (if cc = 0 then l.drop i else []).length ≤ 140737488355328 := by
    split
    · rw [List.length_take, List.length_drop]; omega
    · simp
  have HA1 := hide (samep_same u1 v1 _ w4 hlb.1 (HLI3.out.1.below hb4d) hli4.1)
  have HA2 : Hid (∀ W, Below w4.heap.size w4 W → Calls Tryd.prog 19 #[u2, v2] W fun e w' => e = .returned (.bool true) ∧ Below W.heap.size W w') := fun W h => samep_same u2 v2 _ W hlb.2 ((HLI3.out.2.below hb4d).below h) (hli4.2.below h)
  have HNM : Hid (∀ W, Below w1.heap.size w1 W → Calls Tryd.prog 13 #[ev] W fun e w' => e = .returned (.int .i64 (cc : Int)) ∧ W = w') := fun W h => numOf_err13 W HNO.out (HE.out.keep h)
  clear hb4d HRC HB3 HLI3 hcn' hlists hli4 hlb k0
  go_wp2_with fail
  refine HA1.out.mono ?_
  rintro e w5 ⟨rfl, hb5d⟩
  have HB5 := hide (Below.next HB4.out hb5d)
  have HA3 := hide (HA2.out _ hb5d)
  clear hb5d HB4 HA1 HA2
  go_wp2_with fail
  refine HA3.out.mono ?_
  rintro e w6 ⟨rfl, hb6d⟩
  have HB6 := hide (Below.next HB5.out hb6d)
  have HN6 := hide (HNM.out _ HB6.out)
  have e2 : ((cc : Int) == (cc : Int)) = true := by simp
  have HB10 := hide (Below.next HB1.out HB6.out)
  clear hb6d HB5 HA3 HNM HX HB1 HE
  go_wp2_with fail
  refine HN6.out.mono ?_
  rintro e w7 ⟨rfl, rfl⟩
  go_wp2
  go_ret
  exact ⟨rfl, HB10.out⟩

end Go.Proofs.YtdacbajiapdiiaaDoor
