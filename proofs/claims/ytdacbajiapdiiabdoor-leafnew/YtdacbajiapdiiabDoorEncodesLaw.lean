import Derived.Test.YtdacbajiapdiiabDoorPrs2
import Derived.Test.YtdacbajiapdiiabDoorLKept
import Derived.Test.YtdacbajiapdiiabDoorSet2
import Derived.Test.YtdacbajiapdiiabDoorLEncode
import Derived.Test.YtdacbajiapdiiabDoorLErr13
import Derived.Test.YtdacbajiapdiiabDoorREnc8
namespace Go.Proofs.YtdacbajiapdiiabDoor
open Go.RowKit

theorem chk_kinds (l : List Pr) (root : Bool) : chk l root = none ∨ chk l root = some 0 ∨ chk l root = some 1 ∨ chk l root = some 2 ∨ chk l root = some 3 ∨ chk l root = some 11 := by
  unfold chk
  split
  · simp
  · split
    · simp
    · split
      · simp
      · split <;> simp

set_option maxRecDepth 20000 in
set_option maxHeartbeats 4000000 in
theorem encodes_any (A : Nat → Addr) (l : List Pr) (a : Option Addr) (c : Nat) (key value : ByteArray) (root : Bool) (w : World) (hl : l.length ≤ 4398046510976) (hok : OkL l) (hr : PrR w (.slice a l.length c) l) (hE : ErrsG 13 gAll A w) :
    Calls Tryd.prog 4 #[.agg #[.slice a l.length c, .string key, .string value, .bool root]] w fun e w' => e = .returned (.bool true) ∧ Below w.heap.size w w' := by
  have hb0 := below_new w (.cells #[.slice a l.length c, .string key, .string value, .bool root] 35)
  have hx0 := boxed_new w #[.slice a l.length c, .string key, .string value, .bool root] 35
  have HP := hide (pairs_any (.slice a l.length c) l _ hl (hr.below hb0))
  have HE0 := hide (hE.keep hb0)
  have HB0 := hide hb0
  have HX0 := hide hx0
  have HR0 := hide (hr.below hb0)
  obtain ⟨n, hn⟩ : ∃ n, n = l.length := ⟨_, rfl⟩
  obtain ⟨N, hN⟩ : ∃ N, N = n + 64 := ⟨_, rfl⟩
  have hnN : n ≤ N := by omega
  rw [← hn] at HP HB0 HX0 HR0 HE0 hl ⊢
  have HN := hide hn
  have HNN := hide hN
  have c0 : (w.alloc (.cells #[.slice a n c, .string key, .string value, .bool root] 35)).cell? ⟨w.heap.size, 0, none⟩ = some (.slice a n c) := HX0.out.2 0 (by simp)
  clear hb0 hx0 hr hn hN hE
  go_enter Tryd.func4, Tryd.ntmps4
  go_wp2_with fail
  refine HP.out.mono ?_
  rintro e w1 ⟨u, rfl, hown, hb1⟩
  have hlen : (l ++ marks 64).length = N := by rw [List.length_append, marks_len, ← HN.out, HNN.out]
  obtain ⟨ua, uc, hu⟩ := hown.form
  rw [hlen] at hu
  subst hu
  have hm := hown.at
  have huc : N ≤ uc := by obtain ⟨_, _, he, h, _⟩ := hm; cases he; rw [← hlen]; exact h
  have htk : (l ++ marks 64).take n = l := by rw [HN.out, List.take_left]
  have hml := hm.take (m := n) hnN
  rw [htk] at hml
  have HM := hide hm
  have HML := hide hml
  have HXL := hide (HR0.out.below hb1)
  have HX := hide (HX0.out.below hb1)
  have HE := hide (HE0.out.keep hb1)
  have HB1 := hide (Below.next HB0.out hb1)
  have hsl := fun W => slTo W ua N uc n (by omega)
  have k0 : w1.cell? ⟨w.heap.size, 0, none⟩ = some (.slice a n c) := HX.out.2 0 (by simp)
  have hln : l.length ≤ 140737488355328 := by have := HN.out; omega
  have hln3 : l.length ≤ 4398046510976 := by have := HN.out; omega
  clear hown hb1 hm hml htk HP HX0 HR0 HB0 c0 HE0
  have hkinds := chk_kinds l true
  have HC : Hid (∀ W, Below w1.heap.size w1 W → Calls Tryd.prog 11 #[.slice ua n uc] W fun e w' => EncV A l e ∧ Below W.heap.size W w') := fun W h => lenc_any A _ l W hok hln (HML.out.below h) (errC_all (HE.out.keep h))
  have HK : Hid (∀ W, Below w1.heap.size w1 W → Calls Tryd.prog 12 #[.slice ua N uc, .slice a n c] W fun e w' => e = .returned (.bool true) ∧ Below W.heap.size W w') := fun W h => kept_true _ _ l W hln3 (HM.out.below h) (HXL.out.below h)
  have HRC : Hid (∀ W, Below w1.heap.size w1 W → Calls Tryd.prog 13 #[.slice a n c] W fun e w' => REncV l e ∧ Below W.heap.size W w') := fun W h => rlenc_any _ l W hok hln (HXL.out.below h)
  have HKI := hide hkinds
  clear HM HML HXL hkinds
  go_wp2_with fail
  refine (HC.out _ (Below.refl _ _)).mono ?_
  rintro e w2 ⟨hv, hb2⟩
  obtain ⟨S, cc, ev, rfl, hno, hrv⟩ : ∃ (S : ByteArray) (cc : Nat) (ev : Value), e = .returned (.tuple #[.string S, ev]) ∧ (∀ W, ErrsG 13 gAll A W → Calls Tryd.prog 9 #[ev] W fun e w' => e = .returned (.int .i64 (cc : Int)) ∧ W = w') ∧ (∀ e, REncV l e → e = .returned (.tuple #[.string S, .int .i64 (cc : Int)])) := by
    rcases hv with ⟨h, he⟩ | ⟨k, h, he⟩
    · refine ⟨encL l, 0, .nilIface, he, fun W _ => num_nil W, fun e hr => ?_⟩
      rcases hr with ⟨_, hr⟩ | ⟨k, h2, _⟩
      · exact hr
      · rw [h] at h2; cases h2
    · refine ⟨⟨#[]⟩, k + 1, errV A (some k), he, fun W hE => num_err A (some k) W hE (by have := HKI.out; rw [h] at this; exact this), fun e hr => ?_⟩
      rcases hr with ⟨h2, _⟩ | ⟨k', h2, hr⟩
      · rw [h] at h2; cases h2
      · rw [h] at h2; cases h2; exact hr
  have HNO := hide hno
  have HRV := hide hrv
  have HB2 := hide hb2
  have k0' : w2.cell? ⟨w.heap.size, 0, none⟩ = some (.slice a n c) := (HX.out.below hb2).2 0 (by simp)
  clear hb2 HC k0 hv hno hrv
  go_wp2_with fail
  refine (HK.out _ HB2.out).mono ?_
  rintro e w3 ⟨rfl, hb3d⟩
  have HB3 := hide (Below.next HB2.out hb3d)
  have k0 : w3.cell? ⟨w.heap.size, 0, none⟩ = some (.slice a n c) := (HX.out.below HB3.out).2 0 (by simp)
  clear hb3d HK HB2 k0'
  go_wp2_with fail
  refine (HRC.out _ HB3.out).mono ?_
  rintro e w4 ⟨hv, hb4d⟩
  obtain rfl := HRV.out e hv
  have HB4 := hide (Below.next HB3.out hb4d)
  have HN6 := hide (HNO.out w4 (HE.out.keep HB4.out))
  have e2 : ((cc : Int) == (cc : Int)) = true := by simp
  have HB10 := hide (Below.next HB1.out HB4.out)
  clear hb4d HRC HB3 hv k0 HNO HRV HX HB1 HE HB4 HKI
  go_wp2_with fail
  refine HN6.out.mono ?_
  rintro e w7 ⟨rfl, rfl⟩
  go_wp2
  go_ret
  exact ⟨rfl, HB10.out⟩

end Go.Proofs.YtdacbajiapdiiabDoor
