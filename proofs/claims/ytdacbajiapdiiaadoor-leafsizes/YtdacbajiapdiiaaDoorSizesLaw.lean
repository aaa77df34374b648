import Derived.Test.YtdacbajiapdiiaaDoorLPairs2
import Derived.Test.YtdacbajiapdiiaaDoorLKept
import Derived.Test.YtdacbajiapdiiaaDoorLSet
import Derived.Test.YtdacbajiapdiiaaDoorRCheck
import Derived.Test.YtdacbajiapdiiaaDoorLErr13
namespace Go.Proofs.YtdacbajiapdiiaaDoor
open Go.RowKit

theorem undrew {a b : World} (h : Below a.drew.heap.size a.drew b) : Below a.heap.size a b := ⟨h.os, h.tape, h.output, h.size, h.block⟩
theorem chk_kinds (l : List Pr) (root : Bool) : chk l root = none ∨ chk l root = some 0 ∨ chk l root = some 1 ∨ chk l root = some 2 ∨ chk l root = some 3 ∨ chk l root = some 11 := by
  unfold chk
  split
  · simp
  · split
    · simp
    · split
      · simp
      · split <;> simp

set_option maxRecDepth 20000 in
set_option maxHeartbeats 4000000 in
theorem sizes_any (A : Nat → Addr) (l : List Pr) (a : Option Addr) (c : Nat) (key value : ByteArray) (root : Bool) (w : World) (hl : l.length ≤ 4398046510976) (hok : OkL l) (hr : PrR w (.slice a l.length c) l) (hE : ErrsG 13 gAll A w) :
    Calls Tryd.prog 3 #[.agg #[.slice a l.length c, .string key, .string value, .bool root]] w fun e w' => e = .returned (.bool true) ∧ Below w.heap.size w w' := by
  have hb0 := below_new w (.cells #[.slice a l.length c, .string key, .string value, .bool root] 24)
  have hx0 := boxed_new w #[.slice a l.length c, .string key, .string value, .bool root] 24
  have HP := hide (pairs_any (.slice a l.length c) l _ hl (hr.below hb0))
  have HE0 := hide (hE.keep hb0)
  have HB0 := hide hb0
  have HX0 := hide hx0
  have HR0 := hide (hr.below hb0)
  obtain ⟨n, hn⟩ : ∃ n, n = l.length := ⟨_, rfl⟩
  obtain ⟨N, hN⟩ : ∃ N, N = n + 64 := ⟨_, rfl⟩
  have hnN : n ≤ N := by omega
  rw [← hn] at HP HB0 HX0 HR0 HE0 hl ⊢
  have HN := hide hn
  have HNN := hide hN
  have c0 : (w.alloc (.cells #[.slice a n c, .string key, .string value, .bool root] 24)).cell? ⟨w.heap.size, 0, none⟩ = some (.slice a n c) := HX0.out.2 0 (by simp)
  clear hb0 hx0 hr hn hN hE
  go_enter Tryd.func3, Tryd.ntmps3
  go_wp2_with fail
  refine HP.out.mono ?_
  rintro e w1 ⟨u, rfl, hown, hb1⟩
  have hlen : (l ++ marks 64).length = N := by rw [List.length_append, marks_len, ← HN.out, HNN.out]
  obtain ⟨ua, uc, hu⟩ := hown.form
  rw [hlen] at hu
  subst hu
  have hm := hown.at
  have huc : N ≤ uc := by obtain ⟨_, _, he, h, _⟩ := hm; cases he; rw [← hlen]; exact h
  have htk : (l ++ marks 64).take n = l := by rw [HN.out, List.take_left]
  have hml := hm.take (m := n) hnN
  rw [htk] at hml
  have HM := hide hm
  have HML := hide hml
  have HXL := hide (HR0.out.below hb1)
  have HX := hide (HX0.out.below hb1)
  have HE := hide (HE0.out.keep hb1)
  have HB1 := hide (Below.next HB0.out hb1)
  have hsl := fun W => slTo W ua N uc n (by omega)
  have k0 : w1.cell? ⟨w.heap.size, 0, none⟩ = some (.slice a n c) := HX.out.2 0 (by simp)
  have hln : l.length ≤ 140737488355328 := by have := HN.out; omega
  have hln3 : l.length ≤ 4398046510976 := by have := HN.out; omega
  clear hown hb1 hm hml htk HP HX0 HR0 HB0 c0 HE0
  obtain ⟨z, hz⟩ : ∃ z, z = wsz (szL l) := ⟨_, rfl⟩
  obtain ⟨ck, hck⟩ : ∃ ck, ck = chk l root := ⟨_, rfl⟩
  have hkinds := chk_kinds l root
  rw [← hck] at hkinds
  have HS : Hid (∀ W, Below w1.heap.size w1 W → Calls Tryd.prog 9 #[.slice ua n uc] W fun e w' => e = .returned (.int .i64 z) ∧ Below W.heap.size W w') := fun W h => by rw [hz]; exact lsize_any _ l W hok hln (HML.out.below h)
  have HCK : Hid (∀ W, Below w1.heap.size w1 W → Calls Tryd.prog 10 #[.slice ua n uc, .bool root] W fun e w' => e = .returned (errV A ck) ∧ Below W.heap.size W w') := fun W h => by rw [hck]; exact lcheck_any A _ l root W hok hln (HML.out.below h) (errC_all (HE.out.keep h))
  have HK : Hid (∀ W, Below w1.heap.size w1 W → Calls Tryd.prog 11 #[.slice ua N uc, .slice a n c] W fun e w' => e = .returned (.bool true) ∧ Below W.heap.size W w') := fun W h => kept_true _ _ l W hln3 (HM.out.below h) (HXL.out.below h)
  have HRS : Hid (∀ W, Below w1.heap.size w1 W → Calls Tryd.prog 12 #[.slice a n c] W fun e w' => e = .returned (.int .i64 z) ∧ Below W.heap.size W w') := fun W h => by rw [hz]; exact rlsize_any _ l W hok hln (HXL.out.below h)
  have HRC : Hid (∀ W, Below w1.heap.size w1 W → Calls Tryd.prog 14 #[.slice a n c, .bool root] W fun e w' => e = .returned (.int .i64 (numE ck : Int)) ∧ Below W.heap.size W w') := fun W h => by rw [hck]; exact rlcheck_any _ l root W hok hln (HXL.out.below h)
  have HNM : Hid (∀ W, Below w1.heap.size w1 W → Calls Tryd.prog 13 #[errV A ck] W fun e w' => e = .returned (.int .i64 (numE ck : Int)) ∧ W = w') := fun W h => num_err A ck W (HE.out.keep h) hkinds
  obtain ⟨ev, hev⟩ : ∃ ev, ev = errV A ck := ⟨_, rfl⟩
  obtain ⟨nm, hnm⟩ : ∃ nm, nm = numE ck := ⟨_, rfl⟩
  rw [← hev] at HCK HNM
  rw [← hnm] at HNM HRC
  clear hz hck hkinds hev hnm HM HML HXL HE
  go_wp2_with fail
  refine (HS.out _ (Below.refl _ _)).mono ?_
  rintro e w2 ⟨rfl, hb2⟩
  have HB2 := hide hb2
  have k0' : w2.cell? ⟨w.heap.size, 0, none⟩ = some (.slice a n c) := (HX.out.below hb2).2 0 (by simp)
  have k3' : w2.cell? ⟨w.heap.size, 3, none⟩ = some (.bool root) := (HX.out.below hb2).2 3 (by simp)
  clear hb2 HS k0
  go_wp2_with fail
  go_region_held3 (fun w' => w'.cell? ⟨w.heap.size, 0, none⟩ = some (.slice a n c) ∧ w'.cell? ⟨w.heap.size, 3, none⟩ = some (.bool root)) (go_keep)
    (first | (go_at_call 10; refine (HCK.out _ ?_).mono ?_; (exact Below.next HB2.out (Below.refl _ _).drew); rintro e w3 ⟨rfl, hb3d⟩; have hb3 : Below w1.heap.size w1 w3 := Below.next HB2.out (undrew hb3d); have HB3 := hide hb3; have s1 : w3.cell? ⟨w.heap.size, 0, none⟩ = some (.slice a n c) := (HX.out.below hb3).2 0 (by simp); have s2 : w3.cell? ⟨w.heap.size, 3, none⟩ = some (.bool root) := (HX.out.below hb3).2 3 (by simp); clear hb3 hb3d))
  clear HCK k0' k3' HB2
  go_wp2_with fail
  refine (HK.out _ HB3.out).mono ?_
  rintro e w5 ⟨rfl, hb5d⟩
  have HB5 := hide (Below.next HB3.out hb5d)
  have k0 : w5.cell? ⟨w.heap.size, 0, none⟩ = some (.slice a n c) := (HX.out.below HB5.out).2 0 (by simp)
  have k3 : w5.cell? ⟨w.heap.size, 3, none⟩ = some (.bool root) := (HX.out.below HB5.out).2 3 (by simp)
  have e1 : (z == z) = true := by simp
  have e2 : ((nm : Int) == (nm : Int)) = true := by simp
  clear hb5d HK HB3 s1 s2
  go_wp2_with fail
  go_region_held3 (fun w' => w'.cell? ⟨w.heap.size, 0, none⟩ = some (.slice a n c) ∧ w'.cell? ⟨w.heap.size, 3, none⟩ = some (.bool root)) (go_keep)
    (first
      | (go_at_call 12; refine (HRS.out _ ?_).mono ?_; (exact Below.next HB5.out (Below.refl _ _).drew); rintro e w6 ⟨rfl, hb6d⟩; have hb6 : Below w1.heap.size w1 w6 := Below.next HB5.out (undrew hb6d); have HB6 := hide hb6; have s1 : w6.cell? ⟨w.heap.size, 0, none⟩ = some (.slice a n c) := (HX.out.below hb6).2 0 (by simp); have s2 : w6.cell? ⟨w.heap.size, 3, none⟩ = some (.bool root) := (HX.out.below hb6).2 3 (by simp); clear hb6 hb6d)
      | (go_at_call 13; refine (HNM.out _ ?_).mono ?_; (exact HB6.out); rintro e w7 ⟨rfl, rfl⟩)
      | (go_at_call 14; refine (HRC.out _ ?_).mono ?_; (exact HB6.out); rintro e w7 ⟨rfl, hb7d⟩; have hb7 : Below w1.heap.size w1 w7 := Below.next HB6.out hb7d; have HB7 := hide hb7; have r1 : w7.cell? ⟨w.heap.size, 0, none⟩ = some (.slice a n c) := (HX.out.below hb7).2 0 (by simp); have r2 : w7.cell? ⟨w.heap.size, 3, none⟩ = some (.bool root) := (HX.out.below hb7).2 3 (by simp); clear hb7 hb7d))
  all_goals
    have HB10 := hide (Below.next HB1.out HB7.out)
    go_wp2
    go_ret
    exact ⟨rfl, HB10.out⟩

end Go.Proofs.YtdacbajiapdiiaaDoor
