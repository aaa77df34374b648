import Derived.Test.YtagldlchamlpdaaDoorBRet
import Derived.Test.YtagldlchamlpdaaDoorRBCheck
import Derived.Test.YtagldlchamlpdaaDoorLErrB
namespace Go.Proofs.YtagldlchamlpdaaDoor
open Go.RowKit

theorem RowAt.c7 {w : World} {b : Nat} {x0 x1 x2 x3 x4 x5 x6 : Value} {t : TypeId} (h : RowAt w b #[x0, x1, x2, x3, x4, x5, x6] t) : w.cell? ⟨b, 0, none⟩ = some x0 ∧ w.cell? ⟨b, 1, none⟩ = some x1 ∧ w.cell? ⟨b, 6, none⟩ = some x6 :=
  ⟨h.cell 0 (by simp), h.cell 1 (by simp), h.cell 6 (by simp)⟩

set_option maxRecDepth 20000 in
set_option maxHeartbeats 4000000 in
theorem checks_any (A : Nat → Addr) (f : Int) (l : List Lk) (a : Option Addr) (c : Nat) (key lk : ByteArray) (i lc : Int) (root : Bool) (w : World) (hl : l.length ≤ 5864062014634) (hok : OkK l) (hr : LkR w (.slice a l.length c) l) (hE : ErrsG 13 gAll A w) :
    Calls Tryd.prog 6 #[.agg #[.int .i64 f, .slice a l.length c, .string key, .int .i64 i, .string lk, .int .i64 lc, .bool root]] w fun e w' => e = .returned (.bool true) ∧ Below w.heap.size w w' := by
  obtain ⟨n, hn⟩ : ∃ n, n = l.length := ⟨_, rfl⟩
  rw [← hn] at hr ⊢
  have q0 := below_new w (.cells #[.int .i64 f, .slice a n c, .string key, .int .i64 i, .string lk, .int .i64 lc, .bool root] 55)
  have x0 := RowAt.new w #[.int .i64 f, .slice a n c, .string key, .int .i64 i, .string lk, .int .i64 lc, .bool root] 55
  generalize hW0 : w.alloc (.cells #[.int .i64 f, .slice a n c, .string key, .int .i64 i, .string lk, .int .i64 lc, .bool root] 55) = W0 at *
  have HX0 := hide x0
  have HQ0 := hide q0
  have HR := hide (hr.below q0)
  have HE := hide (hE.keep q0)
  have HN := hide hn
  have HL := hide hl
  have HOK := hide hok
  obtain ⟨p0, p1, p6⟩ := x0.c7
  clear q0 x0 hr hE hn hl hok
  go_enter Tryd.func6, Tryd.ntmps6
  go_wp2_with fail
  refine (lent_any f _ l W0 (by have := HL.out; omega) HR.out).mono ?_
  rintro e w1 ⟨ua, uc, rfl, ho1, hb1⟩
  rw [← HN.out] at ho1 ⊢
  have q1 := below_new w1 (.cells #[.int .i64 f, .slice ua n uc] 27)
  have x1 := RowAt.new w1 #[.int .i64 f, .slice ua n uc] 27
  generalize hW1 : w1.alloc (.cells #[.int .i64 f, .slice ua n uc] 27) = W1 at *
  have HB1 := hide (Below.next hb1 q1)
  have HX1 := hide x1
  have ho2 := ho1.below q1
  have htk : (l ++ marksK 4).take n = l := by rw [HN.out, List.take_left]
  have r1 := ho2.at.take (m := n) (by rw [HN.out]; omega)
  rw [htk] at r1
  have HM := hide ho2.at
  have HR1 := hide r1
  have o0 := x1.c0
  have o1 := x1.c1
  clear ho1 ho2 hb1 q1 x1 p0 p1 p6 htk r1
  obtain ⟨z, hz⟩ : ∃ z, z = wsz (szB l) := ⟨_, rfl⟩
  obtain ⟨ck, hck⟩ : ∃ ck, ck = chkB f l root := ⟨_, rfl⟩
  have hkinds := chkB_kinds f l root
  rw [← hck] at hkinds
  have HCK : Hid (∀ W, Below W1.heap.size W1 W → Calls Tryd.prog 30 #[.agg #[.int .i64 f, .slice ua n uc], .bool root] W fun e w' => e = .returned (errV A ck) ∧ Below W.heap.size W w') := fun W h => by rw [hck]; exact bcheck_any A f _ l root W HOK.out (by have := HL.out; omega) (HR1.out.below h) (errK_all (HE.out.keep (Below.next HB1.out h)))
  have HK : Hid (∀ W, Below W1.heap.size W1 W → Calls Tryd.prog 22 #[.slice ua (n + 4) uc, .agg #[.int .i64 f, .slice a n c]] W fun e w' => e = .returned (.bool true) ∧ Below W.heap.size W w') := fun W h => returned_true f _ _ l W (by have := HL.out; omega) (HM.out.below h) (HR.out.below (Below.next HB1.out h))
  have HRS : Hid (∀ W, Below W1.heap.size W1 W → Calls Tryd.prog 31 #[.agg #[.int .i64 f, .slice a n c]] W fun e w' => e = .returned (.int .i64 z) ∧ Below W.heap.size W w') := fun W h => by rw [hz]; exact rbsize_any f _ l W (by have := HL.out; omega) (HR.out.below (Below.next HB1.out h))
  have HRC : Hid (∀ W, Below W1.heap.size W1 W → Calls Tryd.prog 32 #[.agg #[.int .i64 f, .slice a n c], .bool root] W fun e w' => e = .returned (.int .i64 (numE ck : Int)) ∧ Below W.heap.size W w') := fun W h => by rw [hck]; exact rbcheck_any f _ l root W (by have := HL.out; omega) (HR.out.below (Below.next HB1.out h))
  have HNM : Hid (∀ W, Below W1.heap.size W1 W → Calls Tryd.prog 19 #[errV A ck] W fun e w' => e = .returned (.int .i64 (numE ck : Int)) ∧ W = w') := fun W h => num_errK A ck W (HE.out.keep (Below.next HB1.out h)) hkinds
  have HSZ : Hid (Calls Tryd.prog 29 #[.agg #[.int .i64 f, .slice ua n uc]] W1 fun e w' => e = .returned (.int .i64 z) ∧ Below W1.heap.size W1 w') := by rw [hz]; exact bsize_any f _ l W1 HOK.out (by have := HL.out; omega) HR1.out
  obtain ⟨ev, hev⟩ : ∃ ev, ev = errV A ck := ⟨_, rfl⟩
  obtain ⟨nm, hnm⟩ : ∃ nm, nm = numE ck := ⟨_, rfl⟩
  rw [← hev] at HCK HNM
  rw [← hnm] at HNM HRC
  clear hz hck hkinds hev hnm
  go_wp2_with fail
  refine HSZ.out.mono ?_
  rintro e w2 ⟨rfl, hb2⟩
  have HB2 := hide hb2
  clear hb2 HSZ o0 o1
  have o0 := (HX1.out.below HB2.out).c0
  have o1 := (HX1.out.below HB2.out).c1
  obtain ⟨p0, p1, p6⟩ := (HX0.out.below (Below.next HB1.out HB2.out)).c7
  go_wp2_with fail
  refine (HCK.out _ HB2.out).mono ?_
  rintro e w3 ⟨rfl, hb3⟩
  have HB3 := hide (Below.next HB2.out hb3)
  clear hb3 HCK o0 o1 p0 p1 p6 HB2
  obtain ⟨p0, p1, p6⟩ := (HX0.out.below (Below.next HB1.out HB3.out)).c7
  have e1 : (z == z) = true := by simp
  have e2 : ((nm : Int) == (nm : Int)) = true := by simp
  go_wp2_with fail
  go_region_held3 (fun w' => w'.cell? ⟨w.heap.size, 0, none⟩ = some (.int .i64 f) ∧ w'.cell? ⟨w.heap.size, 1, none⟩ = some (.slice a n c) ∧ w'.cell? ⟨w.heap.size, 6, none⟩ = some (.bool root)) (go_keep)
    (first
      | (go_at_call 31; refine (HRS.out _ ?_).mono ?_; (exact Below.next HB3.out (Below.refl _ _).drew); rintro e w6 ⟨rfl, hb6d⟩; have hb6 : Below W1.heap.size W1 w6 := Below.next HB3.out (undrewB hb6d); have HB6 := hide hb6; obtain ⟨s0, s1, s6⟩ := (HX0.out.below (Below.next HB1.out hb6)).c7; clear hb6 hb6d)
      | (go_at_call 19; refine (HNM.out _ ?_).mono ?_; (exact HB6.out); rintro e w7 ⟨rfl, rfl⟩)
      | (go_at_call 32; refine (HRC.out _ ?_).mono ?_; (exact HB6.out); rintro e w7 ⟨rfl, hb7d⟩; have hb7 : Below W1.heap.size W1 w7 := Below.next HB6.out hb7d; have HB7 := hide hb7; obtain ⟨t0, t1, t6⟩ := (HX0.out.below (Below.next HB1.out hb7)).c7; clear hb7 hb7d)
      | (go_at_call 22; refine (HK.out _ ?_).mono ?_; (exact HB7.out); rintro e w8 ⟨rfl, hb8d⟩; have hb8 : Below W1.heap.size W1 w8 := Below.next HB7.out hb8d; have HB8 := hide hb8; obtain ⟨v0, v1, v6⟩ := (HX0.out.below (Below.next HB1.out hb8)).c7; clear hb8 hb8d))
  all_goals
    have HB10 := hide (Below.next HQ0.out (Below.next HB1.out HB8.out))
    go_wp2
    go_ret
    exact ⟨rfl, HB10.out⟩

end Go.Proofs.YtagldlchamlpdaaDoor
