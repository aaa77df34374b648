import Derived.Test.YtagldlchamlpdaaDoorBRet
import Derived.Test.YtagldlchamlpdaaDoorRBEnc
import Derived.Test.YtagldlchamlpdaaDoorLErrB
namespace Go.Proofs.YtagldlchamlpdaaDoor
open Go.RowKit

set_option maxRecDepth 20000 in
set_option maxHeartbeats 4000000 in
theorem encodes_any (A : Nat → Addr) (f : Int) (l : List Lk) (a : Option Addr) (c : Nat) (w : World) (hl : l.length ≤ 5864062014634) (hok : OkK l) (hr : LkR w (.slice a l.length c) l) (hE : ErrsG 13 gAll A w) :
    Calls Tryd.prog 7 #[.agg #[.int .i64 f, .slice a l.length c]] w fun e w' => e = .returned (.bool true) ∧ Below w.heap.size w w' := by
  obtain ⟨n, hn⟩ : ∃ n, n = l.length := ⟨_, rfl⟩
  rw [← hn] at hr ⊢
  have q0 := below_new w (.cells #[.int .i64 f, .slice a n c] 27)
  have x0 := RowAt.new w #[.int .i64 f, .slice a n c] 27
  generalize hW0 : w.alloc (.cells #[.int .i64 f, .slice a n c] 27) = W0 at *
  have HX0 := hide x0
  have HQ0 := hide q0
  have HR := hide (hr.below q0)
  have HE := hide (hE.keep q0)
  have HN := hide hn
  have HL := hide hl
  have HOK := hide hok
  have p0 := x0.c0
  have p1 := x0.c1
  clear q0 x0 hr hE hn hl hok
  go_enter Tryd.func7, Tryd.ntmps7
  go_wp2_with fail
  refine (lent_any f _ l W0 (by have := HL.out; omega) HR.out).mono ?_
  rintro e w1 ⟨ua, uc, rfl, ho1, hb1⟩
  rw [← HN.out] at ho1 ⊢
  have q1 := below_new w1 (.cells #[.int .i64 f, .slice ua n uc] 27)
  have x1 := RowAt.new w1 #[.int .i64 f, .slice ua n uc] 27
  generalize hW1 : w1.alloc (.cells #[.int .i64 f, .slice ua n uc] 27) = W1 at *
  have HB1 := hide (Below.next hb1 q1)
  have ho2 := ho1.below q1
  have htk : (l ++ marksK 4).take n = l := by rw [HN.out, List.take_left]
  have r1 := ho2.at.take (m := n) (by rw [HN.out]; omega)
  rw [htk] at r1
  have HM := hide ho2.at
  have o0 := x1.c0
  have o1 := x1.c1
  have HEN := hide (benc_any A f _ l W1 HOK.out (by have := HL.out; omega) r1 (errK_all (HE.out.keep HB1.out)))
  clear ho1 ho2 hb1 q1 x1 p0 p1 htk r1
  go_wp2_with fail
  refine HEN.out.mono ?_
  rintro e w2 ⟨hv, hb2⟩
  have hcases : ∃ (s : ByteArray) (ck : Option Nat), e = .returned (.tuple #[.string s, errV A ck]) ∧ chkB f l true = ck ∧ ((ck = none ∧ s = encK f l) ∨ (ck ≠ none ∧ s = ⟨#[]⟩)) := by
    rcases hv with ⟨h1, rfl⟩ | ⟨k, h1, rfl⟩
    · exact ⟨_, none, rfl, h1, .inl ⟨rfl, rfl⟩⟩
    · exact ⟨_, some k, rfl, h1, .inr ⟨by simp, rfl⟩⟩
  obtain ⟨s, ck, rfl, hck, hs⟩ := hcases
  have hkinds := chkB_kinds f l true
  rw [hck] at hkinds
  have HB2 := hide (Below.next HB1.out hb2)
  have HB12 := hide hb2
  have HS := hide hs
  have HCK := hide hck
  clear hv hb2 HEN o0 o1 hs hck
  have p0 := (HX0.out.below HB2.out).c0
  have p1 := (HX0.out.below HB2.out).c1
  have HNM : Hid (∀ W, Below W0.heap.size W0 W → Calls Tryd.prog 19 #[errV A ck] W fun e w' => e = .returned (.int .i64 (numE ck : Int)) ∧ W = w') := fun W h => num_errK A ck W (HE.out.keep h) hkinds
  obtain ⟨ev, hev⟩ : ∃ ev, ev = errV A ck := ⟨_, rfl⟩
  rw [← hev] at HNM ⊢
  clear hkinds hev
  have HRE := hide (rbenc_any f _ l w2 (by have := HL.out; omega) (HR.out.below HB2.out))
  go_wp2_with fail
  refine HRE.out.mono ?_
  rintro e w3 ⟨hv, hb3⟩
  have hcases : e = .returned (.tuple #[.string s, .int .i64 (numE ck : Int)]) := by
    rcases hv with ⟨h1, rfl⟩ | ⟨k, h1, rfl⟩
    · rw [HCK.out] at h1
      subst h1
      rcases HS.out with ⟨_, h2⟩ | ⟨h2, _⟩
      · rw [h2]; rfl
      · exact absurd rfl h2
    · rw [HCK.out] at h1
      subst h1
      rcases HS.out with ⟨h2, _⟩ | ⟨_, h2⟩
      · cases h2
      · rw [h2]; rfl
  subst hcases
  have HB3 := hide (Below.next HB2.out hb3)
  have HB13 := hide (Below.next HB12.out hb3)
  clear hv hb3 HRE p0 p1 HS HCK HB12
  have HN3 := hide (HNM.out _ HB3.out)
  obtain ⟨nm, hnm⟩ : ∃ nm, nm = numE ck := ⟨_, rfl⟩
  rw [← hnm] at HN3 ⊢
  clear hnm HNM
  have e1 : (s.toList == s.toList) = true := by simp
  have e2 : ((nm : Int) == (nm : Int)) = true := by simp
  have p0 := (HX0.out.below HB3.out).c0
  have p1 := (HX0.out.below HB3.out).c1
  have HK := hide (returned_true f _ _ l w3 (by have := HL.out; omega) (HM.out.below HB13.out) (HR.out.below HB3.out))
  go_wp2_with fail
  refine HN3.out.mono ?_
  rintro e w4 ⟨rfl, rfl⟩
  go_wp2_with fail
  refine HK.out.mono ?_
  rintro e w5 ⟨rfl, hb5⟩
  have HB10 := hide (Below.next HQ0.out (Below.next HB3.out hb5))
  clear hb5 HK HN3 p0 p1
  go_wp2
  go_ret
  exact ⟨rfl, HB10.out⟩

end Go.Proofs.YtagldlchamlpdaaDoor
