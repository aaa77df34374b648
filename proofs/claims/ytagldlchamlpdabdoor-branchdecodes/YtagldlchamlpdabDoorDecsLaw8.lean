import Derived.Test.YtagldlchamlpdabDoorRBDec2
import Derived.Test.YtagldlchamlpdabDoorBSame
import Derived.Test.YtagldlchamlpdabDoorLErrB
namespace Go.Proofs.YtagldlchamlpdabDoor
open Go.RowKit

set_option maxRecDepth 20000 in
set_option maxHeartbeats 8000000 in
theorem decodes_any (A : Nat → Addr) (c : Int) (s : ByteArray) (w : World) (hE : ErrsG 13 gAll A w) :
    Calls Tryd.prog 4 #[.agg #[.int .i64 c, .string s]] w fun e w' => e = .returned (.bool true) ∧ Below w.heap.size w w' := by
  have q0 := below_new w (.cells #[.int .i64 c, .string s] 23)
  have x0 := RowAt.new w #[.int .i64 c, .string s] 23
  generalize hW0 : w.alloc (.cells #[.int .i64 c, .string s] 23) = W0 at *
  have HX := hide x0
  have HQ := hide q0
  have HE := hide (hE.keep q0)
  have p0 := x0.c0
  have p1 := x0.c1
  have HDE := hide (bdec_any A c s W0 (errK_all HE.out))
  clear q0 x0 hE
  go_enter Tryd.func4, Tryd.ntmps4
  go_wp2_with fail
  refine HDE.out.mono ?_
  rintro e w1 ⟨hv, hb1⟩
  have hval : ∃ (f : Int) (l : List Lk) (ua : Option Addr) (un uc : Nat) (ev : Value) (nm : Nat), e = .returned (.tuple #[.agg #[.int .i64 f, .slice ua un uc], ev]) ∧ LkR w1 (.slice ua un uc) l ∧ l.length ≤ 2036 ∧
      (∀ W, Below W0.heap.size W0 W → Calls Tryd.prog 10 #[ev] W fun e w' => e = .returned (.int .i64 (nm : Int)) ∧ W = w') ∧
      (∀ w' e', RBDecV c s w1.heap.size e' w' → ∃ (va : Option Addr) (vn vc : Nat), e' = .returned (.tuple #[.agg #[.int .i64 f, .slice va vn vc], .int .i64 (nm : Int)]) ∧ LkR w' (.slice va vn vc) l) ∧
      (∀ w' e', RBDecV c s (w1.alloc (.cells #[.int .i64 f, .slice ua un uc] 30)).heap.size e' w' → ∃ (va : Option Addr) (vn vc : Nat), e' = .returned (.tuple #[.agg #[.int .i64 f, .slice va vn vc], .int .i64 (nm : Int)]) ∧ LkR w' (.slice va vn vc) l) := by
    have same : ∀ B w' e', (0 ≤ c ∧ DecB c.toNat s.data.toList) → RBDecV c s B e' w' → ∃ (va : Option Addr) (vn vc : Nat), e' = .returned (.tuple #[.agg #[.int .i64 (brF (cellsB s.data.toList c.toNat)), .slice va vn vc], .int .i64 ((0 : Nat) : Int)]) ∧ LkR w' (.slice va vn vc) (brL (cellsB s.data.toList c.toNat)) := fun B w' e' hh h => by
      rcases h with ⟨_, _, u, rfl, ho⟩ | ⟨hn, _⟩
      · obtain ⟨va, vc, hu⟩ := ho.form
        subst hu
        exact ⟨va, _, vc, rfl, ho.at⟩
      · exact absurd hh hn
    have none' : ∀ B w' e', ¬ (0 ≤ c ∧ DecB c.toNat s.data.toList) → RBDecV c s B e' w' → ∃ (va : Option Addr) (vn vc : Nat), e' = .returned (.tuple #[.agg #[.int .i64 0, .slice va vn vc], .int .i64 ((2 : Nat) : Int)]) ∧ LkR w' (.slice va vn vc) [] := fun B w' e' hn h => by
      rcases h with ⟨h0, hd, _⟩ | ⟨_, rfl⟩
      · exact absurd ⟨h0, hd⟩ hn
      · exact ⟨none, 0, 0, rfl, LkR.nil _⟩
    rcases hv with ⟨h0, hd, u, rfl, ho⟩ | ⟨hno, rfl⟩
    · obtain ⟨ua, uc, hu⟩ := ho.form
      subst hu
      have hlen : (brL (cellsB s.data.toList c.toNat)).length ≤ 2036 := by
        have h1 := hd.1.1.1
        simp only [brL, List.length_map, List.length_drop, cellsB_len]; omega
      exact ⟨_, _, ua, _, uc, .nilIface, 0, rfl, ho.at, hlen, fun W _ => num_nil W, fun w' e' h => same _ w' e' ⟨h0, hd⟩ h, fun w' e' h => same _ w' e' ⟨h0, hd⟩ h⟩
    · exact ⟨0, [], none, 0, 0, _, 2, rfl, LkR.nil _, Nat.zero_le _, fun W h => num_text A W ((HE.out.keep h).weak (by decide)), fun w' e' h => none' _ w' e' hno h, fun w' e' h => none' _ w' e' hno h⟩
  obtain ⟨f, l, ua, un, uc, ev, nm, rfl, hrl, hll, hnm, _, href⟩ := hval
  have q1 := below_new w1 (.cells #[.int .i64 f, .slice ua un uc] 30)
  have x1 := RowAt.new w1 #[.int .i64 f, .slice ua un uc] 30
  generalize hW1 : w1.alloc (.cells #[.int .i64 f, .slice ua un uc] 30) = W1 at *
  have HB1 := hide (Below.next hb1 q1)
  have HX1 := hide x1
  have HRL := hide (hrl.below q1)
  have HNM := hide hnm
  have HREF := hide href
  have HLL := hide hll
  clear hv hb1 q1 x1 hrl hnm href hll p0 p1 HDE
  have p0 := (HX.out.below HB1.out).c0
  have p1 := (HX.out.below HB1.out).c1
  go_wp2_with fail
  refine (rbdec_any c s W1).mono ?_
  rintro e w2 ⟨hv, hb2⟩
  obtain ⟨va, vn, vc, rfl, hrv⟩ := HREF.out _ _ hv
  have q2 := below_new w2 (.cells #[.int .i64 f, .slice va vn vc] 30)
  have x2 := RowAt.new w2 #[.int .i64 f, .slice va vn vc] 30
  have HB2 := hide (Below.next HB1.out (Below.next hb2 q2))
  have HB12 := hide (Below.next hb2 q2)
  have r0 := (HX1.out.below (Below.next hb2 q2)).c0
  have r1 := (HX1.out.below (Below.next hb2 q2)).c1
  have r2 := x2.c0
  have r3 := x2.c1
  have HRV := hide (hrv.below q2)
  clear hv hb2 q2 x2 hrv p0 p1 hW1 HREF
  go_wp2_with fail
  generalize w2.alloc (.cells #[.int .i64 f, .slice va vn vc] 30) = W2 at *
  refine (sameb_same f _ _ l W2 (by have := HLL.out; omega) (HRL.out.below HB12.out) HRV.out).mono ?_
  rintro e w3 ⟨rfl, hb3⟩
  have HB3 := hide (Below.next HB2.out hb3)
  have HN3 := hide (HNM.out _ HB3.out)
  have HBF := hide (Below.next HQ.out HB3.out)
  have e2 : ((nm : Int) == (nm : Int)) = true := by simp
  clear hb3 r0 r1 r2 r3 HNM
  go_wp2_with fail
  refine HN3.out.mono ?_
  rintro e w4 ⟨rfl, rfl⟩
  go_wp2
  go_ret
  exact ⟨rfl, HBF.out⟩

end Go.Proofs.YtagldlchamlpdabDoor
