import Derived.Test.YtgljkgkophaefaaDoorRComp
import Derived.Test.YtgljkgkophaefaaDoorReturned
import Derived.Test.YtgljkgkophaefaaDoorErrsG
namespace Go.Proofs.YtgljkgkophaefaaDoor
open Go.RowKit

theorem packF_fault {l : List It} (h : packF l = 0) : faultR 4 l = 0 := by
  unfold packF at h
  split at h
  · assumption
  · exact absurd h ‹_›

set_option maxHeartbeats 1000000 in
theorem rcompare_any (la lb : List It) (va vb : Value) (w : World) (ha : ItsAt w anyB va la) (hb : ItsAt w anyB vb lb) (sa : (encL la).length ≤ 100000000000000) (sb : (encL lb).length ≤ 100000000000000) :
    Calls Tryd.prog 14 #[va, vb] w fun e w' => e = .returned (.tuple #[.int .i64 (compV la lb), .int .i64 (compF la lb : Nat)]) ∧ Below w.heap.size w w' := by
  go_enter Tryd.func14, Tryd.ntmps14
  go_wp2_with fail
  refine (rpack_any la va w ha (fun _ => sa)).mono ?_
  rintro e w1 ⟨rfl, hb1⟩
  have ha1 := ha.keep hb1
  have hbb1 := hb.keep hb1
  have PB : Hid (Calls Tryd.prog 25 #[vb] w1 fun e w' => e = .returned (.tuple #[.string (packT lb), .int .i64 (packF lb : Nat)]) ∧ Below w1.heap.size w1 w') := rpack_any lb vb w1 hbb1 (fun _ => sb)
  have ORD : Hid (packF la = 0 → packF lb = 0 → cmpR 4 la lb = compV la lb) := fun h1 h2 => by
    have := order_texts la lb (packF_fault h1) (packF_fault h2) (ha.okR 4) (hb.okR 4)
    unfold compV
    rw [if_pos ⟨h1, h2⟩, this]
  have FA : Hid (packF la = 0 → faultR 4 la = 0) := packF_fault
  have FB : Hid (packF lb = 0 → faultR 4 lb = 0) := packF_fault
  have CF : Hid (compF la lb = if packF la = 0 then packF lb else packF la) := rfl
  have CV : Hid (¬ (packF la = 0 ∧ packF lb = 0) → compV la lb = 0) := fun h => by unfold compV; rw [if_neg h]
  clear ha hb sa sb
  generalize packT la = TA at *
  generalize packT lb = TB at *
  generalize packF la = A at *
  generalize packF lb = B at *
  by_cases fa : A = 0
  · have FA2 : Hid (faultR 4 la = 0) := FA.out fa
    have ORD2 : Hid (B = 0 → cmpR 4 la lb = compV la lb) := ORD.out fa
    have CF2 : Hid (compF la lb = B) := by show _ = _; rw [CF.out, if_pos fa]
    have CV2 : Hid (¬ B = 0 → compV la lb = 0) := fun h => CV.out (fun e => h e.2)
    clear FA ORD CF CV
    subst fa
    go_wp2_with fail
    refine PB.out.mono ?_
    rintro e w2 ⟨rfl, hb2⟩
    have hb02 := Below.next hb1 hb2
    have ha2 := ha1.keep hb2
    have hbb2 := hbb1.keep hb2
    by_cases fb : B = 0
    · have RC : Hid (Calls Tryd.prog 29 #[va, vb] w2 fun e w' => e = .returned (.int .i64 (cmpR 4 la lb)) ∧ Below w2.heap.size w2 w') := rcl_any 4 la lb va vb w2 ha2 hbb2 FA2.out (FB.out fb)
      have HV : Hid (cmpR 4 la lb = compV la lb ∧ compF la lb = 0) := ⟨ORD2.out fb, by rw [CF2.out, fb]⟩
      clear ORD2 FA2 FB CF2 CV2 PB
      subst fb
      go_wp2_with fail
      refine RC.out.mono ?_
      rintro e w3 ⟨rfl, hb3⟩
      go_wp2_with fail
      go_ret2
      exact ⟨by rw [← HV.out.1, HV.out.2]; rfl, Below.next hb02 hb3⟩
    · have hne : ((B : Int) != 0) = true := by rw [bne_iff_ne]; omega
      have HV : Hid (compV la lb = 0 ∧ compF la lb = B) := ⟨CV2.out fb, CF2.out⟩
      clear ORD2 FA2 FB CF2 CV2 PB fb
      go_wp2_with fail
      go_ret2
      exact ⟨by rw [HV.out.1, HV.out.2]; rfl, hb02⟩
  · have hne : ((A : Int) != 0) = true := by rw [bne_iff_ne]; omega
    have HV : Hid (compV la lb = 0 ∧ compF la lb = A) := ⟨CV.out (fun h => fa h.1), by rw [CF.out, if_neg fa]⟩
    clear ORD FA FB CF CV PB fa
    go_wp2_with fail
    go_ret2
    exact ⟨by rw [HV.out.1, HV.out.2]; rfl, hb1⟩

end Go.Proofs.YtgljkgkophaefaaDoor
