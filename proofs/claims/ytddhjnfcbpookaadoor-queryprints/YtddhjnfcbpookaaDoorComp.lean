import Derived.Test.YtddhjnfcbpookaaDoorPack
import Derived.Test.YtddhjnfcbpookaaDoorGC
namespace Go.Proofs.YtddhjnfcbpookaaDoor
open Go.RowKit

set_option maxHeartbeats 400000 in
theorem scmp_any (a b : ByteArray) (w : World) :
    Calls Tryd.prog 94 #[.string a, .string b] w fun e w' => e = .returned (.int .i64 (cmpB a.data.toList b.data.toList)) ∧ w = w' := by
  have hr : ∀ w, (callFunc 106 #[.string a, .string b]).run Tryd.prog w = .ok (.value (.int .i64 (cmpB a.data.toList b.data.toList))) w := fun w => by
    rw [run_callFunc_extern Tryd.func106 (by kernel_rfl) (by kernel_rfl) (by kernel_rfl) (e := Extern.BytealgCompare.compare) (by kernel_rfl), Lib.run_compareString]
    rfl
  go_enter Tryd.func94, Tryd.ntmps94
  go_wp2
  go_ret
  exact ⟨rfl, rfl⟩

def compF (a b : List It) : Nat := if packF a = 0 then packF b else packF a
def compV (a b : List It) : Int := if packF a = 0 ∧ packF b = 0 then cmpB (encL a) (encL b) else 0
theorem errOf_ne (aA aM : Addr) (f : Nat) (h : f ≠ 0) : ∃ aE, errOf aA aM f = .iface 144 (.pointer (some aE)) := by
  unfold errOf
  rw [if_neg h]
  split
  · exact ⟨aA, rfl⟩
  · exact ⟨aM, rfl⟩

set_option maxHeartbeats 2000000 in
set_option maxRecDepth 100000 in
theorem compare_any (aA aM : Addr) (la lb : List It) (va vb : Value) (w : World) (ha : ItsAt w anyB va la) (hb : ItsAt w anyB vb lb) (he : Errs2 aA aM w) (sa : faultR 4 la = 0 → (encL la).length ≤ 100000000000000) (sb : faultR 4 lb = 0 → (encL lb).length ≤ 100000000000000) :
    Calls Tryd.prog 76 #[va, vb] w fun e w' => e = .returned (.tuple #[.int .i64 (compV la lb), errOf aA aM (compF la lb)]) ∧ Below w.heap.size w w' := by
  go_enter Tryd.func76, Tryd.ntmps76
  go_wp2_with fail
  refine (pack_any aA aM la va w ha he sa).mono ?_
  rintro e w1 ⟨rfl, hb1⟩
  by_cases fa : packF la = 0
  · have PB := pack_any aA aM lb vb w1 (hb.keep hb1) (he.keep hb1) sb
    have hE : errOf aA aM (packF la) = .nilIface := by rw [fa]; rfl
    have HA : Hid (packT la = ⟨(encL la).toArray⟩) := by show packT la = _; unfold packT; rw [if_pos fa]
    have PBH : Hid (Calls Tryd.prog 55 #[vb] w1 fun e w' => e = .returned (.tuple #[.string (packT lb), errOf aA aM (packF lb)]) ∧ Below w1.heap.size w1 w') := PB
    have FA : Hid (packF la = 0) := fa
    rw [hE]
    clear PB hE fa ha hb he sa sb
    generalize packT la = TA at *
    go_wp2_with fail
    refine PBH.out.mono ?_
    rintro e w2 ⟨rfl, hb2⟩
    have HB : Hid (Below w.heap.size w w2) := Below.next hb1 hb2
    clear PBH hb1 hb2
    by_cases fb : packF lb = 0
    · have hE : errOf aA aM (packF lb) = .nilIface := by rw [fb]; rfl
      have HBT : Hid (packT lb = ⟨(encL lb).toArray⟩) := by show packT lb = _; unfold packT; rw [if_pos fb]
      have HV : Hid (compV la lb = cmpB TA.data.toList (packT lb).data.toList ∧ compF la lb = 0) := by
        refine ⟨?_, by unfold compF; rw [if_pos FA.out, fb]⟩
        unfold compV
        rw [if_pos ⟨FA.out, fb⟩, HA.out, HBT.out]
      rw [hE]
      clear hE fb FA HA HBT
      generalize packT lb = TB at *
      have SC := fun w => scmp_any TA TB w
      have SCH : Hid (∀ w, Calls Tryd.prog 94 #[.string TA, .string TB] w fun e w' => e = .returned (.int .i64 (cmpB TA.data.toList TB.data.toList)) ∧ w = w') := SC
      clear SC
      go_wp2_with fail
      refine (SCH.out _).mono ?_
      rintro e w3 ⟨rfl, rfl⟩
      go_wp2_with fail
      go_ret2
      exact ⟨by rw [HV.out.1, HV.out.2]; rfl, HB.out⟩
    · obtain ⟨aE, hE⟩ := errOf_ne aA aM _ fb
      have HE : Hid (errOf aA aM (packF lb) = .iface 144 (.pointer (some aE))) := hE
      have HV : Hid (compV la lb = 0 ∧ compF la lb = packF lb) := ⟨by unfold compV; rw [if_neg (fun h => fb h.2)], by unfold compF; rw [if_pos FA.out]⟩
      rw [HE.out]
      clear hE fb FA HA
      go_wp2_with fail
      go_ret2
      exact ⟨by rw [HV.out.1, HV.out.2, HE.out]; rfl, HB.out⟩
  · obtain ⟨aE, hE⟩ := errOf_ne aA aM _ fa
    have HE : Hid (errOf aA aM (packF la) = .iface 144 (.pointer (some aE))) := hE
    have HV : Hid (compV la lb = 0 ∧ compF la lb = packF la) := ⟨by unfold compV; rw [if_neg (fun h => fa h.1)], by unfold compF; rw [if_neg fa]⟩
    rw [HE.out]
    clear hE fa ha hb he sa sb
    go_wp2_with fail
    go_ret2
    exact ⟨by rw [HV.out.1, HV.out.2, HE.out]; rfl, hb1⟩

end Go.Proofs.YtddhjnfcbpookaaDoor
