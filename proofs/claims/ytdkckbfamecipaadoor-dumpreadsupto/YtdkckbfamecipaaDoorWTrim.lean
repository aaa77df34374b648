import Derived.Test.YtdkckbfamecipaaDoorWBase
namespace Go.Proofs.YtdkckbfamecipaaDoor
open Go.RowKit

set_option maxHeartbeats 400000 in
theorem trimL_any (s : ByteArray) (w : World) :
    Calls Tryd.prog 28 #[.string s, .int .u8 32] w fun e w' => e = .returned (.string (ba (skipB s.data.toList))) ∧ w' = w := by
  obtain ⟨t, ht⟩ : ∃ t, t = ba (skipB s.data.toList) := ⟨_, rfl⟩
  rw [← ht]
  have HT := hide ht
  clear ht
  go_enter Tryd.func28, Tryd.ntmps28
  go_wp2
  go_loop [0] (fun v => ∃ (x : ByteArray), v = .string x ∧ skipB x.data.toList = skipB s.data.toList ∧ x.size ≤ s.size) (fun v => match v with | .string x => x.size | _ => 0)
  case atStart => exact ⟨s, rfl, rfl, Nat.le_refl _⟩
  case round =>
    obtain ⟨x, rfl, he, hle⟩ := hrel
    have HE := hide he
    clear he
    by_cases h0 : 0 < x.size
    · have h0I : (0 : Int) < (x.size : Int) := by omega
      have h1I : (1 : Int) ≤ (x.size : Int) := by omega
      have HL := hide (toList_first x h0)
      by_cases hz : x[0] = 32
      · have hz' : ((x[0].toNat : Int) == 32) = true := by rw [hz]; rfl
        have HZ := hide hz
        clear hz
        go_wp2
        go_round
        case rel =>
          refine ⟨_, rfl, ?_, ?_⟩
          · rw [← HE.out, ext_toList, List.take_of_length_le (by rw [List.length_drop, bsize]; omega)]
            conv => rhs; rw [HL.out, HZ.out]
            rfl
          · rw [ByteArray.size_extract]; omega
        case measure => simp [ByteArray.size_extract]; omega
      · have hz' : ((x[0].toNat : Int) == 32) = false := by
          rw [beq_eq_false_iff_ne]
          intro h
          exact hz (UInt8.toNat_inj.1 (show _ = 32 by omega))
        have HX : Hid (x = t) := by
          have hb : blankB x[0] = false := by simpa [blankB] using hz
          refine ba_ext ?_
          rw [HT.out]
          show _ = (skipB s.data.toList).toArray.toList
          rw [← HE.out]
          conv => rhs; rw [HL.out]
          show _ = (List.dropWhile blankB (x[0] :: _)).toArray.toList
          rw [List.dropWhile_cons_of_neg (by rw [hb]; decide)]
          exact HL.out
        clear hz
        go_wp2
        go_ret
        exact ⟨by rw [← HX.out]; rfl, rfl⟩
    · have h0I : ¬ (0 : Int) < (x.size : Int) := by omega
      have HX : Hid (x = t) := by
        refine ba_ext ?_
        rw [HT.out]
        show _ = (skipB s.data.toList).toArray.toList
        have hn : x.data.toList = [] := List.length_eq_zero_iff.1 (by rw [bsize]; omega)
        rw [← HE.out, hn]; rfl
      go_wp2
      go_ret
      exact ⟨by rw [← HX.out]; rfl, rfl⟩


set_option maxRecDepth 100000 in
set_option maxHeartbeats 1000000 in
theorem after_any (s : ByteArray) (w : World) (hs : s.size ≤ 140737488355328) :
    Calls Tryd.prog 18 #[.string s] w fun e w' => e = .returned (.string (ba (skipB s.data.toList))) ∧ Below w.heap.size w w' := by
  by_cases h0 : s = ⟨#[]⟩
  · subst h0
    have HT : Hid (ba (skipB (⟨#[]⟩ : ByteArray).data.toList) = ⟨#[]⟩) := rfl
    rw [HT.out]
    go_enter Tryd.func18, Tryd.ntmps18
    go_wp2
    go_ret
    exact ⟨rfl, Below.refl _ _⟩
  · have hne : s.toList.isEmpty = false := by rw [empty_iff]; exact decide_eq_false h0
    have hne2 : ¬ s.toList = [] := fun h => by rw [h] at hne; cases hne
    have hc0 : (((({ data := #[32] } : ByteArray)[0]).toNat : Nat) : Int) = 32 := rfl
    have HL := hide (fun w => trimL_any s w)
    generalize ba (skipB s.data.toList) = t at *
    go_enter Tryd.func18, Tryd.ntmps18
    go_wp2_with (first | (go_at_call 28; refine (HL.out _).mono ?_; rintro e w1 ⟨rfl, rfl⟩) | go_in)
    go_ret
    exact ⟨rfl, Below.refl _ _⟩

end Go.Proofs.YtdkckbfamecipaaDoor
