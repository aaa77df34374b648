import Derived.Test.YtdkckbfamecipaaDoorWTrim
namespace Go.Proofs.YtdkckbfamecipaaDoor
open Go.RowKit

theorem u8_ne {c : UInt8} {k : Nat} (hk : k < 256) (h : ¬ c = UInt8.ofNat k) : ((c.toNat : Int) == (k : Int)) = false := by
  rw [beq_eq_false_iff_ne]
  intro e
  refine h (UInt8.toNat_inj.1 ?_)
  rw [UInt8.toNat_ofNat', Nat.mod_eq_of_lt hk]
  omega
theorem u8_eq {c : UInt8} {k : Nat} (hk : k < 256) (h : c = UInt8.ofNat k) : ((c.toNat : Int) == (k : Int)) = true := by
  subst h
  rw [beq_iff_eq, UInt8.toNat_ofNat', Nat.mod_eq_of_lt hk]
set_option maxHeartbeats 400000 in
theorem seen_any (b : UInt8) (w : World) : Calls Tryd.prog 43 #[.int .u8 (b.toNat : Int)] w fun e w' => e = .returned (.bool (seenB b)) ∧ w = w' := by
  obtain ⟨o, ho⟩ : ∃ o, seenB b = o := ⟨_, rfl⟩
  rw [ho]
  unfold seenB at ho
  have HO := hide ho
  clear ho
  by_cases h1 : 32 ≤ b.toNat
  · have h1I : (32 : Int) ≤ (b.toNat : Int) := by omega
    by_cases h2 : b.toNat ≤ 126
    · have h2I : (b.toNat : Int) ≤ 126 := by omega
      have HE : Hid (o = true) := by show _ = _; rw [← HO.out]; simp [h1, h2]
      go_enter Tryd.func43, Tryd.ntmps43
      go_wp2
      go_ret
      exact ⟨by rw [HE.out]; rfl, rfl⟩
    · have h2I : ¬ (b.toNat : Int) ≤ 126 := by omega
      have HE : Hid (o = false) := by show _ = _; rw [← HO.out]; simp [h2]
      go_enter Tryd.func43, Tryd.ntmps43
      go_wp2
      go_ret
      exact ⟨by rw [HE.out]; rfl, rfl⟩
  · have h1I : ¬ (32 : Int) ≤ (b.toNat : Int) := by omega
    have HE : Hid (o = false) := by show _ = _; rw [← HO.out]; simp [h1]
    go_enter Tryd.func43, Tryd.ntmps43
    go_wp2
    go_ret
    exact ⟨by rw [HE.out]; rfl, rfl⟩
set_option maxHeartbeats 400000 in
theorem stand_any (b : UInt8) (w : World) : Calls Tryd.prog 33 #[.int .u8 (b.toNat : Int)] w fun e w' => e = .returned (.bool (bareB b)) ∧ w = w' := by
  obtain ⟨o, ho⟩ : ∃ o, bareB b = o := ⟨_, rfl⟩
  rw [ho]
  unfold bareB at ho
  have HO := hide ho
  clear ho
  have HS := hide (seen_any b)
  cases hs : seenB b with
  | true =>
    rw [hs] at HS
    unfold seenB at hs
    simp only [Bool.and_eq_true, decide_eq_true_eq] at hs
    have HH := hide hs
    clear hs
    by_cases h1 : b = 32
    · have h1I : ((b.toNat : Int) != 32) = false := by rw [h1]; rfl
      have HE : Hid (o = false) := by show _ = _; rw [← HO.out, h1]; rfl
      clear h1
      go_enter Tryd.func33, Tryd.ntmps33
      go_wp2_with (go_at_call 43; refine (HS.out _).mono ?_; rintro e w1 ⟨rfl, rfl⟩)
      go_ret
      exact ⟨by rw [HE.out]; rfl, rfl⟩
    · have h1N : ¬ b.toNat = 32 := fun e => h1 (UInt8.toNat_inj.1 e)
      have h1I : ((b.toNat : Int) != 32) = true := by rw [bne_iff_ne]; omega
      by_cases h2 : b = 34
      · have h2I : ((b.toNat : Int) != 34) = false := by rw [h2]; rfl
        have HE : Hid (o = false) := by show _ = _; rw [← HO.out, h2]; rfl
        clear h1 h2 h1N
        go_enter Tryd.func33, Tryd.ntmps33
        go_wp2_with (go_at_call 43; refine (HS.out _).mono ?_; rintro e w1 ⟨rfl, rfl⟩)
        go_ret
        exact ⟨by rw [HE.out]; rfl, rfl⟩
      · have h2N : ¬ b.toNat = 34 := fun e => h2 (UInt8.toNat_inj.1 e)
        have h2I : ((b.toNat : Int) != 34) = true := by rw [bne_iff_ne]; omega
        have HE : Hid (o = true) := by
          show _ = _; rw [← HO.out]
          have := HH.out
          simp only [Bool.and_eq_true, decide_eq_true_eq]
          omega
        clear h1 h2 h1N h2N
        go_enter Tryd.func33, Tryd.ntmps33
        go_wp2_with (go_at_call 43; refine (HS.out _).mono ?_; rintro e w1 ⟨rfl, rfl⟩)
        go_ret
        exact ⟨by rw [HE.out]; rfl, rfl⟩
  | false =>
    rw [hs] at HS
    have HE : Hid (o = false) := by
      show _ = _; rw [← HO.out]
      cases hx : (decide (33 ≤ b.toNat) && decide (b.toNat ≤ 126) && decide (b.toNat ≠ 34)) with
      | false => rfl
      | true =>
        simp only [Bool.and_eq_true, decide_eq_true_eq] at hx
        have : seenB b = true := by
          unfold seenB
          simp only [Bool.and_eq_true, decide_eq_true_eq]
          omega
        rw [this] at hs; cases hs
    clear hs
    go_enter Tryd.func33, Tryd.ntmps33
    go_wp2_with (go_at_call 43; refine (HS.out _).mono ?_; rintro e w1 ⟨rfl, rfl⟩)
    go_ret
    exact ⟨by rw [HE.out]; rfl, rfl⟩
def needB (b : UInt8) : Bool := b == 34 || b == 92
set_option maxHeartbeats 400000 in
theorem needs_any (b : UInt8) (w : World) : Calls Tryd.prog 44 #[.int .u8 (b.toNat : Int)] w fun e w' => e = .returned (.bool (needB b)) ∧ w = w' := by
  by_cases h1 : b = 34
  · have h1I : ((b.toNat : Int) == 34) = true := by rw [h1]; rfl
    have HE : Hid (needB b = true) := by show _ = _; rw [h1]; rfl
    rw [HE.out]
    clear h1
    go_enter Tryd.func44, Tryd.ntmps44
    go_wp2
    go_ret
    exact ⟨rfl, rfl⟩
  · have h1I : ((b.toNat : Int) == 34) = false := u8_ne (k := 34) (by decide) h1
    by_cases h2 : b = 92
    · have h2I : ((b.toNat : Int) == 92) = true := by rw [h2]; rfl
      have HE : Hid (needB b = true) := by show _ = _; rw [h2]; rfl
      rw [HE.out]
      clear h1 h2
      go_enter Tryd.func44, Tryd.ntmps44
      go_wp2
      go_ret
      exact ⟨rfl, rfl⟩
    · have h2I : ((b.toNat : Int) == 92) = false := u8_ne (k := 92) (by decide) h2
      have HE : Hid (needB b = false) := by show _ = _; unfold needB; simp [h1, h2]
      rw [HE.out]
      clear h1 h2
      go_enter Tryd.func44, Tryd.ntmps44
      go_wp2
      go_ret
      exact ⟨rfl, rfl⟩
theorem need_iff (b : UInt8) : needB b = true ↔ (b = 34 ∨ b = 92) := by unfold needB; simp
end Go.Proofs.YtdkckbfamecipaaDoor
