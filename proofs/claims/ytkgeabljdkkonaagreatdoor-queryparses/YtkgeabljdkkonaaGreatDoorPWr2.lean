import Derived.Test.YtkgeabljdkkonaaGreatDoorGH
namespace Go.Proofs.YtkgeabljdkkonaaGreatDoor
open Go.RowKit

set_option maxHeartbeats 2000000 in
theorem pbeg_any (c : UInt8) (w : World) : Calls Tryz.prog 55 #[.int .u8 (c.toNat : Int)] w fun e w' => e = .returned (.bool (letterB c)) ∧ w = w' := by
  obtain ⟨r, hr⟩ : ∃ r, r = letterB c := ⟨_, rfl⟩
  rw [← hr]
  unfold letterB at hr
  have HR := hide hr
  clear hr
  obtain ⟨n, hn⟩ : ∃ n, n = c.toNat := ⟨_, rfl⟩
  rw [← hn] at HR ⊢
  clear hn
  by_cases h1 : 97 ≤ n
  · have h1I : (97 : Int) ≤ (n : Int) := by omega
    by_cases h2 : n ≤ 122
    · have h2I : (n : Int) ≤ 122 := by omega
      have HE : Hid (r = true) := by show _ = _; rw [HR.out]; simp [h1, h2]
      clear HR
      go_enter Tryz.func55, Tryz.ntmps55
      go_wp2
      go_ret
      exact ⟨by rw [HE.out]; rfl, rfl⟩
    · have h2I : ¬ (n : Int) ≤ 122 := by omega
      have h3I : (65 : Int) ≤ (n : Int) := by omega
      have h4I : ¬ (n : Int) ≤ 90 := by omega
      have h5I : ((n : Int) == 95) = false := by rw [beq_eq_false_iff_ne]; omega
      have HE : Hid (r = false) := by show _ = _; rw [HR.out, decide_eq_false_iff_not]; omega
      clear HR
      go_enter Tryz.func55, Tryz.ntmps55
      go_wp2
      go_ret
      exact ⟨by rw [HE.out]; rfl, rfl⟩
  · have h1I : ¬ (97 : Int) ≤ (n : Int) := by omega
    by_cases h3 : 65 ≤ n
    · have h3I : (65 : Int) ≤ (n : Int) := by omega
      by_cases h4 : n ≤ 90
      · have h4I : (n : Int) ≤ 90 := by omega
        have HE : Hid (r = true) := by show _ = _; rw [HR.out]; simp [h3, h4]
        clear HR
        go_enter Tryz.func55, Tryz.ntmps55
        go_wp2
        go_ret
        exact ⟨by rw [HE.out]; rfl, rfl⟩
      · have h4I : ¬ (n : Int) ≤ 90 := by omega
        by_cases h5 : n = 95
        · have h5I : ((n : Int) == 95) = true := by rw [h5]; rfl
          have HE : Hid (r = true) := by show _ = _; rw [HR.out]; simp [h5]
          clear HR
          go_enter Tryz.func55, Tryz.ntmps55
          go_wp2
          go_ret
          exact ⟨by rw [HE.out]; rfl, rfl⟩
        · have h5I : ((n : Int) == 95) = false := by rw [beq_eq_false_iff_ne]; omega
          have HE : Hid (r = false) := by show _ = _; rw [HR.out, decide_eq_false_iff_not]; omega
          clear HR
          go_enter Tryz.func55, Tryz.ntmps55
          go_wp2
          go_ret
          exact ⟨by rw [HE.out]; rfl, rfl⟩
    · have h3I : ¬ (65 : Int) ≤ (n : Int) := by omega
      have h5I : ((n : Int) == 95) = false := by rw [beq_eq_false_iff_ne]; omega
      have HE : Hid (r = false) := by show _ = _; rw [HR.out, decide_eq_false_iff_not]; omega
      clear HR
      go_enter Tryz.func55, Tryz.ntmps55
      go_wp2
      go_ret
      exact ⟨by rw [HE.out]; rfl, rfl⟩
set_option maxHeartbeats 4000000 in
set_option maxRecDepth 100000 in
theorem pres_any (s : ByteArray) (w : World) : Calls Tryz.prog 75 #[.string s] w fun e w' => e = .returned (.bool (resB s)) ∧ w = w' := by
  obtain ⟨r, hr⟩ : ∃ r, r = resB s := ⟨_, rfl⟩
  rw [← hr]
  have HT : Hid (∀ x ∈ resL, x = s → r = true) := fun x hx h => by
    rw [hr, resB, List.any_eq_true]
    exact ⟨x, hx, decide_eq_true h⟩
  have HN : Hid ((∀ x ∈ resL, x ≠ s) → r = false) := fun h => by
    rw [hr, resB, List.any_eq_false]
    intro x hx
    simp [h x hx]
  clear hr
  by_cases h0 : s = ⟨#[102, 114, 111, 109]⟩
  · have HE : Hid (r = true) := HT.out ⟨#[102, 114, 111, 109]⟩ (by simp [resL]) h0.symm
    clear HT HN
    subst h0
    go_enter Tryz.func75, Tryz.ntmps75
    go_wp2
    go_ret
    exact ⟨by rw [HE.out]; rfl, rfl⟩
  by_cases h1 : s = ⟨#[119, 104, 101, 114, 101]⟩
  · have HE : Hid (r = true) := HT.out ⟨#[119, 104, 101, 114, 101]⟩ (by simp [resL]) h1.symm
    clear HT HN
    subst h1
    go_enter Tryz.func75, Tryz.ntmps75
    go_wp2
    go_ret
    exact ⟨by rw [HE.out]; rfl, rfl⟩
  by_cases h2 : s = ⟨#[97, 110, 100]⟩
  · have HE : Hid (r = true) := HT.out ⟨#[97, 110, 100]⟩ (by simp [resL]) h2.symm
    clear HT HN
    subst h2
    go_enter Tryz.func75, Tryz.ntmps75
    go_wp2
    go_ret
    exact ⟨by rw [HE.out]; rfl, rfl⟩
  by_cases h3 : s = ⟨#[111, 114, 100, 101, 114]⟩
  · have HE : Hid (r = true) := HT.out ⟨#[111, 114, 100, 101, 114]⟩ (by simp [resL]) h3.symm
    clear HT HN
    subst h3
    go_enter Tryz.func75, Tryz.ntmps75
    go_wp2
    go_ret
    exact ⟨by rw [HE.out]; rfl, rfl⟩
  by_cases h4 : s = ⟨#[98, 121]⟩
  · have HE : Hid (r = true) := HT.out ⟨#[98, 121]⟩ (by simp [resL]) h4.symm
    clear HT HN
    subst h4
    go_enter Tryz.func75, Tryz.ntmps75
    go_wp2
    go_ret
    exact ⟨by rw [HE.out]; rfl, rfl⟩
  by_cases h5 : s = ⟨#[102, 97, 108, 108, 105, 110, 103]⟩
  · have HE : Hid (r = true) := HT.out ⟨#[102, 97, 108, 108, 105, 110, 103]⟩ (by simp [resL]) h5.symm
    clear HT HN
    subst h5
    go_enter Tryz.func75, Tryz.ntmps75
    go_wp2
    go_ret
    exact ⟨by rw [HE.out]; rfl, rfl⟩
  by_cases h6 : s = ⟨#[108, 105, 109, 105, 116]⟩
  · have HE : Hid (r = true) := HT.out ⟨#[108, 105, 109, 105, 116]⟩ (by simp [resL]) h6.symm
    clear HT HN
    subst h6
    go_enter Tryz.func75, Tryz.ntmps75
    go_wp2
    go_ret
    exact ⟨by rw [HE.out]; rfl, rfl⟩
  by_cases h7 : s = ⟨#[110, 117, 108, 108]⟩
  · have HE : Hid (r = true) := HT.out ⟨#[110, 117, 108, 108]⟩ (by simp [resL]) h7.symm
    clear HT HN
    subst h7
    go_enter Tryz.func75, Tryz.ntmps75
    go_wp2
    go_ret
    exact ⟨by rw [HE.out]; rfl, rfl⟩
  by_cases h8 : s = ⟨#[116, 114, 117, 101]⟩
  · have HE : Hid (r = true) := HT.out ⟨#[116, 114, 117, 101]⟩ (by simp [resL]) h8.symm
    clear HT HN
    subst h8
    go_enter Tryz.func75, Tryz.ntmps75
    go_wp2
    go_ret
    exact ⟨by rw [HE.out]; rfl, rfl⟩
  by_cases h9 : s = ⟨#[102, 97, 108, 115, 101]⟩
  · have HE : Hid (r = true) := HT.out ⟨#[102, 97, 108, 115, 101]⟩ (by simp [resL]) h9.symm
    clear HT HN
    subst h9
    go_enter Tryz.func75, Tryz.ntmps75
    go_wp2
    go_ret
    exact ⟨by rw [HE.out]; rfl, rfl⟩
  have HE : Hid (r = false) := HN.out (by
    intro x hx e
    simp only [resL, List.mem_cons, List.not_mem_nil, or_false] at hx
    rcases hx with rfl | rfl | rfl | rfl | rfl | rfl | rfl | rfl | rfl | rfl
    · exact h0 e.symm
    · exact h1 e.symm
    · exact h2 e.symm
    · exact h3 e.symm
    · exact h4 e.symm
    · exact h5 e.symm
    · exact h6 e.symm
    · exact h7 e.symm
    · exact h8 e.symm
    · exact h9 e.symm)
  have g0 : (s.toList == [102, 114, 111, 109]) = false := by have h := str_ne h0; rwa [ByteArray.toList_eq ⟨#[102, 114, 111, 109]⟩] at h
  have g1 : (s.toList == [119, 104, 101, 114, 101]) = false := by have h := str_ne h1; rwa [ByteArray.toList_eq ⟨#[119, 104, 101, 114, 101]⟩] at h
  have g2 : (s.toList == [97, 110, 100]) = false := by have h := str_ne h2; rwa [ByteArray.toList_eq ⟨#[97, 110, 100]⟩] at h
  have g3 : (s.toList == [111, 114, 100, 101, 114]) = false := by have h := str_ne h3; rwa [ByteArray.toList_eq ⟨#[111, 114, 100, 101, 114]⟩] at h
  have g4 : (s.toList == [98, 121]) = false := by have h := str_ne h4; rwa [ByteArray.toList_eq ⟨#[98, 121]⟩] at h
  have g5 : (s.toList == [102, 97, 108, 108, 105, 110, 103]) = false := by have h := str_ne h5; rwa [ByteArray.toList_eq ⟨#[102, 97, 108, 108, 105, 110, 103]⟩] at h
  have g6 : (s.toList == [108, 105, 109, 105, 116]) = false := by have h := str_ne h6; rwa [ByteArray.toList_eq ⟨#[108, 105, 109, 105, 116]⟩] at h
  have g7 : (s.toList == [110, 117, 108, 108]) = false := by have h := str_ne h7; rwa [ByteArray.toList_eq ⟨#[110, 117, 108, 108]⟩] at h
  have g8 : (s.toList == [116, 114, 117, 101]) = false := by have h := str_ne h8; rwa [ByteArray.toList_eq ⟨#[116, 114, 117, 101]⟩] at h
  have g9 : (s.toList == [102, 97, 108, 115, 101]) = false := by have h := str_ne h9; rwa [ByteArray.toList_eq ⟨#[102, 97, 108, 115, 101]⟩] at h
  clear HT HN h0 h1 h2 h3 h4 h5 h6 h7 h8 h9
  go_enter Tryz.func75, Tryz.ntmps75
  go_wp2
  go_ret
  exact ⟨by rw [HE.out]; rfl, rfl⟩
set_option maxHeartbeats 2000000 in
set_option maxRecDepth 100000 in
theorem pinw_any (c : UInt8) (w : World) : Calls Tryz.prog 74 #[.int .u8 (c.toNat : Int)] w fun e w' => e = .returned (.bool (inwB c)) ∧ w = w' := by
  have HL := hide (pbeg_any c w)
  have HD := hide (pdigit_any c w)
  obtain ⟨r, hr⟩ : ∃ r, r = inwB c := ⟨_, rfl⟩
  rw [← hr]
  unfold inwB at hr
  have HR := hide hr
  generalize letterB c = a at HL HR
  generalize digitB c = b at HD HR
  clear hr
  go_enter Tryz.func74, Tryz.ntmps74
  go_wp2_with fail
  refine HL.out.mono ?_
  rintro e w' ⟨rfl, rfl⟩
  cases a with
  | true =>
    go_wp2_with fail
    go_ret
    exact ⟨by rw [HR.out]; rfl, rfl⟩
  | false =>
    go_wp2_with fail
    refine HD.out.mono ?_
    rintro e w' ⟨rfl, rfl⟩
    go_wp2
    go_ret
    exact ⟨by rw [HR.out]; rfl, rfl⟩
/-- What a writer answers: the bytes with t behind them. -/
def WrP (w : World) (base : Nat) (t : List UInt8) (e : Ending) (w' : World) : Prop := ∃ a c, e = .returned (.slice a t.length c) ∧ Byt w' base (.slice a t.length c) t ∧ Gr base w w'
theorem nameL_le (s : ByteArray) : (nameL s).length ≤ 2 * s.size + 2 := by
  unfold nameL
  split
  · rw [q_len]; omega
  · have := qescL_len s.data.toList
    rw [q_len] at this
    simp only [List.length_cons, List.length_append, List.length_nil]
    omega
end Go.Proofs.YtkgeabljdkkonaaGreatDoor
