import Derived.Test.YtageokjobbjddaaGreatDoorGRD
namespace Go.Proofs.YtageokjobbjddaaGreatDoor
open Go.RowKit

/-! The program's own side: names, signs, the fault of an item. -/
/-- How many bytes at the beginning are such. -/
def leadN (p : UInt8 → Bool) (s : ByteArray) : Nat := (s.data.toList.takeWhile p).length
theorem leadN_stop (p : UInt8 → Bool) (s : ByteArray) (k : Nat) (hk : k ≤ s.size) (h0 : (s.data.toList.take k).all p = true) (h : ∀ h : k < s.size, p s[k] = false) : leadN p s = k := by
  unfold leadN
  have h2 : s.data.toList.takeWhile p = s.data.toList.take k := by
    conv => lhs; rw [← List.take_append_drop k s.data.toList]
    rw [List.takeWhile_append_of_pos (fun a ha => List.all_eq_true.1 h0 a ha)]
    by_cases hl : k < s.size
    · have hl2 : k < s.data.toList.length := by rw [q_len]; exact hl
      have h9 : p (s.data.toList[k]'hl2) = false := h hl
      rw [List.drop_eq_getElem_cons hl2, List.takeWhile_cons, h9]
      simp
    · rw [List.drop_eq_nil_of_le (by rw [q_len]; omega)]
      simp
  rw [h2, List.length_take, q_len]
  omega
theorem leadN_le (p : UInt8 → Bool) (s : ByteArray) : leadN p s ≤ s.size := by
  unfold leadN
  have := (List.takeWhile_prefix (l := s.data.toList) p).length_le
  rw [q_len] at this
  exact this
theorem leadN_all (p : UInt8 → Bool) (s : ByteArray) : decide (leadN p s = s.size) = s.data.toList.all p := by
  by_cases h : s.data.toList.all p = true
  · rw [h]
    have h2 : s.data.toList.takeWhile p = s.data.toList := by
      have := List.takeWhile_append_of_pos (p := p) (l₁ := s.data.toList) (l₂ := []) (fun a ha => List.all_eq_true.1 h a ha)
      simpa using this
    simp [leadN, h2]
  · have h3 : s.data.toList.all p = false := by simpa using h
    rw [h3, decide_eq_false]
    intro e
    apply h
    have h4 := List.takeWhile_prefix (l := s.data.toList) p
    have h5 : s.data.toList.takeWhile p = s.data.toList := h4.eq_of_length (by rw [q_len]; exact e)
    rw [← h5]
    exact List.all_takeWhile
set_option maxHeartbeats 2000000 in
set_option maxRecDepth 100000 in
theorem lenof_any (fn : Nat) (p : UInt8 → Bool) (hcf : ∀ args w, Sem.run Tryz.prog (callFunc fn args) w = .ok (.enter fn args) w)
    (hp : ∀ (c : UInt8) (W : World), Calls Tryz.prog fn #[.int .u8 (c.toNat : Int)] W fun e w' => e = .returned (.bool (p c)) ∧ W = w')
    (s : ByteArray) (w : World) (hs : s.size ≤ 140737488355328) :
    Calls Tryz.prog 37 #[.string s, .func (.func fn) #[] #[]] w fun e w' => e = .returned (.int .i64 (leadN p s : Nat)) ∧ w = w' := by
  obtain ⟨r, hr⟩ : ∃ r, r = leadN p s := ⟨_, rfl⟩
  rw [← hr]
  have HR := hide hr
  have HP := hide hp
  clear hr hp
  go_enter Tryz.func37, Tryz.ntmps37
  go_wp2
  go_loop [5] (fun v => ∃ k : Nat, v = .int .i64 (k : Int) ∧ k ≤ s.size ∧ Hid ((s.data.toList.take k).all p = true)) (fun v => s.size - (intOf v).toNat)
  case atStart => exact ⟨0, rfl, Nat.zero_le _, rfl⟩
  case round =>
    obtain ⟨k, rfl, hk, hall⟩ := hrel
    by_cases hlt : k < s.size
    · have hltI : (k : Int) < (s.size : Int) := by omega
      have e0 : (0 : Int) ≤ (k : Int) := by omega
      have HC := hide (HP.out s[k] w)
      have HST : Hid (p s[k] = false → r = k) := fun h => by
        rw [HR.out]; exact leadN_stop p s k hk hall.out (fun _ => h)
      have HA : Hid (p s[k] = true → (s.data.toList.take (k + 1)).all p = true) := fun h => by
        rw [q_snoc s k hlt, List.all_append, hall.out]
        simp [h]
      have HJ : Hid (k + 1 ≤ s.size) := by show _ ≤ _; omega
      generalize hpc : p s[k] = pc at HC HST HA
      clear hpc hall
      go_wp2_with fail
      refine HC.out.mono ?_
      rintro e w' ⟨rfl, rfl⟩
      cases pc with
      | true =>
        have HA2 := hide (HA.out rfl)
        clear HA HST HC
        go_wp2
        go_round
        case rel => exact ⟨k + 1, by go_num, HJ.out, HA2.out⟩
        case measure => simp [intOf]; omega
      | false =>
        have HE := hide (HST.out rfl)
        clear HA HST HC
        go_wp2
        go_ret
        exact ⟨by rw [HE.out]; rfl, rfl⟩
    · have hltI : ¬ (k : Int) < (s.size : Int) := by omega
      have HE : Hid (r = k) := by
        show _ = _
        rw [HR.out]; exact leadN_stop p s k hk hall.out (fun h => absurd h hlt)
      clear hall
      go_wp2
      go_ret
      exact ⟨by rw [HE.out]; rfl, rfl⟩
set_option maxHeartbeats 2000000 in
set_option maxRecDepth 100000 in
theorem isn1_any (c : UInt8) (w : World) : Calls Tryz.prog 38 #[.int .u8 (c.toNat : Int)] w fun e w' => e = .returned (.bool (nameB c)) ∧ w = w' := by
  have hc := c.toNat_lt
  by_cases h1 : 32 < c.toNat
  · have h1I : (32 : Int) < (c.toNat : Int) := by omega
    by_cases h2 : c.toNat ≤ 126
    · have h2I : (c.toNat : Int) ≤ 126 := by omega
      have HE : Hid (nameB c = true) := by show _ = _; simp [nameB]; omega
      go_enter Tryz.func38, Tryz.ntmps38
      go_wp2
      go_ret
      exact ⟨by rw [HE.out]; rfl, rfl⟩
    · have h2I : ¬ (c.toNat : Int) ≤ 126 := by omega
      have HE : Hid (nameB c = false) := by show _ = _; simp [nameB]; omega
      go_enter Tryz.func38, Tryz.ntmps38
      go_wp2
      go_ret
      exact ⟨by rw [HE.out]; rfl, rfl⟩
  · have h1I : ¬ (32 : Int) < (c.toNat : Int) := by omega
    have HE : Hid (nameB c = false) := by show _ = _; simp [nameB]; omega
    go_enter Tryz.func38, Tryz.ntmps38
    go_wp2
    go_ret
    exact ⟨by rw [HE.out]; rfl, rfl⟩
theorem nil_size {s : ByteArray} (h : s.size = 0) : s = ⟨#[]⟩ := by
  obtain ⟨d⟩ := s
  have : d.size = 0 := h
  rw [Array.size_eq_zero_iff.1 this]
theorem ne_nil {s : ByteArray} (h : ¬ s = ⟨#[]⟩) : (s.toList == (⟨#[]⟩ : ByteArray).toList) = false ∧ s.toList.isEmpty = false := by
  have h1 := str_ne h
  refine ⟨h1, ?_⟩
  cases hz : s.toList with
  | nil => rw [hz] at h1; simp at h1
  | cons _ _ => rfl
set_option maxHeartbeats 2000000 in
set_option maxRecDepth 100000 in
theorem pisname_any (s : ByteArray) (w : World) (hs : s.size ≤ 140737488355328) :
    Calls Tryz.prog 22 #[.string s] w fun e w' => e = .returned (.bool (isNameD s)) ∧ w = w' := by
  by_cases h0 : s = ⟨#[]⟩
  · subst h0
    have HE : Hid (isNameD ⟨#[]⟩ = false) := by show _ = _; decide
    have hq : ((⟨#[]⟩ : ByteArray).toList == (⟨#[]⟩ : ByteArray).toList) = true := str_eq _
    go_enter Tryz.func22, Tryz.ntmps22
    go_wp2_with fail
    go_ret
    exact ⟨by rw [HE.out]; rfl, rfl⟩
  · obtain ⟨hq, hq2⟩ := ne_nil h0
    have h01 : 1 ≤ s.size := by
      rcases Nat.eq_zero_or_pos s.size with h | h
      · exact absurd (nil_size h) h0
      · exact h
    by_cases h2 : 32 < s.size
    · have h2I : (32 : Int) < (s.size : Int) := by omega
      have HE : Hid (isNameD s = false) := by
        show _ = _
        have : ¬ s.size ≤ 32 := by omega
        simp [isNameD, this]
      clear h0
      go_enter Tryz.func22, Tryz.ntmps22
      go_wp2_with fail
      go_ret
      exact ⟨by rw [HE.out]; rfl, rfl⟩
    · have h2I : ¬ (32 : Int) < (s.size : Int) := by omega
      have HE : Hid (isNameD s = decide ((leadN nameB s : Int) = (s.size : Int))) := by
        show _ = _
        have e1 : decide ((leadN nameB s : Int) = (s.size : Int)) = decide (leadN nameB s = s.size) := by
          rw [Bool.eq_iff_iff]; simp only [decide_eq_true_eq]; omega
        rw [e1, leadN_all]
        have : s.size ≤ 32 := by omega
        simp [isNameD, this, h01]
      have HL := hide (lenof_any 38 nameB Tryz.call38 (fun c W => isn1_any c W) s w hs)
      have HLE := hide (leadN_le nameB s)
      generalize leadN nameB s = m at HE HL HLE
      clear h0
      go_enter Tryz.func22, Tryz.ntmps22
      go_wp2_with fail
      refine HL.out.mono ?_
      rintro e w' ⟨rfl, rfl⟩
      clear HL
      by_cases hm : m = s.size
      · have hmI : ((m : Int) == (s.size : Int)) = true := by simp; omega
        have HF : Hid (isNameD s = true) := by show _ = _; rw [HE.out]; simp; omega
        clear HE hm
        go_wp2
        go_ret
        exact ⟨by rw [HF.out]; rfl, rfl⟩
      · have hmI : ((m : Int) == (s.size : Int)) = false := by simp; omega
        have HF : Hid (isNameD s = false) := by show _ = _; rw [HE.out]; simp; omega
        clear HE hm
        go_wp2
        go_ret
        exact ⟨by rw [HF.out]; rfl, rfl⟩
def signOk (n : Int) : Bool := decide (1 ≤ n ∧ n ≤ 5)
set_option maxRecDepth 100000 in
theorem pissign_any (n : Int) (w : World) : Calls Tryz.prog 23 #[.int .i64 n] w fun e w' => e = .returned (.bool (signOk n)) ∧ w = w' := by
  by_cases h1 : 1 ≤ n
  · by_cases h2 : n ≤ 5
    · have HE : Hid (signOk n = true) := by show _ = _; simp [signOk]; omega
      go_enter Tryz.func23, Tryz.ntmps23
      go_wp2
      go_ret
      exact ⟨by rw [HE.out]; rfl, rfl⟩
    · have HE : Hid (signOk n = false) := by show _ = _; simp [signOk]; omega
      go_enter Tryz.func23, Tryz.ntmps23
      go_wp2
      go_ret
      exact ⟨by rw [HE.out]; rfl, rfl⟩
  · have HE : Hid (signOk n = false) := by show _ = _; simp [signOk]; omega
    go_enter Tryz.func23, Tryz.ntmps23
    go_wp2
    go_ret
    exact ⟨by rw [HE.out]; rfl, rfl⟩
end Go.Proofs.YtageokjobbjddaaGreatDoor
