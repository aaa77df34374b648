import Derived.Test.YtddhjnfcbpookaaDoorQKit
import Derived.Test.YtddhjnfcbpookaaDoorRPack
namespace Go.Proofs.YtddhjnfcbpookaaDoor
open Go.RowKit

/-! The document's own side: names, fields, the fault of a query. -/
theorem q_snoc (s : ByteArray) (k : Nat) (h : k < s.size) : s.data.toList.take (k + 1) = s.data.toList.take k ++ [s[k]] := by
  rw [List.take_succ_eq_append_getElem (by simpa using h)]; rfl
theorem q_len (s : ByteArray) : s.data.toList.length = s.size := by simp
def nameB (c : UInt8) : Bool := decide (33 ≤ c.toNat ∧ c.toNat ≤ 126)
def isNameD (s : ByteArray) : Bool := s.data.toList.all nameB && decide (1 ≤ s.size ∧ s.size ≤ 32)
theorem all_stop {p : UInt8 → Bool} (s : ByteArray) (k : Nat) (h : k < s.size) (hp : p s[k] = false) : s.data.toList.all p = false := by
  rw [List.all_eq_false]
  exact ⟨s[k], by have := List.getElem_mem (l := s.data.toList) (n := k) (by simpa using h); exact this, by simp [hp]⟩
set_option maxHeartbeats 2000000 in
set_option maxRecDepth 100000 in
theorem isname_any (s : ByteArray) (w : World) (hs : s.size ≤ 140737488355328) :
    Calls Tryd.prog 40 #[.string s] w fun e w' => e = .returned (.bool (isNameD s)) ∧ w = w' := by
  obtain ⟨r, hr⟩ : ∃ r, r = isNameD s := ⟨_, rfl⟩
  rw [← hr]
  have HR := hide hr
  clear hr
  go_enter Tryd.func40, Tryd.ntmps40
  go_wp2
  go_loop [3] (fun v => ∃ k : Nat, v = .int .i64 (k : Int) ∧ k ≤ s.size ∧ Hid ((s.data.toList.take k).all nameB = true)) (fun v => s.size - (intOf v).toNat)
  case atStart => exact ⟨0, rfl, Nat.zero_le _, rfl⟩
  case round =>
    obtain ⟨k, rfl, hk, hall⟩ := hrel
    by_cases hlt : k < s.size
    · have hltI : (k : Int) < (s.size : Int) := by omega
      have e0 : (0 : Int) ≤ (k : Int) := by omega
      by_cases h1 : s[k].toNat < 33
      · have h1I : (s[k].toNat : Int) < 33 := by omega
        have HF : Hid (r = false) := by
          show _ = _
          rw [HR.out, isNameD, all_stop s k hlt (by simp [nameB]; omega)]; rfl
        go_wp2
        go_ret
        exact ⟨by rw [HF.out]; rfl, rfl⟩
      · have h1I : ¬ (s[k].toNat : Int) < 33 := by omega
        by_cases h2 : 126 < s[k].toNat
        · have h2I : (126 : Int) < (s[k].toNat : Int) := by omega
          have HF : Hid (r = false) := by
            show _ = _
            rw [HR.out, isNameD, all_stop s k hlt (by simp [nameB]; omega)]; rfl
          go_wp2
          go_ret
          exact ⟨by rw [HF.out]; rfl, rfl⟩
        · have h2I : ¬ (126 : Int) < (s[k].toNat : Int) := by omega
          have HA : Hid ((s.data.toList.take (k + 1)).all nameB = true) := by
            show _ = _
            rw [q_snoc s k hlt, List.all_append, hall.out]
            simp [nameB]; omega
          go_wp2
          go_round
          case rel => exact ⟨k + 1, by go_num, by omega, HA⟩
          case measure => simp [intOf]; omega
    · have he : k = s.size := by omega
      have hltI : ¬ (k : Int) < (s.size : Int) := by omega
      have HA : Hid (r = decide (1 ≤ s.size ∧ s.size ≤ 32)) := by
        show _ = _
        have h9 := hall.out
        rw [he, ← q_len, List.take_length] at h9
        rw [HR.out, isNameD, h9]; rfl
      by_cases h1 : 1 ≤ s.size
      · have h1I : (1 : Int) ≤ (s.size : Int) := by omega
        by_cases h2 : s.size ≤ 32
        · have h2I : (s.size : Int) ≤ 32 := by omega
          go_wp2
          go_ret
          exact ⟨by rw [HA.out]; simp [h1, h2], rfl⟩
        · have h2I : ¬ (s.size : Int) ≤ 32 := by omega
          go_wp2
          go_ret
          exact ⟨by rw [HA.out]; simp [h2], rfl⟩
      · have h1I : ¬ (1 : Int) ≤ (s.size : Int) := by omega
        go_wp2
        go_ret
        exact ⟨by rw [HA.out]; simp [h1], rfl⟩
end Go.Proofs.YtddhjnfcbpookaaDoor
