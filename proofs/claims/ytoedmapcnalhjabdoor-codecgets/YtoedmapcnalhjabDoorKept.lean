import Derived.Test.YtoedmapcnalhjabDoorSpare
namespace Go.Proofs.YtoedmapcnalhjabDoor
open Go.RowKit

theorem all_get (s : ByteArray) (k : Nat) (h : k < s.size) (h2 : k < (s.data.toList ++ marks 64).length) : (s.data.toList ++ marks 64)[k] = s[k] := by
  rw [List.getElem_append_left (by simpa using h)]; rfl
theorem all_get2 (s : ByteArray) (k : Nat) (h : s.size ≤ k) (h2 : k < (s.data.toList ++ marks 64).length) : (s.data.toList ++ marks 64)[k] = mark (k - s.size) := by
  rw [List.getElem_append_right (by simpa using h)]
  simp [marks]
theorem all_len (s : ByteArray) : (s.data.toList ++ marks 64).length = s.size + 64 := by simp [marks]

set_option maxHeartbeats 400000 in
theorem kept_any (s : ByteArray) (g cap : Nat) (w : World) (hs : s.size ≤ 140737488351232)
    (hc : ∀ j (h : j < (s.data.toList ++ marks 64).length), w.cell? ⟨g, j, none⟩ = some (.int .u8 ((s.data.toList ++ marks 64)[j].toNat : Int))) :
    Calls Tryd.prog 9 #[.slice (some ⟨g, 0, none⟩) (s.size + 64) cap, .string s] w fun e w' => e = .returned (.bool true) ∧ Below w.heap.size w w' := by
  go_enter Tryd.func9, Tryd.ntmps9
  go_wp2
  go_loopw [5] (fun i wr => ∃ k nq : Nat, k ≤ s.size + 64 ∧ i = .int .i64 k ∧ wr = w.drewN nq) (fun i _ => s.size + 64 - (intOf i).toNat)
  case atStart => exact ⟨0, 0, Nat.zero_le _, rfl, rfl⟩
  case round =>
    obtain ⟨k, nq, hk, rfl, rfl⟩ := hrel
    by_cases hlt : k < s.size + 64
    · by_cases hin : k < s.size
      · have h1 := hc k (by rw [all_len]; exact hlt)
        rw [all_get s k hin] at h1
        clear hc
        have hd : decide (s.size ≤ k) = false := decide_eq_false (by omega)
        go_wp2
        go_quiet (fail)
        go_wp2
        go_roundw
        case rel => exact ⟨k + 1, _, by omega, by go_num, rfl⟩
        case measure => simp [intOf]; omega
      · have h1 := hc k (by rw [all_len]; exact hlt)
        rw [all_get2 s k (by omega), mark_toNat] at h1
        clear hc
        have hd : decide (k < s.size) = false := decide_eq_false (by omega)
        have hd2 : s.size ≤ k := by omega
        go_wp2
        go_quiet (fail)
        go_wp2
        go_roundw
        case rel => exact ⟨k + 1, _, by omega, by go_num, rfl⟩
        case measure => simp [intOf]; omega
    · clear hc
      go_wp2
      go_ret
      exact ⟨rfl, below_drewN (Below.refl _ _) _⟩

end Go.Proofs.YtoedmapcnalhjabDoor
