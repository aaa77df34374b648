import Derived.Test.YtpeobpmooledaaaDoorSPg
namespace Go.Proofs.YtpeobpmooledaaaDoor.S
open Go.RowKit

set_option maxHeartbeats 400000 in
theorem isID_any (i : Int) (w : World) : Calls Tryd.prog 63 #[.int .i64 i] w fun e w' => e = .returned (.bool (decide (2 ≤ i ∧ i < 1048576))) ∧ w = w' := by
  by_cases h1 : 2 ≤ i
  · by_cases h2 : i < 1048576
    · have e1 : decide (2 ≤ i ∧ i < 1048576) = true := by simp [h1, h2]
      rw [e1]
      go_enter Tryd.func63, Tryd.ntmps63
      go_wp2
      go_ret
      exact ⟨rfl, rfl⟩
    · have e1 : decide (2 ≤ i ∧ i < 1048576) = false := by simp [h2]
      rw [e1]
      go_enter Tryd.func63, Tryd.ntmps63
      go_wp2
      go_ret
      exact ⟨rfl, rfl⟩
  · have e1 : decide (2 ≤ i ∧ i < 1048576) = false := by simp [h1]
    rw [e1]
    go_enter Tryd.func63, Tryd.ntmps63
    go_wp2
    go_ret
    exact ⟨rfl, rfl⟩

set_option maxHeartbeats 1000000 in
theorem mayBe_any (s : Sh) (w : World) (hs : s.body.size ≤ 140737488355328) : Calls Tryd.prog 52 #[.agg s.cells.toArray] w fun e w' => e = .returned (.bool (decide (May s))) ∧ Below w.heap.size w w' := by
  obtain ⟨k, i, t, c, b⟩ := s
  simp only [Sh.cells] at hs ⊢
  have hsz : (b.size : Int) ≤ 140737488355328 := by omega
  have hbel := below_new w (.cells #[.int .i64 k, .int .i64 i, .int .u64 (t : Int), .int .i64 c, .string b] 70)
  have HB : Hid (Below w.heap.size w (w.alloc (.cells #[.int .i64 k, .int .i64 i, .int .u64 (t : Int), .int .i64 c, .string b] 70))) := hbel
  clear hbel
  by_cases hk : k = 66 ∨ k = 76
  · by_cases hc : 0 ≤ c ∧ c ≤ 65535
    · by_cases hi : 2 ≤ i ∧ i < 1048576
      · obtain ⟨hc1, hc2⟩ := hc
        by_cases hb : b.size = 4072
        · have e1 : decide (May ⟨k, i, t, c, b⟩) = true := decide_eq_true ⟨hk, ⟨hc1, hc2⟩, hi, hb⟩
          have hb2 : (b.size : Int) = 4072 := by omega
          have HI := isID_any i
          rw [decide_eq_true hi] at HI
          have HI2 : Hid (∀ w, Calls Tryd.prog 63 #[.int .i64 i] w fun e w' => e = .returned (.bool true) ∧ w = w') := HI
          rw [e1]
          clear e1 hi HI hb
          rcases hk with rfl | rfl
          all_goals
            go_enter Tryd.func52, Tryd.ntmps52
            go_wp2_with (go_at_call 63; refine (HI2.out _).mono ?_; rintro e w' ⟨rfl, rfl⟩)
            go_ret
            exact ⟨rfl, HB.out⟩
        · have e1 : decide (May ⟨k, i, t, c, b⟩) = false := decide_eq_false fun h => hb h.2.2.2
          have hb2 : ((b.size : Int) == 4072) = false := beq_eq_false_iff_ne.2 (by omega)
          have HI := isID_any i
          rw [decide_eq_true hi] at HI
          have HI2 : Hid (∀ w, Calls Tryd.prog 63 #[.int .i64 i] w fun e w' => e = .returned (.bool true) ∧ w = w') := HI
          rw [e1]
          clear e1 hi HI hb
          rcases hk with rfl | rfl
          all_goals
            go_enter Tryd.func52, Tryd.ntmps52
            go_wp2_with (go_at_call 63; refine (HI2.out _).mono ?_; rintro e w' ⟨rfl, rfl⟩)
            go_ret
            exact ⟨rfl, HB.out⟩
      · obtain ⟨hc1, hc2⟩ := hc
        have e1 : decide (May ⟨k, i, t, c, b⟩) = false := decide_eq_false fun h => hi h.2.2.1
        have HI := isID_any i
        rw [decide_eq_false hi] at HI
        have HI2 : Hid (∀ w, Calls Tryd.prog 63 #[.int .i64 i] w fun e w' => e = .returned (.bool false) ∧ w = w') := HI
        rw [e1]
        clear e1 hi HI
        rcases hk with rfl | rfl
        all_goals
          go_enter Tryd.func52, Tryd.ntmps52
          go_wp2_with (go_at_call 63; refine (HI2.out _).mono ?_; rintro e w' ⟨rfl, rfl⟩)
          go_ret
          exact ⟨rfl, HB.out⟩
    · have e1 : decide (May ⟨k, i, t, c, b⟩) = false := decide_eq_false fun h => hc h.2.1
      rw [e1]
      clear e1
      by_cases hc1 : 0 ≤ c
      · have hc2 : ¬ c ≤ 65535 := fun h => hc ⟨hc1, h⟩
        clear hc
        rcases hk with rfl | rfl
        all_goals
          go_enter Tryd.func52, Tryd.ntmps52
          go_wp2_with fail
          go_ret
          exact ⟨rfl, HB.out⟩
      · clear hc
        rcases hk with rfl | rfl
        all_goals
          go_enter Tryd.func52, Tryd.ntmps52
          go_wp2_with fail
          go_ret
          exact ⟨rfl, HB.out⟩
  · have e1 : decide (May ⟨k, i, t, c, b⟩) = false := decide_eq_false fun h => hk h.1
    rw [e1]
    clear e1
    have hk1 : ¬ k = 66 := fun h => hk (.inl h)
    have hk2 : ¬ k = 76 := fun h => hk (.inr h)
    clear hk
    by_cases hc1 : 0 ≤ c
    · by_cases hc2 : c ≤ 65535
      · go_enter Tryd.func52, Tryd.ntmps52
        go_wp2_with fail
        go_ret
        exact ⟨rfl, HB.out⟩
      · go_enter Tryd.func52, Tryd.ntmps52
        go_wp2_with fail
        go_ret
        exact ⟨rfl, HB.out⟩
    · go_enter Tryd.func52, Tryd.ntmps52
      go_wp2_with fail
      go_ret
      exact ⟨rfl, HB.out⟩

end Go.Proofs.YtpeobpmooledaaaDoor.S
