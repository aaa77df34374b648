import Derived.Test.YtmifadjgmjnkgaaDoorPg
namespace Go.Proofs.YtmifadjgmjnkgaaDoor
open Go.RowKit

set_option maxHeartbeats 1000000 in
theorem rmayBe_any (s : Sh) (w : World) (hs : s.body.size ≤ 140737488355328) : Calls Tryd.prog 39 #[.agg s.cells.toArray] w fun e w' => e = .returned (.bool (decide (May s))) ∧ Below w.heap.size w w' := by
  obtain ⟨k, i, t, c, b⟩ := s
  simp only [Sh.cells] at hs ⊢
  have hsz : (b.size : Int) ≤ 140737488355328 := by omega
  have HB : Hid (Below w.heap.size w (w.alloc (.cells #[.int .i64 k, .int .i64 i, .int .u64 (t : Int), .int .i64 c, .string b] 31))) := below_new w _
  by_cases hk : k = 66 ∨ k = 76
  · by_cases hi1 : 2 ≤ i
    · by_cases hi2 : i < 1048576
      · by_cases hc1 : 0 ≤ c
        · by_cases hc2 : c ≤ 65535
          · by_cases hb : b.size = 4072
            · rw [decide_eq_true (show May ⟨k, i, t, c, b⟩ from ⟨hk, ⟨hc1, hc2⟩, ⟨hi1, hi2⟩, hb⟩)]
              have hb2 : ((b.size : Int) == 4072) = true := beq_iff_eq.2 (by omega)
              clear hb
              rcases hk with rfl | rfl
              all_goals
                go_enter Tryd.func39, Tryd.ntmps39
                go_wp2_with fail
                go_ret
                exact ⟨rfl, HB.out⟩
            · rw [decide_eq_false (show ¬ May ⟨k, i, t, c, b⟩ from fun h => hb h.2.2.2)]
              have hb2 : ((b.size : Int) == 4072) = false := beq_eq_false_iff_ne.2 (by omega)
              clear hb
              rcases hk with rfl | rfl
              all_goals
                go_enter Tryd.func39, Tryd.ntmps39
                go_wp2_with fail
                go_ret
                exact ⟨rfl, HB.out⟩
          · rw [decide_eq_false (show ¬ May ⟨k, i, t, c, b⟩ from fun h => hc2 h.2.1.2)]
            rcases hk with rfl | rfl
            all_goals
              go_enter Tryd.func39, Tryd.ntmps39
              go_wp2_with fail
              go_ret
              exact ⟨rfl, HB.out⟩
        · rw [decide_eq_false (show ¬ May ⟨k, i, t, c, b⟩ from fun h => hc1 h.2.1.1)]
          rcases hk with rfl | rfl
          all_goals
            go_enter Tryd.func39, Tryd.ntmps39
            go_wp2_with fail
            go_ret
            exact ⟨rfl, HB.out⟩
      · rw [decide_eq_false (show ¬ May ⟨k, i, t, c, b⟩ from fun h => hi2 h.2.2.1.2)]
        rcases hk with rfl | rfl
        all_goals
          go_enter Tryd.func39, Tryd.ntmps39
          go_wp2_with fail
          go_ret
          exact ⟨rfl, HB.out⟩
    · rw [decide_eq_false (show ¬ May ⟨k, i, t, c, b⟩ from fun h => hi1 h.2.2.1.1)]
      rcases hk with rfl | rfl
      all_goals
        go_enter Tryd.func39, Tryd.ntmps39
        go_wp2_with fail
        go_ret
        exact ⟨rfl, HB.out⟩
  · rw [decide_eq_false (show ¬ May ⟨k, i, t, c, b⟩ from fun h => hk h.1)]
    have hk1 : ¬ k = 66 := fun h => hk (.inl h)
    have hk2 : ¬ k = 76 := fun h => hk (.inr h)
    clear hk
    go_enter Tryd.func39, Tryd.ntmps39
    go_wp2_with fail
    go_ret
    exact ⟨rfl, HB.out⟩

end Go.Proofs.YtmifadjgmjnkgaaDoor
