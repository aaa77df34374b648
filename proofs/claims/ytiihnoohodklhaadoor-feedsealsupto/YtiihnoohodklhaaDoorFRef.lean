import Derived.Test.YtiihnoohodklhaaDoorFSum
namespace Go.Proofs.YtiihnoohodklhaaDoor
open Go.RowKit
attribute [local go_sem ↓] Go.wp_at_zero Go.wp_at_succ

theorem may_sz {c : Ch} (h : ¬ (1 ≤ c.1.size ∧ c.1.size ≤ 255 ∧ c.2.old.size ≤ 700 ∧ c.2.new.size ≤ 700)) : mayCh c = false := by
  cases hm : mayCh c with
  | false => rfl
  | true =>
    simp only [mayCh, standB, Bool.and_eq_true, decide_eq_true_eq] at hm
    exact absurd ⟨hm.1.1.1.1, hm.1.1.1.2, hm.1.1.2.1, hm.1.2.1⟩ h
theorem may_in {c : Ch} (h : 1 ≤ c.1.size ∧ c.1.size ≤ 255 ∧ c.2.old.size ≤ 700 ∧ c.2.new.size ≤ 700) : mayCh c = ((c.2.had || decide (c.2.old = nilB)) && (c.2.has || decide (c.2.new = nilB)) && !(c.2.had == c.2.has && decide (c.2.old = c.2.new))) := by
  simp [mayCh, standB, h.1, h.2.1, h.2.2.1, h.2.2.2]
theorem str_cases (s : ByteArray) : (s = nilB ∧ s.toList.isEmpty = true ∧ s.toList = []) ∨ (¬ s = nilB ∧ s.toList.isEmpty = false ∧ ¬ s.toList = []) := by
  by_cases h : s = nilB
  · refine .inl ⟨h, by rw [emp_dec]; simp [h], by rw [h]; simp [nilB]⟩
  · have e : s.toList.isEmpty = false := by rw [emp_dec]; simp [h]
    exact .inr ⟨h, e, fun x => by rw [x] at e; cases e⟩
set_option maxHeartbeats 16000000 in
theorem rmay_any (c : Ch) (w : World) : Calls Tryd.prog 13 #[chA c.1 c.2] w fun e w' => e = .returned (.bool (mayCh c)) ∧ Below w.heap.size w w' := by
  obtain ⟨k, had, has, old, new⟩ := c
  have HM := hide (@may_sz (k, ⟨had, has, old, new⟩))
  have HI := hide (@may_in (k, ⟨had, has, old, new⟩))
  simp only at HM HI
  unfold chA
  have HB := hide (below_new w (.cells #[.string k, .bool had, .bool has, .string old, .string new] 39))
  by_cases h1 : (k.size : Int) < 1
  · rw [HM.out (by omega)]
    clear HM HI
    go_enter Tryd.func13, Tryd.ntmps13
    go_wp2
    go_ret
    exact ⟨rfl, HB.out⟩
  · by_cases h2 : (k.size : Int) > 255
    · rw [HM.out (by omega)]
      clear HM HI
      go_enter Tryd.func13, Tryd.ntmps13
      go_wp2
      go_ret
      exact ⟨rfl, HB.out⟩
    · by_cases h3 : (old.size : Int) > 700
      · rw [HM.out (by omega)]
        clear HM HI
        go_enter Tryd.func13, Tryd.ntmps13
        go_wp2
        go_ret
        exact ⟨rfl, HB.out⟩
      · by_cases h4 : (new.size : Int) > 700
        · rw [HM.out (by omega)]
          clear HM HI
          go_enter Tryd.func13, Tryd.ntmps13
          go_wp2
          go_ret
          exact ⟨rfl, HB.out⟩
        · rw [HI.out (by omega)]
          have HE := hide (list_eq old new)
          have g1 : ¬ (255 : Int) < (k.size : Int) := h2
          have g2 : ¬ (700 : Int) < (old.size : Int) := h3
          have g3 : ¬ (700 : Int) < (new.size : Int) := h4
          clear HM HI h2 h3 h4
          rcases str_cases old with ⟨e1, e2, e3⟩ | ⟨e1, e2, e3⟩ <;> rcases str_cases new with ⟨d1, d2, d3⟩ | ⟨d1, d2, d3⟩ <;>
          (have E1 := hide e1
           have D1 := hide d1
           clear e1 d1
           cases had <;> cases has <;>
           (go_enter Tryd.func13, Tryd.ntmps13
            go_wp2
            go_ret
            refine ⟨?_, HB.out⟩
            have q1 := HE.out
            have q2 := E1.out
            have q3 := D1.out
            clear HB HE E1 D1
            first
              | (simp_all; done)
              | (simp_all; exact fun h => q3 h.symm)
              | (simp_all; exact fun h => q2 h)))
end Go.Proofs.YtiihnoohodklhaaDoor
