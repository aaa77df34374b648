import Derived.Test.YtdghlblgmihbpaaDoorFLawK
namespace Go.Proofs.YtdghlblgmihbpaaDoor
open Go.RowKit

/-- The pages of a made map. -/
def madeP (i : Int) : Nat := 4 + pickN i 297
theorem madeP_lo (i : Int) : 4 ≤ madeP i ∧ madeP i ≤ 300 := by
  have := pickN_lt i 297 (by decide)
  unfold madeP
  omega
theorem nil_ne_nil (w : World) : (binOp .neq 37 .nilIface .nilIface).run Tryd.prog w = .ok (.bool false) w := by
  have h2 : ∀ d : Nat, (Op.equalIn (d + 1) 37 .nilIface .nilIface).run Tryd.prog w = .ok true w := fun d => by
    simp [Op.equalIn, run_underlying Tryd.underlying37]
  simp only [binOp]
  simp [Op.equal, Op.maxDepth, h2 9999]
set_option maxHeartbeats 400000 in
theorem made_any (i : Int) (w : World) : Calls Tryd.prog 8 #[.int .i64 i] w fun e w' => ∃ b g, e = .returned (.pointer (some ⟨b, 0, none⟩)) ∧ w.heap.size ≤ b ∧ w.heap.size ≤ g ∧ MapR w' b g (madeP i) (T0 (madeP i)) ∧ Below w.heap.size w w' := by
  have HP := hide (pick_any i 297 w (by decide) (by decide))
  have hlo := madeP_lo i
  have HN := hide (new_any (madeP i) w (by omega) (by omega))
  have hpk : IntKind.i64.wrap (4 + ((pickN i 297 : Nat) : Int)) = (madeP i : Int) := by rw [IntKind.wrap_i64]; have := pickN_lt i 297 (by decide); unfold madeP; omega
  have hp2 : (4 : Int) + ((pickN i 297 : Nat) : Int) = (madeP i : Int) := by unfold madeP; omega
  have hlt := pickN_lt i 297 (by decide)
  generalize madeP i = P at *
  generalize pickN i 297 = k at *
  go_enter Tryd.func8, Tryd.ntmps8
  go_wp2_with fail
  refine HP.out.mono ?_
  rintro e w1 ⟨rfl, rfl⟩
  go_wp2_with fail
  refine HN.out.mono ?_
  rintro e w1 ⟨b, g, rfl, h1, h2, h3, h4⟩
  have H1 := hide h1
  have H2 := hide h2
  have H3 := hide h3
  have H4 := hide h4
  clear h1 h2 h3 h4 HP HN
  go_wp2
  go_ret
  exact ⟨_, _, rfl, H1.out, H2.out, H3.out, H4.out⟩

set_option maxRecDepth 100000 in
set_option maxHeartbeats 1000000 in
theorem alike_any (b g b' g' P : Nat) (T : Nat → Bool) (w : World) (h : MapR w b g P T) (h' : MapR w b' g' P T) (hok : MapOk P T) :
    Calls Tryd.prog 16 #[.pointer (some ⟨b, 0, none⟩), .pointer (some ⟨b', 0, none⟩)] w fun e w' => e = .returned (.bool true) ∧ Below w.heap.size w w' := by
  have S1 := hide (size_any b g P T w h)
  have S2 := hide (size_any b' g' P T w h')
  have F1 := hide (free_any b g P T w h hok)
  have F2 := hide (free_any b' g' P T w h' hok)
  have H := hide h
  have H' := hide h'
  have hPb := h.hi
  have hne : ((P : Int) != (P : Int)) = false := by simp
  have hnf : ((((frl T P).length : Nat) : Int) != (((frl T P).length : Nat) : Int)) = false := by simp
  clear h h' hok
  generalize (frl T P).length = fl at *
  go_enter Tryd.func16, Tryd.ntmps16
  go_wp2_with fail
  refine S1.out.mono ?_
  rintro e w1 ⟨rfl, rfl⟩
  go_wp2_with fail
  refine S2.out.mono ?_
  rintro e w1 ⟨rfl, rfl⟩
  go_wp2_with fail
  refine F1.out.mono ?_
  rintro e w1 ⟨rfl, rfl⟩
  go_wp2_with fail
  refine F2.out.mono ?_
  rintro e w1 ⟨rfl, rfl⟩
  clear S1 S2 F1 F2
  go_wp2_with fail
  go_loopw [5] (fun i wr => ∃ k : Nat, k ≤ P ∧ i = .int .i64 k ∧ Below w.heap.size w wr) (fun i _ => P - (intOf i).toNat)
  case atStart => exact ⟨0, Nat.zero_le _, rfl, Below.refl _ _⟩
  case round =>
    obtain ⟨k, hk, rfl, hb⟩ := hrel
    have S1 := hide (size_any b g P T wr (H.out.below hb))
    have U1 := hide (used_any b g P T k wr (H.out.below hb))
    have HB := hide hb
    clear hb
    by_cases hlt : k < P
    · have hI : (k : Int) < (P : Int) := by omega
      go_wp2_with fail
      refine S1.out.mono ?_
      rintro e w1 ⟨rfl, rfl⟩
      go_wp2_with fail
      refine U1.out.mono ?_
      rintro e w1 ⟨rfl, hb1⟩
      have HB1 : Hid (Below w.heap.size w w1) := HB.out.trans (hb1.mono HB.out.size)
      have U2 := hide (used_any b' g' P T k w1 (H'.out.below HB1.out))
      clear hb1 U1 S1
      go_wp2_with fail
      refine U2.out.mono ?_
      rintro e w2 ⟨rfl, hb2⟩
      have HB2 : Hid (Below w.heap.size w w2) := HB1.out.trans (hb2.mono HB1.out.size)
      have hu : (usedB P T k != usedB P T k) = false := by simp
      clear hb2 U2
      generalize usedB P T k = u at *
      go_wp2
      go_roundw
      case rel => exact ⟨k + 1, by omega, by go_num, HB2.out⟩
      case measure => simp [intOf]; omega
    · have hI : ¬ (k : Int) < (P : Int) := by omega
      go_wp2_with fail
      refine S1.out.mono ?_
      rintro e w1 ⟨rfl, rfl⟩
      clear U1
      go_wp2
      go_ret
      exact ⟨rfl, HB.out⟩

end Go.Proofs.YtdghlblgmihbpaaDoor
