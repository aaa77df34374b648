import Derived.Test.YtagldlchamlpdabDoorCutMath
import Derived.Test.YtagldlchamlpdabDoorHide
import Derived.Test.YtagldlchamlpdabDoorBas2
import Derived.Test.YtagldlchamlpdabDoorErrs
namespace Go.Proofs.YtagldlchamlpdabDoor
open Go.RowKit

/-- The slice value v reads as the numbers l. -/
def IntR (w : World) (v : Value) (l : List Int) : Prop := ∃ a cap, v = .slice a l.length cap ∧ l.length ≤ cap ∧ ∀ j (h : j < l.length), ∃ g o, a = some ⟨g, o, none⟩ ∧ w.cell? ⟨g, o + j, none⟩ = some (.int .i64 l[j])
theorem IntR.below {w w' : World} {v : Value} {l : List Int} (h : IntR w v l) (hb : Below w.heap.size w w') : IntR w' v l := by
  obtain ⟨a, cap, rfl, hle, hc⟩ := h
  refine ⟨a, cap, rfl, hle, fun j hj => ?_⟩
  obtain ⟨g, o, ha, hcell⟩ := hc j hj
  exact ⟨g, o, ha, (hb.cell (p := ⟨g, o + j, none⟩) (World.block_lt_of_cell? w _ hcell)).trans hcell⟩

set_option maxHeartbeats 400000 in
theorem dist_any (a b : Int) (w : World) (ha : 0 ≤ a ∧ a ≤ 1152921504606846976) (hb : 0 ≤ b ∧ b ≤ 1152921504606846976) : Calls Tryd.prog 72 #[.int .i64 a, .int .i64 b] w fun e w' => e = .returned (.int .i64 ((a - b).natAbs : Int)) ∧ w = w' := by
  obtain ⟨a0, a1⟩ := ha
  obtain ⟨b0, b1⟩ := hb
  go_enter Tryd.func72, Tryd.ntmps72
  go_wp2
  all_goals
    go_ret
    exact ⟨ret_int (by omega), rfl⟩

set_option maxHeartbeats 400000 in
theorem isSize_any (n : Int) (w : World) : Calls Tryd.prog 109 #[.int .i64 n] w fun e w' => e = .returned (.bool (decide (1 ≤ n ∧ n ≤ 4072))) ∧ w = w' := by
  by_cases h1 : 1 ≤ n
  · by_cases h2 : n ≤ 4072
    · have e1 : decide (1 ≤ n ∧ n ≤ 4072) = true := decide_eq_true ⟨h1, h2⟩
      rw [e1]
      go_enter Tryd.func109, Tryd.ntmps109
      go_wp2
      go_ret
      exact ⟨rfl, rfl⟩
    · have e1 : decide (1 ≤ n ∧ n ≤ 4072) = false := decide_eq_false (fun h => h2 h.2)
      rw [e1]
      go_enter Tryd.func109, Tryd.ntmps109
      go_wp2
      go_ret
      exact ⟨rfl, rfl⟩
  · have e1 : decide (1 ≤ n ∧ n ≤ 4072) = false := decide_eq_false (fun h => h1 h.1)
    rw [e1]
    go_enter Tryd.func109, Tryd.ntmps109
    go_wp2
    go_ret
    exact ⟨rfl, rfl⟩

theorem wrap_sm (x : Int) (h0 : 0 ≤ x) (h1 : x ≤ 2305843009213693952) : IntKind.i64.wrap x = x := by
  rw [IntKind.wrap_i64]; omega

set_option maxHeartbeats 1000000 in
theorem sum_any (a : Option Addr) (cap n : Nat) (l : List Int) (w : World) (hm : n ≤ 17592186044416) (e1 : l.length = n)
    (h1 : ∀ j (h : j < l.length), ∃ g o, a = some ⟨g, o, none⟩ ∧ w.cell? ⟨g, o + j, none⟩ = some (.int .i64 l[j])) :
    Calls Tryd.prog 89 #[.slice a n cap] w fun e w' => ((FineL l ∧ e = .returned (.tuple #[.int .i64 (pre l n), .bool true])) ∨ (¬ FineL l ∧ e = .returned (.tuple #[.int .i64 0, .bool false]))) ∧ w = w' := by
  have HE : Hid (l.length = n) := e1
  have H1 := hide h1
  clear e1 h1
  have HP := hide (pre_zero l)
  go_enter Tryd.func89, Tryd.ntmps89
  go_wp2
  go_loop [4, 9] (fun r i => ∃ k : Nat, k ≤ n ∧ i = .int .i64 k ∧ (∀ j (h : j < l.length), j < k → 1 ≤ l[j] ∧ l[j] ≤ 4072) ∧ (0 ≤ pre l k ∧ pre l k ≤ 4072 * (k : Int)) ∧ r = .int .i64 (pre l k)) (fun _ i => n - (intOf i).toNat)
  case atStart => exact ⟨0, Nat.zero_le _, rfl, fun j h h' => by omega, by rw [HP.out]; omega, by rw [HP.out]⟩
  case round =>
    obtain ⟨k, hk, rfl, hf, hpb, rfl⟩ := hrel
    have HF := hide hf
    clear hf
    by_cases hlt : k < n
    · have hk1 : k < l.length := by have := HE.out; omega
      obtain ⟨g, o, rfl, f1⟩ := H1.out k hk1
      have HS := hide (pre_succ l k hk1)
      obtain ⟨x, hx⟩ : ∃ x, x = l[k] := ⟨_, rfl⟩
      rw [← hx] at f1
      have HX := hide hx
      clear hx H1 HP
      obtain ⟨p, hp⟩ : ∃ p, p = pre l k := ⟨_, rfl⟩
      rw [← hp] at hpb ⊢
      have HPP := hide hp
      have HB := hide hpb
      clear hp hpb
      by_cases hxx : 1 ≤ x ∧ x ≤ 4072
      · have HI : Hid (∀ w, Calls Tryd.prog 109 #[.int .i64 x] w fun e w' => e = .returned (.bool true) ∧ w = w') := fun w => by
          have h := isSize_any x w
          rw [decide_eq_true hxx] at h
          exact h
        have hw : IntKind.i64.wrap (p + x) = p + x := wrap_sm _ (by have := HB.out; omega) (by have := HB.out; omega)
        have HXX := hide hxx
        clear hxx
        go_wp2_with (go_at_call 109; refine (HI.out _).mono ?_; rintro e w' ⟨rfl, rfl⟩)
        go_round
        case rel =>
          refine ⟨k + 1, by omega, by go_num, fun j hj hjk => ?_, ?_, ?_⟩
          · by_cases hjj : j = k
            · subst hjj; rw [← HX.out]; exact HXX.out
            · exact HF.out j hj (by omega)
          · have := HS.out; have := HPP.out; have := HX.out; have := HB.out; have := HXX.out; omega
          · rw [HS.out, ← HPP.out, ← HX.out]
        case measure => simp [intOf]; omega
      · have HI : Hid (∀ w, Calls Tryd.prog 109 #[.int .i64 x] w fun e w' => e = .returned (.bool false) ∧ w = w') := fun w => by
          have h := isSize_any x w
          rw [decide_eq_false hxx] at h
          exact h
        have HNF : Hid (¬ FineL l) := fun hf => hxx (by have := hf k hk1; rw [← HX.out] at this; exact this)
        clear hxx
        go_wp2_with (go_at_call 109; refine (HI.out _).mono ?_; rintro e w' ⟨rfl, rfl⟩)
        go_ret2
        exact ⟨.inr ⟨HNF.out, rfl⟩, rfl⟩
    · have hkn : k = n := by omega
      clear H1
      have HFF : Hid (FineL l) := fun j hj => HF.out j hj (by have := HE.out; omega)
      subst hkn
      obtain ⟨p, hp⟩ : ∃ p, p = pre l k := ⟨_, rfl⟩
      rw [← hp] at hpb ⊢
      have HPP := hide hp
      clear hpb HP hp
      go_wp2
      go_ret2
      exact ⟨.inl ⟨HFF.out, by rw [← HPP.out]; rfl⟩, rfl⟩


/-! The two ways to say how far the sums are apart, by a place, the sum ahead and the rest. -/
set_option maxHeartbeats 400000 in
set_option maxHeartbeats 400000 in
theorem pivotf_any (B g o n cap p : Nat) (a b x : Int) (w : World) (hB : w.cell? ⟨B, 0, none⟩ = some (.slice (some ⟨g, o, none⟩) n cap)) (hp : p < n) (hx : w.cell? ⟨g, o + p, none⟩ = some (.int .i64 x)) (ha : 0 ≤ a ∧ a ≤ 1152921504606846976) (hb : 0 ≤ b - x ∧ b - x ≤ 1152921504606846976) :
    Calls Tryd.prog 71 #[.int .i64 (p : Int), .int .i64 a, .int .i64 b, .pointer (some ⟨B, 0, none⟩)] w fun e w' => e = .returned (.int .i64 ((a - (b - x)).natAbs : Int)) ∧ w = w' := by
  have HD := hide (dist_any a (b - x) w ha hb)
  have hw : IntKind.i64.wrap (b - x) = b - x := wrap_sm _ (by omega) (by omega)
  have hpi : (p : Int) < (n : Int) := by omega
  clear ha hb
  go_enter Tryd.func71, Tryd.ntmps71
  go_wp2_with (go_at_call 72; refine HD.out.mono ?_; rintro e w' ⟨rfl, rfl⟩)
  go_ret
  exact ⟨rfl, rfl⟩

end Go.Proofs.YtagldlchamlpdabDoor
