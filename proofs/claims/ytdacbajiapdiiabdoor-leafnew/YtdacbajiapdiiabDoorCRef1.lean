import Derived.Test.YtdacbajiapdiiabDoorCut2
namespace Go.Proofs.YtdacbajiapdiiabDoor
open Go.RowKit

set_option maxHeartbeats 400000 in
theorem xapart_any (a b : Int) (w : World) (ha : 0 ≤ a ∧ a ≤ 1152921504606846976) (hb : 0 ≤ b ∧ b ≤ 1152921504606846976) : Calls Tryd.prog 81 #[.int .i64 a, .int .i64 b] w fun e w' => e = .returned (.int .i64 ((a - b).natAbs : Int)) ∧ w = w' := by
  obtain ⟨a0, a1⟩ := ha
  obtain ⟨b0, b1⟩ := hb
  go_enter Tryd.func81, Tryd.ntmps81
  go_wp2
  all_goals
    go_ret
    exact ⟨ret_int (by omega), rfl⟩

set_option maxHeartbeats 1000000 in
theorem xfine_any (a : Option Addr) (cap n : Nat) (l : List Int) (w : World) (hm : n ≤ 17592186044416) (e1 : l.length = n)
    (h1 : ∀ j (h : j < l.length), ∃ g o, a = some ⟨g, o, none⟩ ∧ w.cell? ⟨g, o + j, none⟩ = some (.int .i64 l[j])) :
    Calls Tryd.prog 68 #[.slice a n cap] w fun e w' => ((FineL l ∧ e = .returned (.bool true)) ∨ (¬ FineL l ∧ e = .returned (.bool false))) ∧ w = w' := by
  have HE : Hid (l.length = n) := e1
  have H1 := hide h1
  clear e1 h1
  go_enter Tryd.func68, Tryd.ntmps68
  go_wp2
  go_loop [3] (fun i => ∃ k : Nat, k ≤ n ∧ i = .int .i64 k ∧ (∀ j (h : j < l.length), j < k → 1 ≤ l[j] ∧ l[j] ≤ 4072)) (fun i => n - (intOf i).toNat)
  case atStart => exact ⟨0, Nat.zero_le _, rfl, fun j h h' => by omega⟩
  case round =>
    obtain ⟨k, hk, rfl, hf⟩ := hrel
    have HF := hide hf
    clear hf
    by_cases hlt : k < n
    · have hk1 : k < l.length := by have := HE.out; omega
      obtain ⟨g, o, rfl, f1⟩ := H1.out k hk1
      obtain ⟨x, hx⟩ : ∃ x, x = l[k] := ⟨_, rfl⟩
      rw [← hx] at f1
      have HX := hide hx
      clear hx H1
      by_cases hx1 : x < 1
      · have HNF : Hid (¬ FineL l) := fun hf => by have := hf k hk1; rw [← HX.out] at this; omega
        go_wp2
        go_ret
        exact ⟨.inr ⟨HNF.out, rfl⟩, rfl⟩
      · by_cases hx2 : 4072 < x
        · have HNF : Hid (¬ FineL l) := fun hf => by have := hf k hk1; rw [← HX.out] at this; omega
          go_wp2
          go_ret
          exact ⟨.inr ⟨HNF.out, rfl⟩, rfl⟩
        · go_wp2
          go_round
          case rel =>
            refine ⟨k + 1, by omega, by go_num, fun j hj hjk => ?_⟩
            by_cases hjj : j = k
            · subst hjj; rw [← HX.out]; omega
            · exact HF.out j hj (by omega)
          case measure => simp [intOf]; omega
    · have HFF : Hid (FineL l) := fun j hj => HF.out j hj (by have := HE.out; omega)
      clear H1 HF
      go_wp2
      go_ret
      exact ⟨.inl ⟨HFF.out, rfl⟩, rfl⟩

set_option maxHeartbeats 1000000 in
theorem xsum_any (a : Option Addr) (cap n u t : Nat) (l : List Int) (w : World) (hm : n ≤ 17592186044416) (e1 : l.length = n) (hut : u ≤ t) (htn : t ≤ n) (hF : FineL l)
    (h1 : ∀ j (h : j < l.length), ∃ g o, a = some ⟨g, o, none⟩ ∧ w.cell? ⟨g, o + j, none⟩ = some (.int .i64 l[j])) :
    Calls Tryd.prog 80 #[.slice a n cap, .int .i64 (u : Int), .int .i64 (t : Int)] w fun e w' => e = .returned (.int .i64 (pre l t - pre l u)) ∧ w = w' := by
  have HE : Hid (l.length = n) := e1
  have H1 := hide h1
  have HF := hide hF
  clear e1 h1 hF
  go_enter Tryd.func80, Tryd.ntmps80
  go_wp2
  go_loop [7, 8] (fun r i => ∃ k : Nat, u ≤ k ∧ k ≤ t ∧ i = .int .i64 k ∧ r = .int .i64 (pre l k - pre l u)) (fun _ i => t - (intOf i).toNat)
  case atStart => exact ⟨u, Nat.le_refl _, hut, rfl, by rw [Int.sub_self]⟩
  case round =>
    obtain ⟨k, hk1, hk2, rfl, rfl⟩ := hrel
    by_cases hlt : k < t
    · have hkl : k < l.length := by have := HE.out; omega
      obtain ⟨g, o, rfl, f1⟩ := H1.out k hkl
      have HS := hide (pre_succ l k hkl)
      have HB := hide (pre_bound HF.out (k + 1) (by omega))
      have HM := hide (pre_mono HF.out u (k + 1) (by omega) (by omega))
      have HB0 := hide (pre_bound HF.out u (by omega))
      obtain ⟨x, hx⟩ : ∃ x, x = l[k] := ⟨_, rfl⟩
      rw [← hx] at f1 HS
      obtain ⟨p, hp⟩ : ∃ p, p = pre l k - pre l u := ⟨_, rfl⟩
      rw [← hp]
      have HP := hide hp
      have hkn : (k : Int) < (n : Int) := by omega
      have hkn' : k < n := by omega
      have hw : IntKind.i64.wrap (p + x) = p + x := wrap_sm _ (by have := HP.out; have := HS.out; have := HM.out; omega) (by have := HP.out; have := HS.out; have := HB.out; have := HB0.out; omega)
      clear hx hp H1
      go_wp2
      go_round
      case rel => exact ⟨k + 1, by omega, by omega, by go_num, by rw [HS.out, HP.out]; congr 1; omega⟩
      case measure => simp [intOf]; omega
    · have hkt : k = t := by omega
      subst hkt
      obtain ⟨p, hp⟩ : ∃ p, p = pre l k - pre l u := ⟨_, rfl⟩
      rw [← hp]
      have HP := hide hp
      clear hp H1
      go_wp2
      go_ret
      exact ⟨by rw [← HP.out]; rfl, rfl⟩

end Go.Proofs.YtdacbajiapdiiabDoor
