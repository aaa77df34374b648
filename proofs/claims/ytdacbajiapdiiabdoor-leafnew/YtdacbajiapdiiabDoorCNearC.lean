import Derived.Test.YtdacbajiapdiiabDoorCRef1
namespace Go.Proofs.YtdacbajiapdiiabDoor
open Go.RowKit

set_option maxHeartbeats 4000000 in
theorem nearC_any (g o cap m n : Nat) (l : List Int) (w : World) (hmn : n ≤ 17592186044416) (hm1 : 1 ≤ m) (hn : n = m + 1) (e1 : l.length = n) (hF : FineL l)
    (h1 : ∀ j (h : j < l.length), w.cell? ⟨g, o + j, none⟩ = some (.int .i64 l[j])) :
    Calls Tryd.prog 69 #[.slice (some ⟨g, o, none⟩) n cap, .int .i64 (m : Int), .int .i64 0] w fun e w' => ∃ i : Nat, e = .returned (.int .i64 (i : Int)) ∧ IsBest (gapC l) m i ∧ w = w' := by
  have HX1 : Hid (Calls Tryd.prog 80 #[.slice (some ⟨g, o, none⟩) n cap, .int .i64 0, .int .i64 1] w fun e w' => e = .returned (.int .i64 (pre l 1 - pre l 0)) ∧ w = w') := (xsum_any (some ⟨g, o, none⟩) cap n 0 1 l w hmn e1 (by omega) (by omega) hF (fun j h => ⟨g, o, rfl, h1 j h⟩))
  have HX2 : Hid (Calls Tryd.prog 80 #[.slice (some ⟨g, o, none⟩) n cap, .int .i64 1, .int .i64 (n : Int)] w fun e w' => e = .returned (.int .i64 (pre l n - pre l 1)) ∧ w = w') := (xsum_any (some ⟨g, o, none⟩) cap n 1 n l w hmn e1 (by omega) (by omega) hF (fun j h => ⟨g, o, rfl, h1 j h⟩))
  have HE : Hid (l.length = n) := e1
  have HN : Hid (n = m + 1) := hn
  have H1 := hide h1
  have HF := hide hF
  have hm : m ≤ 17592186044416 := by omega
  have HB1 := hide (pre_bound hF 1 (by omega))
  have HB2 := hide (pre_bound hF n (by omega))
  have HB3 := hide (pre_bound hF 1 (by omega))
  have HM1 := hide (pre_mono hF 1 n (by omega) (by omega))
  have HG1 : Hid (gapC l 1 = (pre l 1 - (pre l n - pre l 1)).natAbs) := by show _ = _; unfold gapC; rw [e1]
  rw [pre_zero, Int.sub_zero] at HX1
  clear e1 hn h1 hF
  obtain ⟨T, hT⟩ : ∃ T, T = pre l n := ⟨_, rfl⟩
  rw [← hT] at HX2 HB2 HM1 HG1
  have HTT := hide hT
  obtain ⟨p, hp⟩ : ∃ p, p = pre l 1 := ⟨_, rfl⟩
  rw [← hp] at HX1 HB1 HG1 HX2 HB3 HM1
  have HPP := hide hp
  clear hT hp
  have HA := hide (fun w => xapart_any p (T - p) w ⟨HB1.out.1, by have := HB1.out; omega⟩ ⟨by have := HM1.out; omega, by have := HB2.out; have := HB3.out; omega⟩)
  rw [← HG1.out] at HA
  obtain ⟨g1, hg1⟩ : ∃ g1, g1 = gapC l 1 := ⟨_, rfl⟩
  rw [← hg1] at HA
  have HGG := hide hg1
  clear hg1
  go_enter Tryd.func69, Tryd.ntmps69
  go_wp2_with fail
  refine HX1.out.mono ?_
  rintro e w' ⟨rfl, rfl⟩
  go_wp2_with fail
  refine HX2.out.mono ?_
  rintro e w' ⟨rfl, rfl⟩
  go_wp2_with fail
  refine (HA.out _).mono ?_
  rintro e w' ⟨rfl, rfl⟩
  go_wp2
  go_loop [7, 8, 9, 10, 11] (fun be le ri ls i => ∃ (k best : Nat), 1 ≤ k ∧ k ≤ m ∧ i = .int .i64 ((k + 1 : Nat) : Int) ∧ le = .int .i64 (pre l k) ∧ ri = .int .i64 (T - pre l k) ∧ be = .int .i64 (best : Int) ∧ IsBest (gapC l) k best ∧ ls = .int .i64 ((gapC l best : Nat) : Int)) (fun _ _ _ _ i => m + 1 - (intOf i).toNat)
  case atStart => exact ⟨1, 1, Nat.le_refl _, hm1, rfl, by rw [← HPP.out], by rw [← HPP.out], rfl, IsBest.one _, by rw [← HGG.out]⟩
  case round =>
    obtain ⟨k, best, hk1, hk2, rfl, rfl, rfl, rfl, hbest, rfl⟩ := hrel
    have HBE := hide hbest
    clear hbest HX1 HX2 HA
    by_cases hlt : k < m
    · have hkl : k < l.length := by have := HE.out; have := HN.out; omega
      have f1 := H1.out k hkl
      have HS1 := hide (pre_succ l k hkl)
      have HC1 := hide (pre_bound HF.out (k + 1) (by omega))
      have HMM := hide (pre_mono HF.out (k + 1) n (by have := HE.out; omega) (by have := HE.out; omega))
      have HG : Hid (gapC l (k + 1) = (pre l (k + 1) - (T - pre l (k + 1))).natAbs) := by show _ = _; unfold gapC; rw [HE.out, ← HTT.out]
      rw [← HTT.out] at HMM
      obtain ⟨x, hx⟩ : ∃ x, x = l[k] := ⟨_, rfl⟩
      rw [← hx] at f1 HS1
      obtain ⟨p0, hp0⟩ : ∃ p, p = pre l k := ⟨_, rfl⟩
      obtain ⟨p1, hp1⟩ : ∃ p, p = pre l (k + 1) := ⟨_, rfl⟩
      obtain ⟨d0, hd0⟩ : ∃ p, p = gapC l best := ⟨_, rfl⟩
      obtain ⟨d1, hd1⟩ : ∃ p, p = gapC l (k + 1) := ⟨_, rfl⟩
      rw [← hd0]
      rw [← hp0] at HS1
      rw [← hp0]
      rw [← hp1] at HS1 HC1 HG
      rw [← hp1] at HMM
      rw [← hd1] at HG
      have HD := hide (fun w => xapart_any p1 (T - p1) w ⟨HC1.out.1, by have := HC1.out; omega⟩ ⟨by have := HMM.out; omega, by have := HB2.out; have := HC1.out; omega⟩)
      rw [← HG.out] at HD
      have HP1 : Hid (p1 = pre l (k + 1) ∧ p1 = pre l (k + 1) ∧ d0 = gapC l best ∧ d1 = gapC l (k + 1)) := ⟨hp1, by rw [show k + 1 = k + 1 by omega]; exact hp1, hd0, hd1⟩
      have hw1 : IntKind.i64.wrap (((k + 1 : Nat) : Int) - 1) = (k : Int) := by rw [IntKind.wrap_i64]; omega
      have hw2 : IntKind.i64.wrap ((k : Int) + 0) = (k : Int) := by rw [IntKind.wrap_i64]; omega
      have hw3 : IntKind.i64.wrap (p0 + x) = p1 := by rw [← HS1.out]; exact wrap_sm _ HC1.out.1 (by have := HC1.out; omega)
      have hw4 : IntKind.i64.wrap (T - p0 - x) = T - p1 := by rw [show T - p0 - x = T - p1 by have := HS1.out; omega]; exact wrap_sm _ (by have := HMM.out; omega) (by have := HB2.out; have := HC1.out; omega)
      have hw5 : IntKind.i64.wrap (((k + 1 : Nat) : Int) + 1) = ((k + 1 + 1 : Nat) : Int) := by rw [IntKind.wrap_i64]; omega
      have hle : (((k + 1 : Nat) : Int)) ≤ (m : Int) := by omega
      have hkn : (k : Int) < (n : Int) := by have := HN.out; omega
      have hkN : k < n := by have := HN.out; omega
      clear hx hp0 hp1 hd0 hd1 H1 HS1 HC1 HMM HG
      by_cases hless : d1 < d0
      · have hlI : (d1 : Int) < (d0 : Int) := by omega
        have HNEW : Hid (IsBest (gapC l) (k + 1) (k + 1)) := HBE.out.stepNew (by rw [← HP1.out.2.2.1, ← HP1.out.2.2.2]; exact hless)
        go_wp2_with (go_at_call 81; refine (HD.out _).mono ?_; rintro e w' ⟨rfl, rfl⟩)
        go_round
        case rel => exact ⟨k + 1, k + 1, by omega, by omega, rfl, by rw [← HP1.out.1], by rw [← HP1.out.2.1], rfl, HNEW.out, by rw [← HP1.out.2.2.2]⟩
        case measure => simp [intOf]; omega
      · have hlI : ¬ (d1 : Int) < (d0 : Int) := by omega
        have HOLD : Hid (IsBest (gapC l) (k + 1) best) := HBE.out.stepOld (by rw [← HP1.out.2.2.1, ← HP1.out.2.2.2]; exact hless)
        go_wp2_with (go_at_call 81; refine (HD.out _).mono ?_; rintro e w' ⟨rfl, rfl⟩)
        go_round
        case rel => exact ⟨k + 1, best, by omega, by omega, rfl, by rw [← HP1.out.1], by rw [← HP1.out.2.1], rfl, HOLD.out, by rw [← HP1.out.2.2.1]⟩
        case measure => simp [intOf]; omega
    · have hkm : k = m := by omega
      have hle : ¬ (((k + 1 : Nat) : Int)) ≤ (m : Int) := by omega
      have HFIN : Hid (IsBest (gapC l) m best) := hkm ▸ HBE.out
      obtain ⟨p0, hp0⟩ : ∃ p, p = pre l k := ⟨_, rfl⟩
      obtain ⟨d0, hd0⟩ : ∃ p, p = gapC l best := ⟨_, rfl⟩
      rw [← hp0, ← hd0]
      clear hp0 hd0 H1 HBE hkm
      go_wp2
      go_ret
      exact ⟨best, rfl, HFIN.out, rfl⟩

end Go.Proofs.YtdacbajiapdiiabDoor
