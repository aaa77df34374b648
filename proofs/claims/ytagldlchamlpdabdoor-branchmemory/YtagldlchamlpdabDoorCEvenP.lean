import Derived.Test.YtagldlchamlpdabDoorCCut
namespace Go.Proofs.YtagldlchamlpdabDoor
open Go.RowKit

set_option maxHeartbeats 4000000 in
theorem evenP_any (A : Nat → Addr) (B g o cap m n : Nat) (l : List Int) (w : World) (hmn : n ≤ 17592186044416) (hm1 : 1 ≤ m) (hn : n = m + 2) (e1 : l.length = n) (hcap : n ≤ cap) (hE : ErrsG 4 gAll A w)
    (h1 : ∀ j (h : j < l.length), w.cell? ⟨g, o + j, none⟩ = some (.int .i64 l[j])) (hB : w.cell? ⟨B, 0, none⟩ = some (.slice (some ⟨g, o, none⟩) n cap)) :
    Calls Tryd.prog 70 #[.slice (some ⟨g, o, none⟩) n cap, .int .i64 3, .func (.func 71) #[] #[.pointer (some ⟨B, 0, none⟩)]] w fun e w' => ((FineL l ∧ ∃ i : Nat, e = .returned (.tuple #[.int .i64 (i : Int), .nilIface]) ∧ IsBest (gapP l) m i) ∨ (¬ FineL l ∧ e = .returned (.tuple #[.int .i64 0, .iface 167 (.pointer (some (A 0)))]))) ∧ Below w.heap.size w w' := by
  have c0 : w.cell? ⟨1, 0, none⟩ = some (.iface 167 (.pointer (some (A 0)))) := (hE.1 0 (by decide)).1
  have HS := hide (sum_any (some ⟨g, o, none⟩) cap n l w (by omega) e1 (fun j h => ⟨g, o, rfl, h1 j h⟩))
  have hm : m ≤ 17592186044416 := by omega
  have HE : Hid (l.length = n) := e1
  have HN : Hid (n = m + 2) := hn
  have H1 := hide h1
  have HP0 := hide (pre_zero l)
  have HB := hide hB
  have hnI : (n : Int) = (m : Int) + 2 := by omega
  have hsl1 : IntKind.i64.wrap ((n : Int) - 3) = (m : Int) - 1 := by rw [IntKind.wrap_i64]; omega
  have hsl2 : IntKind.i64.wrap ((m : Int) - 1 + 1) = (m : Int) := by rw [IntKind.wrap_i64]; omega
  have hlt : ¬ (n : Int) < 3 := by omega
  have hmc : (m : Int) ≤ (cap : Int) := by omega
  have hm0 : (0 : Int) ≤ (m : Int) := by omega
  clear e1 hn h1 hE hnI hmn hB
  by_cases hF : FineL l
  · have HT := hide (pre_bound hF n (by have := HE.out; omega))
    have HF := hide hF
    have HSS : Hid (Calls Tryd.prog 89 #[.slice (some ⟨g, o, none⟩) n cap] w fun e w' => e = .returned (.tuple #[.int .i64 (pre l n), .bool true]) ∧ w = w') := by
      refine HS.out.mono ?_
      rintro e w' ⟨h | h, rfl⟩
      · exact ⟨h.2, rfl⟩
      · exact absurd hF h.1
    obtain ⟨T, hT⟩ : ∃ T, T = pre l n := ⟨_, rfl⟩
    rw [← hT] at HSS HT
    have HTT := hide hT
    clear hT HS c0 hF
    go_enter Tryd.func70, Tryd.ntmps70
    go_wp2_with (go_at_call 89; refine HSS.out.mono ?_; rintro e w' ⟨rfl, rfl⟩)
    go_loop [8, 10, 11, 12, 38] (fun re be le ah i => ∃ (k best : Nat) (least : Int), k ≤ m ∧ i = .int .i64 k ∧ re = .int .i64 (T - pre l k) ∧ be = .int .i64 (best : Int) ∧ le = .int .i64 least ∧ ah = .int .i64 (pre l k) ∧ ((k = 0 ∧ best = 0 ∧ least = T) ∨ (1 ≤ k ∧ IsBest (gapP l) k best ∧ least = gapP l best))) (fun _ _ _ _ i => m - (intOf i).toNat)
    case atStart => exact ⟨0, 0, T, Nat.zero_le _, rfl, by rw [HP0.out, Int.sub_zero], rfl, rfl, by rw [HP0.out], .inl ⟨rfl, rfl, rfl⟩⟩
    case round =>
      obtain ⟨k, best, least, hk, rfl, rfl, rfl, rfl, rfl, hst⟩ := hrel
      have HST := hide hst
      clear hst
      by_cases hltk : k < m
      · have hk1 : k < l.length := by have := HE.out; have := HN.out; omega
        have f1 := H1.out k hk1
        have HPS := hide (pre_succ l k hk1)
        have HPB := hide (pre_bound HF.out k (by omega))
        have HPB1 := hide (pre_bound HF.out (k + 1) (by omega))
        have HMO := hide (pre_mono HF.out (k + 1) n (by have := HE.out; have := HN.out; omega) (by have := HE.out; omega))
        obtain ⟨x, hx⟩ : ∃ x, x = l[k] := ⟨_, rfl⟩
        rw [← hx] at f1 HPS
        obtain ⟨p, hp⟩ : ∃ p, p = pre l k := ⟨_, rfl⟩
        rw [← hp] at HPB HPS ⊢
        obtain ⟨q, hq⟩ : ∃ q, q = pre l (k + 1) := ⟨_, rfl⟩
        rw [← hq] at HPB1 HPS HMO
        rw [← HTT.out] at HMO
        have HQ := hide hq
        have HKB : Hid ((k : Int) ≤ 17592186044416 ∧ 4072 * ((k : Int) + 1) ≤ 72057594037927936) := ⟨by omega, by omega⟩
        have HQB : Hid (0 ≤ q ∧ q ≤ 1152921504606846976) := ⟨HPB1.out.1, by have := HPB1.out.2; have := HKB.out; omega⟩
        have HRB : Hid (0 ≤ T - q ∧ T - q ≤ 1152921504606846976) := ⟨by have := HMO.out; omega, by have := HT.out.2; have := HPB1.out.1; have := HN.out; omega⟩
        have hw1 : IntKind.i64.wrap (p + x) = q := by rw [← HPS.out]; exact wrap_sm _ HQB.out.1 (by have := HQB.out; omega)
        have hw2 : IntKind.i64.wrap (T - p - x) = T - q := by rw [show T - p - x = T - q by have := HPS.out; omega]; exact wrap_sm _ HRB.out.1 (by have := HRB.out; omega)
        have hw3 : IntKind.i64.wrap ((k : Int) + 1) = ((k + 1 : Nat) : Int) := by rw [IntKind.wrap_i64]; omega
        have hk2 : k + 1 < l.length := by have := HE.out; have := HN.out; omega
        have HMO2 := hide (pre_mono HF.out (k + 1 + 1) n (by have := HE.out; have := HN.out; omega) (by have := HE.out; omega))
        have HPS2 := hide (pre_succ l (k + 1) hk2)
        have HY := hide (HF.out (k + 1) hk2)
        rw [← HTT.out] at HMO2
        rw [← HQ.out] at HPS2
        have HCF : Hid (Calls Tryd.prog 71 #[.int .i64 ((k + 1 : Nat) : Int), .int .i64 q, .int .i64 (T - q), .pointer (some ⟨B, 0, none⟩)] w fun e w' => e = .returned (.int .i64 ((gapP l (k + 1) : Nat) : Int)) ∧ w = w') := by
          have h := pivotf_any B g o n cap (k + 1) q (T - q) l[k + 1] w HB.out (by have := HE.out; omega) (H1.out (k + 1) hk2) HQB.out ⟨by have := HMO2.out; have := HPS2.out; omega, by have := HRB.out; have := HY.out; omega⟩
          have e : gapP l (k + 1) = (q - (T - q - l[k + 1])).natAbs := by unfold gapP; rw [HE.out, ← HTT.out, HPS2.out, ← HQ.out]; congr 1; omega
          rw [e]; exact h
        have HGL := hide (gapP_lt HF.out (k + 1) (by omega) (by have := HE.out; have := HN.out; omega))
        rw [HE.out, ← HTT.out] at HGL
        obtain ⟨gp, hgp⟩ : ∃ gp : Nat, gp = gapP l (k + 1) := ⟨_, rfl⟩
        rw [← hgp] at HCF HGL
        have HGP := hide hgp
        have hltI : (k : Int) < (m : Int) := by omega
        clear hx hp hq hgp H1 HP0 HSS
        by_cases hless : (gp : Int) < least
        · have HNEW : Hid (IsBest (gapP l) (k + 1) (k + 1)) := by
            rcases HST.out with ⟨rfl, _, _⟩ | ⟨_, hb, he⟩
            · exact IsBest.one _
            · exact hb.stepNew (by rw [← HGP.out]; omega)
          clear HST
          go_wp2_with (go_at_call 71; refine (HCF.out).mono ?_; rintro e w' ⟨rfl, rfl⟩)
          go_round
          case rel => exact ⟨k + 1, k + 1, gp, by omega, rfl, by rw [← HQ.out], rfl, rfl, by rw [← HQ.out], .inr ⟨by omega, HNEW.out, by rw [HGP.out]⟩⟩
          case measure => simp [intOf]; omega
        · have HOLD : Hid (1 ≤ k + 1 ∧ IsBest (gapP l) (k + 1) best ∧ least = gapP l best) := by
            rcases HST.out with ⟨_, _, rfl⟩ | ⟨_, hb, he⟩
            · exact absurd HGL.out hless
            · exact ⟨by omega, hb.stepOld (by rw [← HGP.out]; omega), he⟩
          clear HST
          go_wp2_with (go_at_call 71; refine (HCF.out).mono ?_; rintro e w' ⟨rfl, rfl⟩)
          go_round
          case rel => exact ⟨k + 1, best, least, by omega, rfl, by rw [← HQ.out], rfl, rfl, by rw [← HQ.out], .inr HOLD.out⟩
          case measure => simp [intOf]; omega
      · have hkm : k = m := by omega
        have HFIN : Hid (IsBest (gapP l) m best) := by
          rcases HST.out with ⟨h0, _, _⟩ | ⟨_, hb, _⟩
          · omega
          · rw [← hkm]; exact hb
        subst hkm
        obtain ⟨p, hp⟩ : ∃ p, p = pre l k := ⟨_, rfl⟩
        rw [← hp]
        clear hp HST H1 HSS HP0
        go_wp2
        go_ret2
        exact ⟨.inl ⟨HF.out, best, rfl, HFIN.out⟩, Below.refl _ _⟩
  · have HSS : Hid (Calls Tryd.prog 89 #[.slice (some ⟨g, o, none⟩) n cap] w fun e w' => e = .returned (.tuple #[.int .i64 0, .bool false]) ∧ w = w') := by
      refine HS.out.mono ?_
      rintro e w' ⟨h | h, rfl⟩
      · exact absurd h.1 hF
      · exact ⟨h.2, rfl⟩
    have HF := hide hF
    clear HS hF H1 HP0
    go_enter Tryd.func70, Tryd.ntmps70
    go_wp2_with (go_at_call 89; refine HSS.out.mono ?_; rintro e w' ⟨rfl, rfl⟩)
    go_quiet (fail)
    go_wp2
    go_ret2
    exact ⟨.inr ⟨HF.out, rfl⟩, below_drewN' (Below.refl _ _) _⟩

end Go.Proofs.YtagldlchamlpdabDoor
