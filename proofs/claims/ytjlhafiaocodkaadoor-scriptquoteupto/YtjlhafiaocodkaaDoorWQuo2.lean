import Derived.Test.YtjlhafiaocodkaaDoorWQuo
import Derived.Test.YtjlhafiaocodkaaDoorWRef3
namespace Go.Proofs.YtjlhafiaocodkaaDoor
open Go.RowKit

theorem GrB.conv {base : Nat} {l : List UInt8} {v : Value} {w : World} (h : GrB base l v w) : (convert 33 9 v).run Tryd.prog w = .ok (.string (ba l)) w := by
  obtain ⟨a, c, rfl, h⟩ := h
  exact run_strG (rowR_of_owns h)
theorem grB_lit (w : World) (b : UInt8) : GrB w.heap.size [b] (.slice (some ⟨w.heap.size, 0, none⟩) 1 1) (w.alloc (.cells #[.int .u8 (b.toNat : Int)] 5)) := by
  refine ⟨_, _, rfl, rfl, .inr ⟨w.heap.size, 1, _, rfl, Nat.le_refl _, heap_alloc_new w _, Nat.le_refl _, by decide, rfl, rfl⟩⟩
theorem quoL_snoc (s : ByteArray) (k : Nat) (h : k < s.size) : quoL (s.data.toList.take (k + 1)) = quoL (s.data.toList.take k) ++ quoB s[k] := by
  rw [take_snoc s k h]
  unfold quoL
  rw [List.flatMap_append]
  simp
set_option maxHeartbeats 4000000 in
set_option maxRecDepth 100000 in
theorem quote_any (s : ByteArray) (w : World) (hs : s.size ≤ 1099511627776) :
    Calls Tryd.prog 5 #[.string s] w fun e w' => e = .returned (.string (ba (quoW s.data.toList))) ∧ Below w.heap.size w w' := by
  obtain ⟨q, hq⟩ : ∃ q, q = ba (quoW s.data.toList) := ⟨_, rfl⟩
  rw [← hq]
  have HIB := hide (isbare_any s w (by omega))
  have HBO : Hid (bareW s.data.toList = true → q = s) := fun h => by rw [hq]; unfold quoW; rw [if_pos h, ba_self]
  have HBN : Hid (bareW s.data.toList = false → q = ba (34 :: (quoL s.data.toList ++ [34]))) := fun h => by rw [hq]; unfold quoW; rw [if_neg (by rw [h]; decide)]
  clear hq
  obtain ⟨Q, hQ⟩ : ∃ Q : Ending → World → Prop, Q = fun e w' => e = .returned (.string q) ∧ Below w.heap.size w w' := ⟨_, rfl⟩
  rw [← hQ]
  have HQ := hide hQ
  clear hQ
  cases hb : bareW s.data.toList with
  | true =>
    rw [hb] at HIB
    have HE := hide (HBO.out hb)
    have HCL := hide (sclone_any s w (by omega))
    clear hb HBO HBN
    go_enter Tryd.func5, Tryd.ntmps5
    go_wp2_with fail
    refine HIB.out.mono ?_
    rintro e w1 ⟨rfl, rfl⟩
    go_wp2_with fail
    refine HCL.out.mono ?_
    rintro e w1 ⟨rfl, hb1⟩
    go_wp2
    rw [HQ.out]
    exact ⟨by rw [HE.out]; rfl, hb1⟩
  | false =>
    rw [hb] at HIB
    have HE := hide (HBN.out hb)
    clear hb HBO HBN
    have HG0 := hide (grB_lit w 34)
    have HB0 := hide (below_new w (.cells #[.int .u8 34] 5))
    go_enter Tryd.func5, Tryd.ntmps5
    go_wp2_with fail
    refine HIB.out.mono ?_
    rintro e w1 ⟨rfl, rfl⟩
    clear HIB
    go_wp2
    go_loopw [3, 12] (fun v iv wr => ∃ (k : Nat) (a : Option Addr) (n c : Nat), v = .slice a n c ∧ iv = .int .i64 (k : Int) ∧ k ≤ s.size ∧ Hid (GrB w.heap.size (34 :: quoL (s.data.toList.take k)) (.slice a n c) wr) ∧ Below w.heap.size w wr) (fun _ iv _ => s.size - (intOf iv).toNat)
    case atStart => exact ⟨0, _, _, _, rfl, rfl, Nat.zero_le _, HG0, HB0.out⟩
    case round =>
      obtain ⟨k, a, n, c, rfl, rfl, hk, hg, hnx⟩ := hrel
      have k0 : (0 : Int) ≤ (k : Int) := by omega
      have hlen : (34 :: quoL (s.data.toList.take k)).length ≤ 4398046511105 := by
        have := quoL_len (s.data.toList.take k)
        rw [List.length_take] at this
        rw [List.length_cons]; omega
      by_cases hlt : k < s.size
      · have hltI : (k : Int) < (s.size : Int) := by omega
        have HAP := hide (appq_any w.heap.size (.slice a n c) _ s[k] wr hg.out hnx.size (by omega))
        have HSN := hide (quoL_snoc s k hlt)
        clear hg hlen
        go_wp2_with fail
        refine HAP.out.mono ?_
        rintro e w2 ⟨v', rfl, hg2, hb2⟩
        obtain ⟨ga, gn, gc, gf⟩ := hg2.form
        subst gf
        have HG2 : Hid (GrB w.heap.size (34 :: quoL (s.data.toList.take (k + 1))) (.slice ga gn gc) w2) := by
          show GrB _ _ _ _
          rw [HSN.out]; exact hg2
        have hnx2 : Below w.heap.size w w2 := hnx.trans hb2
        clear hg2 hb2 hnx HAP
        go_wp2
        go_roundw
        case rel => exact ⟨k + 1, ga, gn, gc, rfl, by go_num, by omega, HG2, hnx2⟩
        case measure => simp [intOf]; omega
      · have hltI : ¬ (k : Int) < (s.size : Int) := by omega
        have hg' := hg.out
        rw [List.take_of_length_le (by rw [bsize]; omega)] at hg' hlen
        have HR := hide (append_bytes (l := [34]) (W := wr.alloc (.cells #[.int .u8 34] 5)) hg' hnx.size (by simp) (by rw [List.length_singleton]; omega) (Below.refl _ _))
        clear hg hg' hlen
        go_wp2_with (at_builtin; refine wpList_append_P 33 rfl (.tmp 21) (.tmp 22) rfl rfl _ _ rfl rfl (fun v' w' => GrB w.heap.size (34 :: quoL s.data.toList ++ [34]) v' w' ∧ Below w.heap.size wr w') HR.out ?_; rintro v' w2 ⟨g1, g2⟩; have G := hide (And.intro g1 g2); obtain ⟨ga, gn, gc, gf⟩ := g1.form; subst gf; have hconv := g1.conv; clear g1 g2)
        rw [HQ.out]
        exact ⟨by rw [HE.out], hnx.trans G.out.2⟩
set_option maxHeartbeats 4000000 in
set_option maxRecDepth 100000 in
theorem rbare_any (s : ByteArray) (w : World) (hs : s.size ≤ 70368744177664) :
    Calls Tryd.prog 16 #[.string s] w fun e w' => e = .returned (.bool (bareW s.data.toList)) ∧ w = w' := by
  obtain ⟨o, ho⟩ : ∃ o, o = bareW s.data.toList := ⟨_, rfl⟩
  rw [← ho]
  have HO := hide ho
  clear ho
  by_cases h0 : 0 < s.size
  · obtain ⟨e0, e1⟩ := str_ne h0
    have h0I : (0 : Int) < (s.size : Int) := by omega
    have HL := hide (toList_first s h0)
    by_cases hc : s[0] = 35
    · have hcI : ((s[0].toNat : Int) == 35) = true := by rw [hc]; rfl
      have HE : Hid (o = false) := by
        show _ = _
        rw [HO.out, HL.out, hc]; rfl
      clear hc
      go_enter Tryd.func16, Tryd.ntmps16
      go_wp2
      go_ret
      exact ⟨by rw [HE.out]; rfl, rfl⟩
    · have hcI : ((s[0].toNat : Int) == 35) = false := u8_ne (k := 35) (by decide) hc
      have HE : Hid (o = s.data.toList.all plainB) := by
        show _ = _
        rw [HO.out]
        conv => lhs; rw [HL.out]
        show (s[0] != 35 && (s[0] :: _).all plainB) = _
        rw [← HL.out]
        have : (s[0] != 35) = true := by rw [bne_iff_ne]; exact hc
        rw [this, Bool.true_and]
      clear hc
      go_enter Tryd.func16, Tryd.ntmps16
      go_wp2
      go_loop [3] (fun v => ∃ k : Nat, v = .int .i64 (k : Int) ∧ k ≤ s.size ∧ Hid ((s.data.toList.take k).all plainB = true)) (fun v => s.size - (intOf v).toNat)
      case atStart => exact ⟨0, rfl, Nat.zero_le _, rfl⟩
      case round =>
        obtain ⟨k, rfl, hk, hall⟩ := hrel
        have k0 : (0 : Int) ≤ (k : Int) := by omega
        by_cases hlt : k < s.size
        · have hltI : (k : Int) < (s.size : Int) := by omega
          have HS : Hid (s.data.toList.take (k + 1) = s.data.toList.take k ++ [s[k]]) := take_snoc s k hlt
          cases hp : plainB s[k] with
          | true =>
            have HA : Hid ((s.data.toList.take (k + 1)).all plainB = true) := by
              show _ = _
              rw [HS.out, List.all_append, hall.out]
              simp [hp]
            unfold plainB bareB at hp
            simp only [Bool.and_eq_true, decide_eq_true_eq, bne_iff_ne, ne_eq] at hp
            have h9 : ¬ s[k].toNat = 92 := fun e => hp.2 (UInt8.toNat_inj.1 e)
            have b1 : ¬ (s[k].toNat : Int) < 33 := by omega
            have b2 : ¬ (126 : Int) < (s[k].toNat : Int) := by omega
            have b3 : ((s[k].toNat : Int) == 34) = false := by rw [beq_eq_false_iff_ne]; omega
            have b4 : ((s[k].toNat : Int) == 92) = false := by rw [beq_eq_false_iff_ne]; omega
            clear hp h9 hall
            go_wp2
            go_round
            case rel => exact ⟨k + 1, by go_num, by omega, HA⟩
            case measure => simp [intOf]; omega
          | false =>
            have HF : Hid (o = false) := by
              show _ = _
              rw [HE.out]
              cases hx : s.data.toList.all plainB with
              | false => rfl
              | true =>
                have := List.all_eq_true.1 hx s[k] (by
                  show s.data.toList[k]'(by rw [bsize]; exact hlt) ∈ _
                  exact List.getElem_mem _)
                rw [this] at hp; cases hp
            have hcs : (s[k].toNat : Int) < 33 ∨ (¬ (s[k].toNat : Int) < 33 ∧ (126 : Int) < (s[k].toNat : Int)) ∨ (¬ (s[k].toNat : Int) < 33 ∧ ¬ (126 : Int) < (s[k].toNat : Int) ∧ ((s[k].toNat : Int) == 34) = true) ∨ (¬ (s[k].toNat : Int) < 33 ∧ ¬ (126 : Int) < (s[k].toNat : Int) ∧ ((s[k].toNat : Int) == 34) = false ∧ ((s[k].toNat : Int) == 92) = true) := by
              unfold plainB bareB at hp
              simp only [Bool.and_eq_false_iff, decide_eq_false_iff_not, bne_eq_false_iff_eq] at hp
              simp only [beq_iff_eq, beq_eq_false_iff_ne, ne_eq]
              rcases hp with hp | hp
              · omega
              · have : s[k].toNat = 92 := by rw [hp]; rfl
                omega
            clear hp hall
            rcases hcs with b1 | ⟨b1, b2⟩ | ⟨b1, b2, b3⟩ | ⟨b1, b2, b3, b4⟩
            all_goals
              go_wp2
              go_ret
              exact ⟨by rw [HF.out]; rfl, rfl⟩
        · have hltI : ¬ (k : Int) < (s.size : Int) := by omega
          have HF : Hid (o = true) := by
            show _ = _
            have h9 := hall.out
            rw [List.take_of_length_le (by rw [bsize]; omega)] at h9
            rw [HE.out, h9]
          clear hall
          go_wp2
          go_ret
          exact ⟨by rw [HF.out]; rfl, rfl⟩
  · have hs0 := str_nil h0
    subst hs0
    have HE : Hid (o = false) := HO.out
    go_enter Tryd.func16, Tryd.ntmps16
    go_wp2
    go_ret
    exact ⟨by rw [HE.out]; rfl, rfl⟩
end Go.Proofs.YtjlhafiaocodkaaDoor
