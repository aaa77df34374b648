import Derived.Test.YtjlhafiaocodkaaDoorWQuo2
namespace Go.Proofs.YtjlhafiaocodkaaDoor
open Go.RowKit

theorem dig_one : ∀ n : Fin 16, digB.extract n.1 (n.1 + 1) = ba [hexC n.1] := by decide
set_option maxHeartbeats 4000000 in
set_option maxRecDepth 100000 in
theorem rquote_any (s : ByteArray) (w : World) (hs : s.size ≤ 1099511627776) :
    Calls Tryd.prog 7 #[.string s] w fun e w' => e = .returned (.string (ba (quoW s.data.toList))) ∧ Below w.heap.size w w' := by
  obtain ⟨q, hq⟩ : ∃ q, q = ba (quoW s.data.toList) := ⟨_, rfl⟩
  rw [← hq]
  have HIB := hide (rbare_any s w (by omega))
  have HBO : Hid (bareW s.data.toList = true → q = s) := fun h => by rw [hq]; unfold quoW; rw [if_pos h, ba_self]
  have HBN : Hid (bareW s.data.toList = false → q = ba (34 :: (quoL s.data.toList ++ [34]))) := fun h => by rw [hq]; unfold quoW; rw [if_neg (by rw [h]; decide)]
  clear hq
  obtain ⟨Q, hQ⟩ : ∃ Q : Ending → World → Prop, Q = fun e w' => e = .returned (.string q) ∧ Below w.heap.size w w' := ⟨_, rfl⟩
  rw [← hQ]
  have HQ := hide hQ
  clear hQ
  cases hb : bareW s.data.toList with
  | true =>
    rw [hb] at HIB
    have HE := hide (HBO.out hb)
    clear hb HBO HBN
    go_enter Tryd.func7, Tryd.ntmps7
    go_wp2_with fail
    refine HIB.out.mono ?_
    rintro e w1 ⟨rfl, rfl⟩
    go_wp2
    rw [HQ.out]
    exact ⟨by rw [HE.out]; rfl, Below.refl _ _⟩
  | false =>
    rw [hb] at HIB
    have HE := hide (HBN.out hb)
    clear hb HBO HBN
    go_enter Tryd.func7, Tryd.ntmps7
    go_wp2_with fail
    refine HIB.out.mono ?_
    rintro e w1 ⟨rfl, rfl⟩
    clear HIB
    go_wp2
    go_loopw [3, 4] (fun v iv wr => ∃ (k : Nat) (x : ByteArray), v = .string x ∧ iv = .int .i64 (k : Int) ∧ k ≤ s.size ∧ Hid (x = ba (34 :: quoL (s.data.toList.take k))) ∧ Below w.heap.size w wr) (fun _ iv _ => s.size - (intOf iv).toNat)
    case atStart => exact ⟨0, _, rfl, rfl, Nat.zero_le _, rfl, Below.refl _ _⟩
    case round =>
      obtain ⟨k, x, rfl, rfl, hk, hx, hnx⟩ := hrel
      have k0 : (0 : Int) ≤ (k : Int) := by omega
      have hlen : x.size ≤ 4398046511105 := by
        rw [hx.out, ba_size]
        have := quoL_len (s.data.toList.take k)
        rw [List.length_take] at this
        rw [List.length_cons]; omega
      by_cases hlt : k < s.size
      · have hltI : (k : Int) < (s.size : Int) := by omega
        obtain ⟨k1, hk1⟩ : ∃ k1, k1 = k + 1 := ⟨_, rfl⟩
        have w1 : IntKind.i64.wrap ((k : Int) + 1) = (k1 : Int) := by rw [IntKind.wrap_i64]; omega
        have n1 : (0 : Int) ≤ (k1 : Int) := by omega
        have n2 : (k : Int) ≤ (k1 : Int) := by omega
        have n3 : (k1 : Int) ≤ (s.size : Int) := by omega
        have n4 : k1 ≤ s.size := by omega
        have n5 : s.size - k1 < s.size - k := by omega
        have HX : Hid (∀ y : ByteArray, y.data.toList = quoB s[k] → x ++ y = ba (34 :: quoL (s.data.toList.take k1))) := fun y hy => by
          rw [hk1, quoL_snoc s k hlt, hx.out, show y = ba (quoB s[k]) from ba_eq hy, ba_app]; rfl
        clear hx
        by_cases hc : s[k] = 34
        · have hcI : ((s[k].toNat : Int) == 34) = true := by rw [hc]; rfl
          have HY := hide (HX.out ⟨#[92, 34]⟩ (by rw [hc]; rfl))
          clear hc HX hk1
          go_wp2
          go_roundw
          case rel => exact ⟨k1, _, rfl, rfl, n4, HY, hnx⟩
          case measure => simp [intOf]; omega
        · have hcI : ((s[k].toNat : Int) == 34) = false := u8_ne (k := 34) (by decide) hc
          by_cases h9 : s[k] = 92
          · have h9I : ((s[k].toNat : Int) == 92) = true := by rw [h9]; rfl
            have HY := hide (HX.out ⟨#[92, 92]⟩ (by rw [h9]; rfl))
            clear hc h9 HX hk1
            go_wp2
            go_roundw
            case rel => exact ⟨k1, _, rfl, rfl, n4, HY, hnx⟩
            case measure => simp [intOf]; omega
          · have h9I : ((s[k].toNat : Int) == 92) = false := u8_ne (k := 92) (by decide) h9
            cases hse : seenB s[k] with
            | true =>
              have hbb := hse
              unfold seenB at hbb
              simp only [Bool.and_eq_true, decide_eq_true_eq] at hbb
              have b1 : ¬ (s[k].toNat : Int) < 32 := by omega
              have b2 : ¬ (126 : Int) < (s[k].toNat : Int) := by omega
              have HY := hide (HX.out (s.extract k k1) (by
                rw [hk1, ba_one s k hlt, ba_list]
                unfold quoB
                rw [if_neg (by rw [hse]; decide), if_neg (fun e => e.elim hc h9)]))
              have hsz : x.size + (s.extract k k1).size ≤ 140737488355328 := by rw [ByteArray.size_extract]; omega
              clear hc h9 HX hk1 hse hbb
              go_wp2
              go_roundw
              case rel => exact ⟨k1, _, rfl, rfl, n4, HY, hnx⟩
              case measure => simp [intOf]; omega
            | false =>
              have hcs : (s[k].toNat : Int) < 32 ∨ (¬ (s[k].toNat : Int) < 32 ∧ (126 : Int) < (s[k].toNat : Int)) := by
                unfold seenB at hse
                simp only [Bool.and_eq_false_iff, decide_eq_false_iff_not] at hse
                omega
              obtain ⟨hi, hhi⟩ : ∃ hi, hi = s[k].toNat / 16 := ⟨_, rfl⟩
              obtain ⟨lo, hlo⟩ : ∃ lo, lo = s[k].toNat % 16 := ⟨_, rfl⟩
              have hb := s[k].toNat_lt
              have hsh : (s[k].toNat : Int) / 16 = (hi : Int) := by omega
              have han : bits BinOp.and IntKind.u8 (s[k].toNat : Int) 15 = (lo : Int) := by rw [hlo]; exact and15 ⟨s[k].toNat, hb⟩
              obtain ⟨h1, hh1⟩ : ∃ h1, h1 = hi + 1 := ⟨_, rfl⟩
              obtain ⟨l1, hl1⟩ : ∃ l1, l1 = lo + 1 := ⟨_, rfl⟩
              have i1 : hi < 16 := by omega
              have i2 : lo < 16 := by omega
              have wh : IntKind.u8.wrap ((hi : Int) + 1) = (h1 : Int) := by rw [IntKind.wrap_u8]; omega
              have wl : IntKind.u8.wrap ((lo : Int) + 1) = (l1 : Int) := by rw [IntKind.wrap_u8]; omega
              have a1 : (0 : Int) ≤ (hi : Int) := by omega
              have a2 : (hi : Int) ≤ (h1 : Int) := by omega
              have a3 : (h1 : Int) ≤ 16 := by omega
              have a4 : (0 : Int) ≤ (lo : Int) := by omega
              have a5 : (lo : Int) ≤ (l1 : Int) := by omega
              have a6 : (l1 : Int) ≤ 16 := by omega
              have HY : Hid (((x ++ ⟨#[92, 120]⟩) ++ ({ data := #[48, 49, 50, 51, 52, 53, 54, 55, 56, 57, 97, 98, 99, 100, 101, 102] } : ByteArray).extract hi h1) ++ ({ data := #[48, 49, 50, 51, 52, 53, 54, 55, 56, 57, 97, 98, 99, 100, 101, 102] } : ByteArray).extract lo l1 = ba (34 :: quoL (s.data.toList.take k1))) := by
                show _ = _
                have e1 : ({ data := #[48, 49, 50, 51, 52, 53, 54, 55, 56, 57, 97, 98, 99, 100, 101, 102] } : ByteArray).extract hi h1 = ba [hexC hi] := by rw [hh1]; exact dig_one ⟨hi, i1⟩
                have e2 : ({ data := #[48, 49, 50, 51, 52, 53, 54, 55, 56, 57, 97, 98, 99, 100, 101, 102] } : ByteArray).extract lo l1 = ba [hexC lo] := by rw [hl1]; exact dig_one ⟨lo, i2⟩
                rw [e1, e2, ByteArray.append_assoc, ByteArray.append_assoc]
                refine HX.out _ ?_
                rw [ba_app]
                show ((ba [92, 120]) ++ _).data.toList = _
                rw [ba_app, ba_list]
                unfold quoB
                rw [if_pos hse, hhi, hlo]; rfl
              clear hc h9 HX hk1 hse hhi hlo hb hh1 hl1
              rcases hcs with b1 | ⟨b1, b2⟩
              all_goals
                go_wp2
                go_quiet (fail)
                go_wp2
                go_roundw
                case rel => exact ⟨k1, _, rfl, rfl, n4, HY, below_drewN' hnx _⟩
                case measure => simp [intOf]; omega
      · have hltI : ¬ (k : Int) < (s.size : Int) := by omega
        have HF : Hid (x ++ ⟨#[34]⟩ = q) := by
          show _ = _
          rw [hx.out, HE.out, List.take_of_length_le (by rw [bsize]; omega)]
          show ba _ ++ ba [34] = _
          rw [ba_app]; rfl
        clear hx
        go_wp2
        rw [HQ.out]
        exact ⟨by rw [HF.out], hnx⟩
end Go.Proofs.YtjlhafiaocodkaaDoor
