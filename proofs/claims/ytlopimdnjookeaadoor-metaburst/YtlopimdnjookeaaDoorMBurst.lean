import Derived.Test.YtlopimdnjookeaaDoorMBMath
import Derived.Test.YtlopimdnjookeaaDoorNum2
import Derived.Deep.DeepCutAuto
import Derived.Deep.CutBlock
import Derived.BigQuiet
namespace Go.Proofs.YtlopimdnjookeaaDoor
open Go.RowKit

set_option maxRecDepth 100000 in
set_option maxHeartbeats 16000000 in
theorem burst_any (A : Nat → Addr) (p r : Int) (t : Nat) (at' : Int) (b0 b1 b2 b3 : UInt8) (w : World) (hn : (⟨p, r, t⟩ : Mt).num) (h1 : -9223372036854775808 ≤ at') (h2 : at' ≤ 9223372036854775807) (hE : ErrsAt A w) (hT : Tab w) :
    Calls Tryd.prog 5 #[.agg #[.int .i64 p, .int .i64 r, .int .u64 (t : Int), .int .i64 at', .int .u8 (b0.toNat : Int), .int .u8 (b1.toNat : Int), .int .u8 (b2.toNat : Int), .int .u8 (b3.toNat : Int)]] w fun e w' => e = .returned (.bool true) ∧ Below w.heap.size w w' := by
  have HN := hide hn
  have ht : t < 18446744073709551616 := hn.2.2.2.2
  have HE := hide hE
  have HTB := hide hT
  have HX : Hid (Boxed w.heap.size [.int .i64 p, .int .i64 r, .int .u64 (t : Int), .int .i64 at', .int .u8 (b0.toNat : Int), .int .u8 (b1.toNat : Int), .int .u8 (b2.toNat : Int), .int .u8 (b3.toNat : Int)] (w.alloc (.cells #[.int .i64 p, .int .i64 r, .int .u64 (t : Int), .int .i64 at', .int .u8 (b0.toNat : Int), .int .u8 (b1.toNat : Int), .int .u8 (b2.toNat : Int), .int .u8 (b3.toNat : Int)] 51))) := boxed_new w _ _
  have HB := hide (below_new w (.cells #[.int .i64 p, .int .i64 r, .int .u64 (t : Int), .int .i64 at', .int .u8 (b0.toNat : Int), .int .u8 (b1.toNat : Int), .int .u8 (b2.toNat : Int), .int .u8 (b3.toNat : Int)] 51))
  have HPK : Hid (∀ w, Calls Tryd.prog 9 #[.int .i64 at', .int .i64 512] w fun e w' => ∃ r : Nat, e = .returned (.int .i64 (r : Int)) ∧ PickOk 512 r ∧ w = w') := fun w => pick_any at' 512 w (by decide) (by decide) h1 h2
  clear hn hE hT h1 h2
  go_enter Tryd.func5, Tryd.ntmps5
  go_wp2_with fail
  generalize w.alloc (.cells #[.int .i64 p, .int .i64 r, .int .u64 (t : Int), .int .i64 at', .int .u8 (b0.toNat : Int), .int .u8 (b1.toNat : Int), .int .u8 (b2.toNat : Int), .int .u8 (b3.toNat : Int)] 51) = W0 at *
  refine (tidy_any p r t _ HN.out.1 HN.out.2.1 HN.out.2.2.1 HN.out.2.2.2.1).mono ?_
  rintro e w1 ⟨P, R, rfl, hm, hb1⟩
  have HM := hide hm
  have hbn := Below.next hb1 (below_new w1 (.cells #[.int .i64 P, .int .i64 R, .int .u64 (t : Int)] 31))
  have HQ1 := hide (boxed_new w1 #[.int .i64 P, .int .i64 R, .int .u64 (t : Int)] 31)
  have HX1 := hide (HX.out.below hbn)
  have HB1 := hide (Below.next HB.out hbn)
  have HLT1 : Hid (w.heap.size < w1.heap.size) := (HX.out.below hb1).1
  have HEN : Hid (∀ w, Tab w → Calls Tryd.prog 18 #[.agg #[.int .i64 P, .int .i64 R, .int .u64 (t : Int)]] w fun e w' => ∃ g, e = .returned (.tuple #[.slice (some ⟨g, 0, none⟩) 512 512, .nilIface]) ∧ RowT 5 w' g (mpage ⟨P, R, t⟩) ∧ w.heap.size ≤ g ∧ Below w.heap.size w w') := fun w h => encode_ok ⟨P, R, t⟩ w HM.out ht h
  have HPL := hide (mpage_len ⟨P, R, t⟩)
  have HEV : Hid (EnvM (A 0) (A 1) w) := ⟨(HE.out.1 0 (by decide)).1, (HE.out.1 1 (by decide)).1, HTB.out⟩
  clear hm hb1 hbn HX HB
  go_wp2_with fail
  generalize w1.alloc (.cells #[.int .i64 P, .int .i64 R, .int .u64 (t : Int)] 31) = W1 at *
  generalize w1.heap.size = qb at *
  refine (HEN.out _ (HTB.out.below HB1.out)).mono ?_
  rintro e w2 ⟨gp, rfl, hr2, hg, hb2⟩
  have HR2 := hide hr2
  have HB2 := hide (Below.next HB1.out hb2)
  have HX2 := hide (HX1.out.below hb2)
  have HQ2 := hide (HQ1.out.below hb2)
  have HGP : Hid (qb < gp ∧ w.heap.size < gp) := ⟨Nat.lt_of_lt_of_le HQ1.out.1 hg, Nat.lt_of_lt_of_le HX1.out.1 hg⟩
  have c3 : w2.cell? ⟨w.heap.size, 3, none⟩ = some (.int .i64 at') := HX2.out.2 3 (by simp)
  clear hr2 hg hb2 HX1 HB1 HQ1
  go_wp2_with fail
  refine (HPK.out _).mono ?_
  rintro e w2' ⟨at0, rfl, hpk, rfl⟩
  have hat : at0 < 512 := by have := hpk.2 (by decide); omega
  clear hpk c3
  go_upto_block 0 with fail
  go_cut [7] (fun u7 wx => ∃ (q : List UInt8) (j T : Nat) (cb : Bool), u7 = .bool cb ∧ (cb = true ↔ T ≠ 0) ∧ RowT 5 wx gp q ∧ q.length = 512 ∧ leNat q = leNat (mpage ⟨P, R, t⟩) ^^^ (2 ^ (8 * at0) * T) ∧ T < 2 ^ (8 * j) ∧ j ≤ 4 ∧ Placed at0 j ∧ Sole gp w2 wx)
  case first =>
    go_wp2_with fail
    go_loopw [7, 8] (fun u7 u8 wr => ∃ (q : List UInt8) (j T : Nat) (cb : Bool), u8 = .int .i64 j ∧ u7 = .bool cb ∧ (cb = true ↔ T ≠ 0) ∧ RowT 5 wr gp q ∧ q.length = 512 ∧ leNat q = leNat (mpage ⟨P, R, t⟩) ^^^ (2 ^ (8 * at0) * T) ∧ T < 2 ^ (8 * j) ∧ j ≤ 4 ∧ Placed at0 j ∧ Sole gp w2 wr) (fun _ u8 _ => 4 - (intOf u8).toNat)
    case atStart => exact ⟨mpage ⟨P, R, t⟩, 0, 0, false, rfl, rfl, by simp, HR2.out, HPL.out, by simp, by simp, by omega, ⟨by omega, by omega⟩, Sole.refl _ _⟩
    case round =>
      obtain ⟨q, j, T, cb, rfl, rfl, hcb, hq, hql, hle, hT, hj, hpl, hso⟩ := hrel
      have HQ := hide hq
      have HQL := hide hql
      have HLE := hide hle
      have HTT := hide hT
      have HCB := hide hcb
      have HPLC := hide hpl
      have HSO := hide hso
      have hpl1 := hpl.1
      clear hq hql hle hT hcb hpl hso
      by_cases hlt : j < 4
      · by_cases hend : at0 + j < 512
        · obtain ⟨b, hb⟩ : ∃ b : UInt8, w2.cell? ⟨w.heap.size, 4 + j, none⟩ = some (.int .u8 (b.toNat : Int)) := by
            have h0 : j = 0 ∨ j = 1 ∨ j = 2 ∨ j = 3 := by omega
            rcases h0 with rfl | rfl | rfl | rfl
            · exact ⟨b0, HX2.out.2 4 (by simp)⟩
            · exact ⟨b1, HX2.out.2 5 (by simp)⟩
            · exact ⟨b2, HX2.out.2 6 (by simp)⟩
            · exact ⟨b3, HX2.out.2 7 (by simp)⟩
          have hcx : wr.cell? ⟨w.heap.size, 4 + j, none⟩ = some (.int .u8 (b.toNat : Int)) := HSO.out.cell hb (by have := HGP.out.2; show w.heap.size ≠ gp; omega)
          have hin : at0 + j < q.length := by rw [HQL.out]; exact hend
          have hcell : wr.cell? ⟨gp, at0 + j, none⟩ = some (.int .u8 (q[at0 + j].toNat : Int)) := HQ.out.cell _ hin
          have hfr : wr.frozen? ⟨gp, at0 + j, none⟩ = false := HQ.out.frozen _
          have e1 := xor_u8c q[at0 + j] b
          have HR : Hid (RowT 5 (wr.setCell ⟨gp, at0 + j, none⟩ (.int .u8 ((q[at0 + j] ^^^ b).toNat : Int))) gp (q.set (at0 + j) (q[at0 + j] ^^^ b))) := HQ.out.set _ _
          have HLE2 : Hid (leNat (q.set (at0 + j) (q[at0 + j] ^^^ b)) = leNat (mpage ⟨P, R, t⟩) ^^^ (2 ^ (8 * at0) * (T ^^^ (2 ^ (8 * j) * b.toNat)))) := by
            show leNat _ = _
            rw [leNat_setx q (at0 + j) hin b, HLE.out, pow_xor, Nat.xor_assoc, ← Nat.mul_assoc, ← Nat.pow_add, Nat.mul_add]
          have HMO := hide (burst_more T j b.toNat HTT.out (UInt8.toNat_lt b))
          have HSO2 : Hid (Sole gp w2 (wr.setCell ⟨gp, at0 + j, none⟩ (.int .u8 ((q[at0 + j] ^^^ b).toNat : Int)))) := HSO.out.trans (Sole.set gp _ wr _)
          obtain ⟨d, hd⟩ : ∃ d : UInt8, d = q[at0 + j] ^^^ b := ⟨_, rfl⟩
          rw [← hd] at e1 HR HLE2 HSO2
          obtain ⟨c0, hc0⟩ : ∃ c0 : Nat, c0 = q[at0 + j].toNat := ⟨_, rfl⟩
          rw [← hc0] at e1 hcell
          obtain ⟨x0, hx0⟩ : ∃ x0 : Nat, x0 = b.toNat := ⟨_, rfl⟩
          rw [← hx0] at e1 hcx HMO HLE2
          have HXL : Hid (x0 < 256) := by rw [hx0]; exact UInt8.toNat_lt b
          clear hd hc0 hx0 hb hin
          by_cases ha : at0 < 24
          · have i1 : (at0 : Int) < 24 := by omega
            by_cases hc : at0 + j < 24
            · cases cb with
              | true =>
                go_wp2_with fail
                go_region
                go_wp2_with fail
                go_roundw
                case rel => exact ⟨q.set (at0 + j) d, j + 1, T ^^^ (2 ^ (8 * j) * x0), true, by go_num, rfl, by have h := HMO.out.2; have h' := HCB.out; simp at h'; simp; omega, HR.out, by rw [List.length_set]; exact HQL.out, HLE2.out, HMO.out.1, by omega, ⟨by omega, by omega⟩, ⟨HSO2.out.os, HSO2.out.tape, HSO2.out.output, HSO2.out.size, HSO2.out.block⟩⟩
                case measure => simp [intOf]; omega
              | false =>
                go_wp2_with fail
                go_region
                go_wp2_with fail
                go_roundw
                case rel => exact ⟨q.set (at0 + j) d, j + 1, T ^^^ (2 ^ (8 * j) * x0), _, by go_num, rfl, by have h := HMO.out.2; have h' := HCB.out; simp at h'; simp; omega, HR.out, by rw [List.length_set]; exact HQL.out, HLE2.out, HMO.out.1, by omega, ⟨by omega, by omega⟩, ⟨HSO2.out.os, HSO2.out.tape, HSO2.out.output, HSO2.out.size, HSO2.out.block⟩⟩
                case measure => simp [intOf]; omega
            · have i2 : (24 : Int) ≤ (at0 : Int) + (j : Int) := by omega
              have i3 : (at0 : Int) + (j : Int) < 28 := by omega
              go_wp2_with fail
              go_meet
              case rel => exact ⟨q, j, T, cb, rfl, HCB.out, HQ.out, HQL.out, HLE.out, HTT.out, by omega, HPLC.out, HSO.out⟩
          · have i1 : (24 : Int) ≤ (at0 : Int) := by omega
            have i2 : (24 : Int) ≤ (at0 : Int) + (j : Int) := by omega
            by_cases ha2 : at0 < 28
            · have i3 : (at0 : Int) < 28 := by omega
              by_cases hc : at0 + j < 28
              · have i4 : (at0 : Int) + (j : Int) < 28 := by omega
                clear hc ha2 ha
                cases cb with
                  | true =>
                    go_wp2_with fail
                    go_region
                    go_wp2_with fail
                    go_roundw
                    case rel => exact ⟨q.set (at0 + j) d, j + 1, T ^^^ (2 ^ (8 * j) * x0), true, by go_num, rfl, by have h := HMO.out.2; have h' := HCB.out; simp at h'; simp; omega, HR.out, by rw [List.length_set]; exact HQL.out, HLE2.out, HMO.out.1, by omega, ⟨by omega, by omega⟩, ⟨HSO2.out.os, HSO2.out.tape, HSO2.out.output, HSO2.out.size, HSO2.out.block⟩⟩
                    case measure => simp [intOf]; omega
                  | false =>
                    go_wp2_with fail
                    go_region
                    go_wp2_with fail
                    go_roundw
                    case rel => exact ⟨q.set (at0 + j) d, j + 1, T ^^^ (2 ^ (8 * j) * x0), _, by go_num, rfl, by have h := HMO.out.2; have h' := HCB.out; simp at h'; simp; omega, HR.out, by rw [List.length_set]; exact HQL.out, HLE2.out, HMO.out.1, by omega, ⟨by omega, by omega⟩, ⟨HSO2.out.os, HSO2.out.tape, HSO2.out.output, HSO2.out.size, HSO2.out.block⟩⟩
                    case measure => simp [intOf]; omega
              · have i4 : decide ((at0 : Int) + (j : Int) < 28) = false := decide_eq_false (by omega)
                clear hc ha2 ha
                go_wp2_with fail
                go_meet
                case rel => exact ⟨q, j, T, cb, rfl, HCB.out, HQ.out, HQL.out, HLE.out, HTT.out, by omega, HPLC.out, HSO.out⟩
            · have i3 : decide ((at0 : Int) < 28) = false := decide_eq_false (by omega)
              have i4 : decide ((at0 : Int) + (j : Int) < 28) = false := decide_eq_false (by omega)
              have h28 : 28 ≤ at0 := by omega
              have H28 := hide h28
              clear ha2 ha h28
              cases cb with
              | true =>
                go_wp2_with fail
                go_region
                go_wp2_with fail
                go_roundw
                case rel => exact ⟨q.set (at0 + j) d, j + 1, T ^^^ (2 ^ (8 * j) * x0), true, by go_num, rfl, by have h := HMO.out.2; have h' := HCB.out; simp at h'; simp; omega, HR.out, by rw [List.length_set]; exact HQL.out, HLE2.out, HMO.out.1, by omega, ⟨by omega, .inr (.inr H28.out)⟩, ⟨HSO2.out.os, HSO2.out.tape, HSO2.out.output, HSO2.out.size, HSO2.out.block⟩⟩
                case measure => simp [intOf]; omega
              | false =>
                go_wp2_with fail
                go_region
                go_wp2_with fail
                go_roundw
                case rel => exact ⟨q.set (at0 + j) d, j + 1, T ^^^ (2 ^ (8 * j) * x0), _, by go_num, rfl, by have h := HMO.out.2; have h' := HCB.out; simp at h'; simp; omega, HR.out, by rw [List.length_set]; exact HQL.out, HLE2.out, HMO.out.1, by omega, ⟨by omega, .inr (.inr H28.out)⟩, ⟨HSO2.out.os, HSO2.out.tape, HSO2.out.output, HSO2.out.size, HSO2.out.block⟩⟩
                case measure => simp [intOf]; omega
        · go_wp2_with fail
          go_meet
          case rel => exact ⟨q, j, T, cb, rfl, HCB.out, HQ.out, HQL.out, HLE.out, HTT.out, by omega, HPLC.out, HSO.out⟩
      · go_wp2_with fail
        go_meet
        case rel => exact ⟨q, j, T, cb, rfl, HCB.out, HQ.out, HQL.out, HLE.out, HTT.out, by omega, HPLC.out, HSO.out⟩
  case rest =>
    obtain ⟨q, j, T, cb, rfl, hcb, hq, hql, hle, hT, hj, hpl, hso⟩ := hcut
    have HQ := hide hq
    have HB3 := hide (hso.below HB2.out (Nat.le_of_lt HGP.out.2))
    have HQ3 := hide (boxed_sole HQ2.out hso (by have := HGP.out.1; omega))
    have HDC : Hid (∀ w (s : Int), RowT 5 w gp q → EnvM (A 0) (A 1) w → Calls Tryd.prog 19 #[.slice (some ⟨gp, 0, none⟩) 512 512, .int .i64 P, .int .i64 s] w fun e w' => e = .returned (.tuple (decV (A 0) (A 1) q P s)) ∧ Below w.heap.size w w') := fun w s h hE => decode_any (A 0) (A 1) _ _ P s w (rda_row h hql 512) (by rw [hql]; decide) hE.tab hE.arg hE.text
    obtain ⟨S, hS⟩ : ∃ S, (t : Int) % 2 = S := ⟨_, rfl⟩
    have hS0 : 0 ≤ S := by omega
    have hS1 : S < 2 := by omega
    have HS : Hid (S = ((t % 2 : Nat) : Int)) := by show _ = _; omega
    by_cases h0 : T = 0
    · obtain rfl : cb = false := by
        cases cb with
        | false => rfl
        | true => exact absurd h0 (hcb.1 rfl)
      subst h0
      have hqp : q = mpage ⟨P, R, t⟩ := unmarred q _ _ (by rw [hql, HPL.out]) hle
      have HD1 : Hid (decV (A 0) (A 1) q P S = #[.agg #[.int .i64 P, .int .i64 R, .int .u64 (t : Int)], .nilIface]) := by
        show _ = _
        rw [HS.out, hqp]; exact decV_own _ _ ⟨P, R, t⟩ HM.out ht
      have HD2 : Hid (∀ s : Int, 0 ≤ s → s < 2 → s ≠ S → decV (A 0) (A 1) q P s = #[.agg #[.int .i64 0, .int .i64 0, .int .u64 0], .iface 108 (.pointer (some (A 1)))]) := fun s h1 h2 h3 => by
        rw [hqp]; exact decV_other _ _ ⟨P, R, t⟩ HM.out ht P s HM.out.1 ⟨h1, h2⟩ (by rintro ⟨_, h⟩; have := HS.out; simp only at h; omega)
      clear hqp hcb hq hql hle hT hj hpl hso HR2 HX2 HQ2 HB2
      go_wp2_with fail
      go_loopw [10] (fun u10 wr => ∃ s : Nat, s ≤ 2 ∧ u10 = .int .i64 s ∧ Below w.heap.size w wr ∧ RowT 5 wr gp q ∧ Boxed qb [.int .i64 P, .int .i64 R, .int .u64 (t : Int)] wr) (fun u10 _ => 2 - (intOf u10).toNat)
      case atStart => exact ⟨0, by omega, rfl, HB3.out, HQ.out, HQ3.out⟩
      case round =>
        obtain ⟨s, hs, rfl, hbr, hqr, hxr⟩ := hrel
        by_cases hlt : s < 2
        · have HBR := hide hbr
          have HQ4 := hide hxr
          have HQR := hide hqr
          have c0 := HQ4.out.2 0 (by simp)
          simp only [List.getElem_cons_zero] at c0
          clear hbr hqr hxr
          by_cases hsS : (s : Int) = S
          · subst hsS
            have hss : ((s : Int) == (s : Int)) = true := by simp
            have HD3 : Hid (decV (A 0) (A 1) q P (s : Int) = #[.agg #[.int .i64 P, .int .i64 R, .int .u64 (t : Int)], .nilIface]) := HD1.out
            go_wp2_with fail
            refine (HDC.out _ (s : Int) HQR.out (HEV.out.below HBR.out)).mono ?_
            rintro e w5 ⟨rfl, hb5⟩
            rw [HD3.out]
            have hb6 := Below.next hb5 (below_new w5 (.cells #[.int .i64 P, .int .i64 R, .int .u64 (t : Int)] 31))
            have c2 := (HQ4.out.below hb6).2 2 (by simp)
            simp only [List.getElem_cons_zero, List.getElem_cons_succ] at c2
            have HB6 := hide (And.intro (Below.next HBR.out hb6) (And.intro (HQR.out.below hb6) (HQ4.out.below hb6)))
            clear hb5 hb6 c0
            go_wp2_with fail
            generalize w5.alloc (.cells #[.int .i64 P, .int .i64 R, .int .u64 (t : Int)] 31) = W6 at *
            have HB7 := hide (drewn_three HB6.out.1 HB6.out.2.1 HB6.out.2.2)
            go_quiet (fail)
            go_wp2_with fail
            go_roundw
            case rel => exact ⟨s + 1, by omega, by go_num, HB7.out _⟩
            case measure => simp [intOf]; omega
          · have hss : ((s : Int) == S) = false := beq_eq_false_iff_ne.2 hsS
            have HD3 := hide (HD2.out (s : Int) (by omega) (by omega) hsS)
            go_wp2_with fail
            refine (HDC.out _ (s : Int) HQR.out (HEV.out.below HBR.out)).mono ?_
            rintro e w5 ⟨rfl, hb5⟩
            rw [HD3.out]
            have hb6 := Below.next hb5 (below_new w5 (.cells #[.int .i64 0, .int .i64 0, .int .u64 0] 31))
            have c2 := (HQ4.out.below hb6).2 2 (by simp)
            simp only [List.getElem_cons_zero, List.getElem_cons_succ] at c2
            have HB6 := hide (And.intro (Below.next HBR.out hb6) (And.intro (HQR.out.below hb6) (HQ4.out.below hb6)))
            clear hb5 hb6 c0 hsS
            go_wp2_with fail
            generalize w5.alloc (.cells #[.int .i64 0, .int .i64 0, .int .u64 0] 31) = W6 at *
            have HB7 := hide (drewn_three HB6.out.1 HB6.out.2.1 HB6.out.2.2)
            go_quiet (fail)
            go_wp2_with fail
            go_roundw
            case rel => exact ⟨s + 1, by omega, by go_num, HB7.out _⟩
            case measure => simp [intOf]; omega
        · have HBR := hide hbr
          clear hbr hqr hxr
          go_wp2_with fail
          go_ret
          exact ⟨rfl, HBR.out⟩
    · obtain rfl : cb = true := hcb.2 h0
      have HD2 : Hid (∀ s : Int, 0 ≤ s → s < 2 → decV (A 0) (A 1) q P s = #[.agg #[.int .i64 0, .int .i64 0, .int .u64 0], .iface 108 (.pointer (some (A 1)))]) := fun s h1 h2 =>
        decV_no _ _ q P s HM.out.1 ⟨h1, h2⟩ (marred_meta ⟨P, R, t⟩ q at0 j T P s hql hle hT hj h0 HM.out ht hpl)
      have mne : ∀ w, (binOp .neq 31 (.agg #[.int .i64 0, .int .i64 0, .int .u64 0]) (.agg #[.int .i64 0, .int .i64 0, .int .u64 0])).run Tryd.prog w = .ok (.bool false) w := fun w => mt_neq w _ _ true (mt_self w 0 0 0)
      clear hcb hq hql hle hT hj hpl hso HR2 HX2 HQ2 HB2 h0
      go_wp2_with fail
      go_loopw [10] (fun u10 wr => ∃ s : Nat, s ≤ 2 ∧ u10 = .int .i64 s ∧ Below w.heap.size w wr ∧ RowT 5 wr gp q ∧ Boxed qb [.int .i64 P, .int .i64 R, .int .u64 (t : Int)] wr) (fun u10 _ => 2 - (intOf u10).toNat)
      case atStart => exact ⟨0, by omega, rfl, HB3.out, HQ.out, HQ3.out⟩
      case round =>
        obtain ⟨s, hs, rfl, hbr, hqr, hxr⟩ := hrel
        by_cases hlt : s < 2
        · have HBR := hide hbr
          have HQ4 := hide hxr
          have HQR := hide hqr
          have c0 := HQ4.out.2 0 (by simp)
          simp only [List.getElem_cons_zero] at c0
          have HD3 := hide (HD2.out (s : Int) (by omega) (by omega))
          clear hbr hqr hxr
          go_wp2_with fail
          refine (HDC.out _ (s : Int) HQR.out (HEV.out.below HBR.out)).mono ?_
          rintro e w5 ⟨rfl, hb5⟩
          rw [HD3.out]
          have hb6 := Below.next hb5 (below_new w5 (.cells #[.int .i64 0, .int .i64 0, .int .u64 0] 31))
          have HB6 := hide (And.intro (Below.next HBR.out hb6) (And.intro (HQR.out.below hb6) (HQ4.out.below hb6)))
          have hz := boxed_new w5 #[.int .i64 0, .int .i64 0, .int .u64 0] 31
          have z0 := hz.2 0 (by simp)
          have z1 := hz.2 1 (by simp)
          have z2 := hz.2 2 (by simp)
          simp only [List.getElem_cons_zero, List.getElem_cons_succ] at z0 z1 z2
          clear hb5 hb6 c0 hz
          go_wp2_with fail
          generalize w5.alloc (.cells #[.int .i64 0, .int .i64 0, .int .u64 0] 31) = W6 at *
          refine (num_text A _ (HE.out.below HB6.out.1)).mono ?_
          rintro e w' ⟨rfl, rfl⟩
          have HB7 := hide (drewn_three HB6.out.1 HB6.out.2.1 HB6.out.2.2)
          go_wp2_with fail
          go_quiet (fail)
          go_wp2_with fail
          go_roundw
          case rel => exact ⟨s + 1, by omega, by go_num, HB7.out _⟩
          case measure => simp [intOf]; omega
        · have HBR := hide hbr
          clear hbr hqr hxr
          go_wp2_with fail
          go_ret
          exact ⟨rfl, HBR.out⟩

end Go.Proofs.YtlopimdnjookeaaDoor
