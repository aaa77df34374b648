import Derived.Test.YthnidlhcpelomaaDoorDAp1
import Derived.Test.YthnidlhcpelomaaDoorPS
import Derived.Test.YthnidlhcpelomaaDoorRT
import Derived.Deep.RegionHeld3
import Derived.BigQuiet
namespace Go.Proofs.YthnidlhcpelomaaDoor
open Go.RowKit
attribute [local go_sem ↓] Go.wp_at_zero Go.wp_at_succ

def mB (i : Nat) : ByteArray := ⟨#[109, UInt8.ofNat i]⟩
theorem mB_conv (w : World) (i : Nat) (hi : i < 200) : (convert 66 9 (.slice (some ⟨w.heap.size, 0, none⟩) 2 2)).run Tryd.prog (w.alloc (.cells #[.int .u8 109, .int .u8 (i : Int)] 5)).drew = .ok (.string (mB i)) (w.alloc (.cells #[.int .u8 109, .int .u8 (i : Int)] 5)).drew := by
  have hl : (#[.int .u8 109, .int .u8 (i : Int)] : Array Value) = (u8s [109, UInt8.ofNat i]).toArray := by
    have : (UInt8.ofNat i).toNat = i := by simp; omega
    simp [u8s, this]
  rw [hl]
  have hr : RowT 5 (w.alloc (.cells (u8s [109, UInt8.ofNat i]).toArray 5)).drew w.heap.size [109, UInt8.ofNat i] := rowT_new _ _ _
  exact run_str _ _ [109, UInt8.ofNat i] ⟨some ⟨w.heap.size, 0, none⟩, 2, rfl, fun j hj => ⟨w.heap.size, 0, rfl, by rw [Nat.zero_add]; exact hr.cell j hj⟩⟩ (by simp)
theorem ChO.spot {w : World} {base g n cap : Nat} {l : List Ch} (h : ChO w base (.slice (some ⟨g, 0, none⟩) n cap) l) (k : Nat) (hk : k < l.length) : ChAt w g (k * 5) l[k] ∧ ∀ o, w.frozen? ⟨g, o, none⟩ = false := by
  obtain rfl := h.cnt
  obtain ⟨a', c', he, _, _, hc⟩ := h.at
  obtain ⟨g', o', ha, h1⟩ := hc k hk
  cases he
  cases ha
  rw [Nat.zero_add] at h1
  exact ⟨h1, fun o => World.ownsRow.frozenAt h o⟩
theorem ChO.some {w : World} {base : Nat} {v : Value} {l : List Ch} (h : ChO w base v l) (hl : 0 < l.length) : ∃ g c, v = .slice (some ⟨g, 0, none⟩) l.length c ∧ base ≤ g ∧ g < w.heap.size ∧ l.length ≤ c := by
  rcases h.2 with ⟨_, h0⟩ | ⟨g, cap, cur, rfl, h1, h2, h3, _⟩
  · omega
  · exact ⟨g, cap, rfl, h1, (h.blk g rfl).2, h3⟩
theorem sole_wrote (w : World) (g o : Nat) (p : Ch) : Sole g w (((((w.setCell ⟨g, o, none⟩ (.string p.1)).setCell ⟨g, o + 1, none⟩ (.bool p.2.had)).setCell ⟨g, o + 2, none⟩ (.bool p.2.has)).setCell ⟨g, o + 3, none⟩ (.string p.2.old)).setCell ⟨g, o + 4, none⟩ (.string p.2.new)) :=
  ((((Sole.set g o w _).trans (Sole.set g (o + 1) _ _)).trans (Sole.set g (o + 2) _ _)).trans (Sole.set g (o + 3) _ _)).trans (Sole.set g (o + 4) _ _)
theorem but_sole {base g n c : Nat} {l : List Ch} {w w' : World} (h : Sole g w w') (ho : ChO w base (.slice (some ⟨g, 0, none⟩) n c) l) : But base (ofT tCH) w w' :=
  ⟨h.os, h.tape, h.output, h.size, fun k o hk hno => (h.block k (Array.getElem?_eq_some_iff.1 hk).1 (fun e => by
    subst e
    obtain ⟨cs, rfl⟩ := ho.kind k o rfl hk
    exact hno ⟨(ho.blk k rfl).1, by simp [ofT, tCH]⟩)).trans hk⟩
set_option maxRecDepth 100000 in
set_option maxHeartbeats 16000000 in
theorem apart_any (base G K cap : Nat) (vs : Nat → Value) (cs : Nat → List Ch) (w : World) (hK : K ≤ 5) (hlen : ∀ j, j < K → (cs j).length ≤ 1099511627776) (hA : ApS base G K vs cs w) (hbase : base ≤ w.heap.size) :
    Calls Tryd.prog 13 #[.slice (some ⟨G, 0, none⟩) K cap] w fun e w' => e = .returned (.bool true) ∧ But base (ofT tCH) w w' := by
  have HA := hide hA
  have HL := hide hlen
  have HBASE := hide hbase
  have KI : (K : Int) ≤ 5 := by omega
  obtain ⟨Q, hQ⟩ : ∃ Q : Ending → World → Prop, Q = fun e w' => e = .returned (.bool true) ∧ But base (ofT tCH) w w' := ⟨_, rfl⟩
  rw [← hQ]
  have HQ := hide hQ
  clear hA hlen hbase hQ
  go_enter Tryd.func13, Tryd.ntmps13
  go_wp2_with fail
  go_loopw [3] (fun i wr => ∃ k : Nat, k ≤ K ∧ i = .int .i64 k ∧ ApS base G K vs (apD cs k 0) wr ∧ But base (ofT tCH) w wr) (fun i _ => K - (intOf i).toNat)
  case atStart => exact ⟨0, Nat.zero_le _, rfl, HA.out.eq (fun j _ => (apD_zero cs j).symm), But.refl _ _ _⟩
  case round =>
    obtain ⟨i, hi, rfl, hap, hbut⟩ := hrel
    have HAP := hide hap
    have HBU := hide hbut
    clear hap hbut
    by_cases hiK : i < K
    · have hiI : (i : Int) < (K : Int) := by omega
      have hi5 : i < 5 := by omega
      have i0 : (0 : Int) ≤ (i : Int) := by omega
      obtain ⟨a, c, hvi⟩ : ∃ a c, vs i = .slice a (cs i).length c := by
        obtain ⟨a, c, h⟩ := (HA.out.own i hiK).form
        exact ⟨a, c, h⟩
      obtain ⟨m, hm⟩ : ∃ m, m = (cs i).length := ⟨_, rfl⟩
      rw [← hm] at hvi
      have hmM : m ≤ 1099511627776 := by rw [hm]; exact HL.out i hiK
      have HM := hide hm
      have HVI := hide hvi
      have HIK := hide hiK
      clear hm hvi hiK
      generalize wr = W1 at *
      go_wp2_with fail
      go_loopw [4] (fun kk wr => ∃ k : Nat, k ≤ m ∧ kk = .int .i64 k ∧ ApS base G K vs (apD cs i k) wr ∧ But base (ofT tCH) w wr) (fun kk _ => m - (intOf kk).toNat)
      case atStart => exact ⟨0, Nat.zero_le _, rfl, HAP.out, HBU.out⟩
      case round =>
        clear HAP HBU
        obtain ⟨k, hk, rfl, hap, hbut⟩ := hrel
        have hci : wr.cell? ⟨G, i, none⟩ = some (.slice a m c) := by rw [← HVI.out]; exact hap.row i HIK.out
        by_cases hkm : k < m
        · have hll : (apD cs i k i).length = m := by rw [HM.out]; exact apD_len cs i k i (by rw [← HM.out]; omega)
          have ho := hap.own i HIK.out
          rw [HVI.out] at ho
          obtain ⟨g, c', he, hbg, hgw, hlc⟩ := ho.some (by omega)
          obtain ⟨rfl, -, rfl⟩ : a = some ⟨g, 0, none⟩ ∧ m = (apD cs i k i).length ∧ c = c' := by simpa using he
          obtain ⟨⟨c0, c1, c2, c3, c4⟩, hfz⟩ := ho.spot k (by omega)
          obtain ⟨x, hx⟩ : ∃ x, x = (apD cs i k i)[k]'(by omega) := ⟨_, rfl⟩
          rw [← hx] at c0 c1 c2 c3 c4
          have hne : ¬ G = g := fun e => hap.notG HIK.out (k := g) (by rw [HVI.out]; rfl) e.symm
          have hne2 : ¬ g = G := fun e => hne e.symm
          have hwu : IntKind.u8.wrap (i : Int) = (i : Int) := by rw [IntKind.wrap_u8]; omega
          have hcv := mB_conv wr i (by omega)
          have hbn := below_new wr (.cells #[.int .u8 109, .int .u8 (i : Int)] 5)
          have y := cell_bel hbn hci
          have y0 := cell_bel hbn c0
          have y1 := cell_bel hbn c1
          have y2 := cell_bel hbn c2
          have y3 := cell_bel hbn c3
          have y4 := cell_bel hbn c4
          have hf2 : ∀ o, (wr.alloc (.cells #[.int .u8 109, .int .u8 (i : Int)] 5)).frozen? ⟨g, o, none⟩ = false := fun o => ((ho.below hbn).spot k (by omega)).2 o
          have z0 := hf2 (k * 5)
          have z1 := hf2 (k * 5 + 1)
          have z2 := hf2 (k * 5 + 2)
          have z3 := hf2 (k * 5 + 3)
          have z4 := hf2 (k * 5 + 4)
          have q0 := hfz (k * 5)
          have q1 := hfz (k * 5 + 1)
          have q2 := hfz (k * 5 + 2)
          have q3 := hfz (k * 5 + 3)
          have q4 := hfz (k * 5 + 4)
          have hkI : (k : Int) < (m : Int) := by omega
          have k0 : (0 : Int) ≤ (k : Int) := by omega
          have HAP := hide hap
          have HBU := hide hbut
          have HO := hide ho
          have HLL := hide hll
          clear hap hbut ho hll hbn hfz hf2 he hlc hx hgw hbg
          go_wp2_with fail
          go_region
          have hbn := below_new wr (.cells #[.int .u8 109, .int .u8 (i : Int)] 5)
          have ho2 := HO.out.below hbn
          have hw5 := ho2.wrote5 k (by have := HLL.out; omega) (markC i)
          have hs5 := sole_wrote (wr.alloc (.cells #[.int .u8 109, .int .u8 (i : Int)] 5)) g (k * 5) (markC i)
          have hb5 := but_sole hs5 ho2
          have hap5 := ((HAP.out.below hbn).one HIK.out (b := g) (by rw [HVI.out]; rfl) _ (by rw [HVI.out]; exact hw5) hs5.block).eq (fun j _ => apD_set cs i k (by have := HM.out; omega) j)
          simp only [markC, nilB] at hap5 hb5
          obtain ⟨W3, hW3⟩ : ∃ W3, (((((wr.alloc (.cells #[.int .u8 109, .int .u8 (i : Int)] 5)).setCell ⟨g, k * 5, none⟩ (.string (mB i))).setCell ⟨g, k * 5 + 1, none⟩ (.bool false)).setCell ⟨g, k * 5 + 2, none⟩ (.bool false)).setCell ⟨g, k * 5 + 3, none⟩ (.string ⟨#[]⟩)).setCell ⟨g, k * 5 + 4, none⟩ (.string ⟨#[]⟩) = W3 := ⟨_, rfl⟩
          rw [show (⟨#[109, UInt8.ofNat i]⟩ : ByteArray) = mB i from rfl, hW3] at hap5 hb5
          rw [hW3]
          have HAP3 := hide (hap5.below (below_drewN' (Below.refl W3.heap.size W3) 1))
          have HBU3 := hide ((HBU.out.trans (But.of_below hbn)).trans (hb5.trans (But.of_below (below_drewN' (Below.refl W3.heap.size W3) 1))))
          clear hbn ho2 hw5 hs5 hb5 hap5 hW3 y y0 y1 y2 y3 y4 z0 z1 z2 z3 z4 q0 q1 q2 q3 q4 c0 c1 c2 c3 c4 hcv hci HO HLL HAP HBU
          go_wp2
          go_roundw
          case rel => exact ⟨k + 1, by omega, by go_num, HAP3.out, HBU3.out⟩
          case measure => simp [intOf]; omega
        · have hkm' : k = m := by omega
          subst hkm'
          have hkI : ¬ (k : Int) < (k : Int) := by omega
          have HAP2 : Hid (ApS base G K vs (apD cs (i + 1) 0) wr) := hap.eq (fun j _ => by have := HM.out; rw [this]; exact apD_next cs i j)
          have HBU2 := hide hbut
          clear hap hbut
          go_wp2
          go_roundw
          case rel => have := HIK.out; exact ⟨i + 1, by omega, by go_num, HAP2.out, HBU2.out⟩
          case measure => have := HIK.out; simp [intOf]; omega
    · have hiK2 : i = K := by omega
      subst hiK2
      have hiI : ¬ (i : Int) < (i : Int) := by omega
      obtain ⟨F, hF⟩ : ∃ F, F = apD cs i 0 := ⟨_, rfl⟩
      rw [← hF] at HAP
      have HF : Hid (∀ j, j < i → F j = List.replicate (cs j).length (markC j)) := fun j hj => by rw [hF]; exact apD_full cs i j hj
      have HFL : Hid (∀ j, j < i → (F j).length = (cs j).length) := fun j hj => by rw [HF.out j hj]; simp
      clear hF hiK hi
      generalize wr = W0 at *
      go_wp2_with fail
      go_loopw [5, 6] (fun gv iv wr => ∃ x gs : Nat, x ≤ i ∧ iv = .int .i64 x ∧ gv = .int .i64 gs ∧ 64 * x ≤ gs ∧ gs ≤ x * 1099511627840 ∧ ApS base G i vs F wr ∧ But base (ofT tCH) w wr) (fun _ iv _ => i - (intOf iv).toNat)
      case atStart => exact ⟨0, 0, Nat.zero_le _, rfl, rfl, by omega, by omega, HAP.out, HBU.out⟩
      case round =>
        clear HAP HBU
        obtain ⟨x, gs, hx, rfl, rfl, hg1, hg2, hap, hbut⟩ := hrel
        have HAP := hide hap
        have HBU := hide hbut
        have HG12 : Hid (64 * x ≤ gs ∧ gs ≤ x * 1099511627840) := ⟨hg1, hg2⟩
        clear hg1 hg2 hbut
        by_cases hxi : x < i
        · have hxI : (x : Int) < (i : Int) := by omega
          have x0 : (0 : Int) ≤ (x : Int) := by omega
          have hci := hap.row x hxi
          obtain ⟨a, c, hvi⟩ : ∃ a c, vs x = .slice a (cs x).length c := by
            obtain ⟨a, c, h⟩ := (hap.own x hxi).form
            rw [HFL.out x hxi] at h
            exact ⟨a, c, h⟩
          obtain ⟨m, hm⟩ : ∃ m, m = (cs x).length := ⟨_, rfl⟩
          rw [← hm] at hvi
          rw [hvi] at hci
          have hmM : m ≤ 1099511627776 := by rw [hm]; exact HL.out x hxi
          have HM : Hid ((F x).length = m) := by show _ = _; rw [HFL.out x hxi, hm]
          have HGI := hide (GrC.init (x := moreC) hap hxi hvi)
          have HXI := hide hxi
          have hbw : base ≤ wr.heap.size := by have := HBASE.out; have := HBU.out.size; omega
          have HBW := hide hbw
          clear hap hm hvi hxi hbw
          generalize wr = W1 at *
          go_wp2_with fail
          clear hci
          go_loopw [7, 8] (fun mv kv wr => ∃ (q c' : Nat) (a' : Option Addr), q ≤ 64 ∧ kv = .int .i64 q ∧ mv = .slice a' (m + q) c' ∧ GrC base G i vs F W1 wr x m q a' c' moreC) (fun _ kv _ => 64 - (intOf kv).toNat)
          case atStart => exact ⟨0, c, a, Nat.zero_le _, rfl, rfl, HGI.out⟩
          case round =>
            clear HGI
            obtain ⟨q, c', a', hq, rfl, rfl, hgr⟩ := hrel
            by_cases hq64 : q < 64
            · have hqI : (q : Int) < 64 := by omega
              obtain ⟨a2, c2, w2, hrun, hgr2⟩ := hgr.step 44 HXI.out HM.out (by omega) (by have := HBW.out; have := hgr.but.size; omega)
              have hrun' : (Builtin.append_ #[23, 23] 23 #[.slice a' (m + q) c', .slice (some ⟨wr.heap.size, 0, none⟩) 1 1]).run Tryd.prog (wr.alloc (.cells #[.string ⟨#[109, 111, 114, 101]⟩, .bool false, .bool false, .string ⟨#[]⟩, .string ⟨#[]⟩] 44)) = .ok (.slice a2 (m + q + 1) c2) w2 := hrun
              have HRUN := hide hrun'
              have HGR := hide hgr2
              have HQ6 := hide hq64
              clear hrun hrun' hgr hgr2 hq64
              go_wp2_with (first | (at_builtin; refine wpList_append_run 23 rfl _ _ rfl rfl _ _ rfl rfl _ _ HRUN.out ?_))
              go_wp2
              go_roundw
              case rel => have := HQ6.out; exact ⟨q + 1, c2, a2, by omega, by go_num, rfl, HGR.out⟩
              case measure => have := HQ6.out; simp [intOf]; omega
            · have hq2 : q = 64 := by omega
              subst hq2
              have hqI : ¬ ((64 : Nat) : Int) < 64 := by omega
              have HAP2 := hide hgr.aps
              have HBU2 := hide (HBU.out.trans hgr.but)
              have hwr : IntKind.i64.wrap ((gs : Int) + ((m + 64 : Nat) : Int)) = ((gs + (m + 64) : Nat) : Int) := by
                have := HG12.out; have := HXI.out; rw [IntKind.wrap_i64]; omega
              have hwr2 : wrap64 ((gs : Int) + ((m + 64 : Nat) : Int)) = ((gs + (m + 64) : Nat) : Int) := by
                have := HG12.out; have := HXI.out; unfold wrap64; omega
              have HGN : Hid (64 * (x + 1) ≤ gs + (m + 64) ∧ gs + (m + 64) ≤ (x + 1) * 1099511627840) := by have := HG12.out; exact ⟨by omega, by omega⟩
              generalize hmm : m + 64 = mm at hwr hwr2 HGN ⊢
              generalize gs + mm = gs2 at hwr hwr2 HGN ⊢
              clear hgr hmm
              go_wp2
              go_roundw
              case rel => have := HXI.out; exact ⟨x + 1, gs2, by omega, by go_num, rfl, HGN.out.1, HGN.out.2, HAP2.out, HBU2.out⟩
              case measure => have := HXI.out; simp [intOf]; omega
        · have hxi2 : x = i := by omega
          subst hxi2
          have hxI : ¬ (x : Int) < (x : Int) := by omega
          clear hap hxi hx
          generalize wr = W1 at *
          go_wp2_with fail
          go_loopw [9] (fun iv wr => ∃ y : Nat, y ≤ x ∧ iv = .int .i64 y ∧ ApS base G x vs F wr ∧ But base (ofT tCH) w wr) (fun iv _ => x - (intOf iv).toNat)
          case atStart => exact ⟨0, Nat.zero_le _, rfl, HAP.out, HBU.out⟩
          case round =>
            clear HAP HBU
            obtain ⟨y, hy, rfl, hap, hbut⟩ := hrel
            have HAP := hide hap
            have HBU := hide hbut
            clear hap hbut
            by_cases hyx : y < x
            · have hyI : (y : Int) < (x : Int) := by omega
              have y00 : (0 : Int) ≤ (y : Int) := by omega
              have hy5 : y < 5 := by omega
              obtain ⟨a, c, hvi⟩ : ∃ a c, vs y = .slice a (cs y).length c := by
                obtain ⟨a, c, h⟩ := (HAP.out.own y hyx).form
                rw [HFL.out y hyx] at h
                exact ⟨a, c, h⟩
              obtain ⟨m, hm⟩ : ∃ m, m = (cs y).length := ⟨_, rfl⟩
              rw [← hm] at hvi
              have hmM : m ≤ 1099511627776 := by rw [hm]; exact HL.out y hyx
              have HM : Hid (F y = List.replicate m (markC y)) := by show _ = _; rw [HF.out y hyx, hm]
              have HVI := hide hvi
              have HYX := hide hyx
              clear hm hvi hyx
              generalize wr = W2 at *
              go_wp2_with fail
              go_loopw [10] (fun kk wr => ∃ k : Nat, k ≤ m ∧ kk = .int .i64 k ∧ ApS base G x vs F wr ∧ But base (ofT tCH) w wr) (fun kk _ => m - (intOf kk).toNat)
              case atStart => exact ⟨0, Nat.zero_le _, rfl, HAP.out, HBU.out⟩
              case round =>
                clear HAP HBU
                obtain ⟨k, hk, rfl, hap, hbut⟩ := hrel
                have hci : wr.cell? ⟨G, y, none⟩ = some (.slice a m c) := by rw [← HVI.out]; exact hap.row y HYX.out
                by_cases hkm : k < m
                · have ho := hap.own y HYX.out
                  rw [HVI.out, HM.out] at ho
                  obtain ⟨g, c', he, hbg, hgw, hlc⟩ := ho.some (by simp; omega)
                  obtain ⟨rfl, -, rfl⟩ : a = some ⟨g, 0, none⟩ ∧ m = (List.replicate m (markC y)).length ∧ c = c' := by simpa using he
                  obtain ⟨⟨c0, c1, c2, c3, c4⟩, _⟩ := ho.spot k (by simp; omega)
                  simp only [List.getElem_replicate, markC, nilB] at c0 c1 c2 c3 c4
                  rw [show (⟨#[109, UInt8.ofNat y]⟩ : ByteArray) = mB y from rfl] at c0
                  have hwu : IntKind.u8.wrap (y : Int) = (y : Int) := by rw [IntKind.wrap_u8]; omega
                  have hcv := mB_conv wr y (by omega)
                  have hbn := below_new wr (.cells #[.int .u8 109, .int .u8 (y : Int)] 5)
                  have yy := cell_bel hbn hci
                  have y0 := cell_bel hbn c0
                  have y1 := cell_bel hbn c1
                  have y2 := cell_bel hbn c2
                  have y3 := cell_bel hbn c3
                  have y4 := cell_bel hbn c4
                  have hkI : (k : Int) < (m : Int) := by omega
                  have k0 : (0 : Int) ≤ (k : Int) := by omega
                  have hns := fun W => ch_nself W (mB y) ⟨false, false, ⟨#[]⟩, ⟨#[]⟩⟩
                  simp only [chA] at hns
                  have HAP2 := hide (hap.below (below_drewN' hbn 1))
                  have HBU2 := hide (hbut.trans (But.of_below (below_drewN' hbn 1)))
                  clear hap hbut ho hbn he hlc hgw hbg
                  go_wp2_with fail
                  go_region
                  clear yy y0 y1 y2 y3 y4 c0 c1 c2 c3 c4 hcv hci hns
                  go_wp2
                  go_roundw
                  case rel => exact ⟨k + 1, by omega, by go_num, HAP2.out, HBU2.out⟩
                  case measure => simp [intOf]; omega
                · have hkI : ¬ (k : Int) < (m : Int) := by omega
                  have HAP2 := hide hap
                  have HBU2 := hide hbut
                  clear hap hbut
                  go_wp2
                  go_roundw
                  case rel => have := HYX.out; exact ⟨y + 1, by omega, by go_num, HAP2.out, HBU2.out⟩
                  case measure => have := HYX.out; simp [intOf]; omega
            · have hyI : ¬ (y : Int) < (x : Int) := by omega
              have hw64 : IntKind.i64.wrap (64 * (x : Int)) = ((64 * x : Nat) : Int) := by rw [IntKind.wrap_i64]; omega
              have hw64' : wrap64 (64 * (x : Int)) = ((64 * x : Nat) : Int) := by unfold wrap64; omega
              have hge : (gs : Int) ≥ ((64 * x : Nat) : Int) := by have := HG12.out; omega
              have hge2 : ((64 * x : Nat) : Int) ≤ (gs : Int) := hge
              have hge3 : 64 * x ≤ gs := HG12.out.1
              generalize 64 * x = x64 at *
              go_wp2
              rw [HQ.out]
              exact ⟨rfl, HBU.out⟩
end Go.Proofs.YthnidlhcpelomaaDoor
