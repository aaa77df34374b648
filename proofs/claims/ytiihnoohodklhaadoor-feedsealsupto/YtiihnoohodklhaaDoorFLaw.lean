import Derived.Test.YtiihnoohodklhaaDoorFLaw0
namespace Go.Proofs.YtiihnoohodklhaaDoor
open Go.RowKit
attribute [local go_sem ↓] Go.wp_at_zero Go.wp_at_succ

set_option maxRecDepth 100000 in
set_option maxHeartbeats 64000000 in
theorem seals_any (A : Nat → Addr) (fr tt : Nat) (vL : Value) (l : List Ch) (w : World) (hE : ErrsG 13 gAll A w) (ht : Tab w) (hfr : fr < 18446744073709551616) (htt : tt < 18446744073709551616) (hm : l.length ≤ 1048576)
    (hs : ∀ c ∈ l, c.1.size ≤ 1048576 ∧ c.2.old.size ≤ 1048576 ∧ c.2.new.size ≤ 1048575) (hr : ChR w vL l) :
    Calls Tryd.prog 3 #[.agg #[.int .u64 (fr : Int), .int .u64 (tt : Int), vL]] w fun e w' => e = .returned (.bool true) ∧ Below w.heap.size w w' := by
  obtain ⟨W1, hW1⟩ : ∃ W1, w.alloc (.cells #[.int .u64 (fr : Int), .int .u64 (tt : Int), vL] 25) = W1 := ⟨_, rfl⟩
  have x1 : RowAt W1 w.heap.size #[.int .u64 (fr : Int), .int .u64 (tt : Int), vL] 25 := by rw [← hW1]; exact RowAt.new w _ _
  have hb1 : Below w.heap.size w W1 := by rw [← hW1]; exact below_new w _
  have hz1 : W1.heap.size = w.heap.size + 1 := by rw [← hW1]; simp
  have hs1 : ∀ c ∈ l, c.1.size ≤ 1048576 ∧ c.2.old.size ≤ 1048576 ∧ c.2.new.size ≤ 1048576 := fun c hc => by have := hs c hc; omega
  have hsm : SmallL l := fun c hc => by have := hs c hc; exact ⟨by omega, by omega, by omega⟩
  have HLC := hide (lch_any vL l W1 (by omega) (hr.below hb1))
  have HSP := hide (fun W v (hb : Below w.heap.size w W) (h : ChR W v l) => fseal_any A fr tt v l W (hE.keep hb) hfr htt (by omega) hsm h (ht.below hb))
  have HSR := hide (fun W v (h : ChR W v l) => rseal_any fr tt v l W hfr htt hm hs1 h)
  have HSA := hide (fun W v1 v2 (h1 : ChR W v1 (sL fr tt l)) (h2 : ChR W v2 (sL fr tt l)) => sameb_same (sN (sOk fr tt l) fr) (sN (sOk fr tt l) tt) (sN (sOk fr tt l) (crcV (batB fr tt l))) v1 v2 (sL fr tt l) W (by unfold sL; split <;> first | omega | simp) h1 h2)
  have HNU := hide (fun W (hb : Below w.heap.size w W) => num_fk A fr tt l W (hE.keep hb))
  have HSL : Hid ((sL fr tt l).length ≤ 1048576) := by show _ ≤ _; unfold sL; split <;> first | omega | simp
  have HR := hide hr
  have HB1 := hide hb1
  have HX1 := hide x1
  have HW1 := hide hW1
  have HZ1 := hide hz1
  obtain ⟨aL, cL, hvL⟩ := hr.form
  obtain ⟨n, hn⟩ : ∃ n, n = l.length := ⟨_, rfl⟩
  rw [← hn] at hm HLC hvL
  have HN := hide hn
  have HE := hide hE
  have HT := hide ht
  have HS := hide hs
  have HFT : Hid (fr < 18446744073709551616 ∧ tt < 18446744073709551616) := ⟨hfr, htt⟩
  obtain ⟨F, hF⟩ : ∃ F, F = sN (sOk fr tt l) fr := ⟨_, rfl⟩
  obtain ⟨T, hT⟩ : ∃ T, T = sN (sOk fr tt l) tt := ⟨_, rfl⟩
  obtain ⟨S, hS⟩ : ∃ S, S = sN (sOk fr tt l) (crcV (batB fr tt l)) := ⟨_, rfl⟩
  obtain ⟨sl, hsl⟩ : ∃ sl, sl = sL fr tt l := ⟨_, rfl⟩
  unfold RSealPost at HSR
  rw [← hF, ← hT, ← hS, ← hsl] at HSP HSR HSA
  rw [← hsl] at HSL
  clear hE ht hfr htt hs hr x1 hb1 hW1 hz1 hs1 hsm hn hF hT hS hsl
  subst hvL
  obtain ⟨Q, hQ⟩ : ∃ Q : Ending → World → Prop, Q = fun e w' => e = .returned (.bool true) ∧ Below w.heap.size w w' := ⟨_, rfl⟩
  rw [← hQ]
  have HQ := hide hQ
  clear hQ
  have c2 := HX1.out.cell 2 (by simp)
  go_enter Tryd.func3, Tryd.ntmps3
  go_wp2_with fail
  rw [HW1.out]
  go_wp2_with fail
  refine HLC.out.mono ?_
  rintro e W2 ⟨g, c, rfl, ho2, hc2, hb2⟩
  have HA2 : Hid (Sa w W2 fr tt (.slice aL n cL) g n c l) := ⟨Below.next HB1.out hb2, HX1.out.below hb2, ⟨by rw [← HZ1.out]; exact ho2, hc2, HN.out.symm⟩⟩
  clear ho2 hc2 hb2 c2 HLC HB1 HX1 HW1
  have c0 := HA2.out.box.cell 0 (by simp)
  have c1 := HA2.out.box.cell 1 (by simp)
  go_wp2_with fail
  refine (HSP.out _ _ HA2.out.bel HA2.out.gv.read).mono ?_
  rintro e W3 ⟨vb, cb, rfl, ho3, hb3⟩
  obtain ⟨W4, hW4⟩ : ∃ W4, W3.alloc (.cells #[.int .u64 F, .int .u64 T, .slice vb sl.length cb, .int .u32 S] 29) = W4 := ⟨_, rfl⟩
  have hb4 : Below W2.heap.size W2 W4 := by rw [← hW4]; exact Below.next hb3 (below_new _ _)
  have HA4 := hide (HA2.out.below hb4)
  have HTB : Hid (Bt W4 W3.heap.size F T S (.slice vb sl.length cb) sl W2.heap.size) := by show Bt _ _ _ _ _ _ _ _; rw [← hW4]; exact Bt.new ho3 hb3.size
  have HSB : Hid (g < W2.heap.size) := HA2.out.gv.lt.2
  have HZ4 : Hid (W4.heap.size = W3.heap.size + 1) := by show _ = _; rw [← hW4]; simp
  have HW4 := hide hW4
  have c0 := HA4.out.box.cell 0 (by simp)
  have c1 := HA4.out.box.cell 1 (by simp)
  have c2 := HA4.out.box.cell 2 (by simp)
  rw [← hW4] at c0 c1 c2
  generalize hzb : W3.heap.size = b4 at *
  clear ho3 hb3 hb4 HA2 hW4
  go_wp2_with fail
  rw [HW4.out]
  clear c0 c1 c2
  refine (HSP.out _ _ HA4.out.bel HA4.out.gv.read).mono ?_
  rintro e W5 ⟨vd, cd, rfl, ho5, hb5⟩
  obtain ⟨W6, hW6⟩ : ∃ W6, W5.alloc (.cells #[.int .u64 F, .int .u64 T, .slice vd sl.length cd, .int .u32 S] 29) = W6 := ⟨_, rfl⟩
  have hb6 : Below W4.heap.size W4 W6 := by rw [← hW6]; exact Below.next hb5 (below_new _ _)
  have HA6 := hide (HA4.out.below hb6)
  have HTB6 := hide (HTB.out.below hb6)
  have HTD : Hid (Bt W6 W5.heap.size F T S (.slice vd sl.length cd) sl W4.heap.size) := by show Bt _ _ _ _ _ _ _ _; rw [← hW6]; exact Bt.new ho5 hb5.size
  have HW6 := hide hW6
  have c0 := HA6.out.box.cell 0 (by simp)
  have c1 := HA6.out.box.cell 1 (by simp)
  have c2 := HA6.out.box.cell 2 (by simp)
  rw [← hW6] at c0 c1 c2
  generalize hzd : W5.heap.size = b6 at *
  have HZ6 : Hid (W6.heap.size = b6 + 1) := by show _ = _; rw [← hW6]; simp [hzd]
  clear ho5 hb5 hb6 HA4 hW6 HTB HW4
  go_wp2_with fail
  rw [HW6.out]
  clear c0 c1 c2
  refine (HSR.out W6 (.slice aL n cL) (HR.out.below HA6.out.bel)).mono ?_
  rintro e W7 ⟨vc, cc, rfl, ho7, hb7⟩
  obtain ⟨W8, hW8⟩ : ∃ W8, W7.alloc (.cells #[.int .u64 F, .int .u64 T, .slice vc sl.length cc, .int .u32 S] 29) = W8 := ⟨_, rfl⟩
  have hb8 : Below W6.heap.size W6 W8 := by rw [← hW8]; exact Below.next hb7 (below_new _ _)
  have HA8 := hide (HA6.out.below hb8)
  have HTB8 := hide (HTB6.out.below hb8)
  have HTD8 := hide (HTD.out.below hb8)
  have HTC8 : Hid (Bt W8 W7.heap.size F T S (.slice vc sl.length cc) sl W6.heap.size) := by show Bt _ _ _ _ _ _ _ _; rw [← hW8]; exact Bt.new ho7 hb7.size
  have HW8 := hide hW8
  have b0 := HTB8.out.row.cell 0 (by simp)
  have b1 := HTB8.out.row.cell 1 (by simp)
  have b2 := HTB8.out.row.cell 2 (by simp)
  have b3 := HTB8.out.row.cell 3 (by simp)
  have e0 := HTC8.out.row.cell 0 (by simp)
  have e1 := HTC8.out.row.cell 1 (by simp)
  have e2 := HTC8.out.row.cell 2 (by simp)
  have e3 := HTC8.out.row.cell 3 (by simp)
  rw [← hW8] at b0 b1 b2 b3 e0 e1 e2 e3
  generalize hzc : W7.heap.size = b8 at *
  have HZ8 : Hid (W8.heap.size = b8 + 1 ∧ W6.heap.size ≤ b8) := ⟨by rw [← hW8]; simp [hzc], by rw [← hzc]; exact hb7.size⟩
  clear ho7 hb7 hb8 HA6 hW8 HTB6 HTD HW6
  go_wp2_with fail
  rw [HW8.out]
  clear b0 b1 b2 b3 e0 e1 e2 e3
  refine (HSA.out W8 _ _ HTB8.out.own.at HTC8.out.own.at).mono ?_
  rintro e W9 ⟨rfl, hb9⟩
  have HA9 := hide (HA8.out.below hb9)
  have HTB9 := hide (HTB8.out.below hb9)
  have HTD9 := hide (HTD8.out.below hb9)
  have HTC9 := hide (HTC8.out.below hb9)
  have c2 := HA9.out.box.cell 2 (by simp)
  clear hb9 HA8 HTB8 HTD8 HTC8 HW8
  go_wp2_with fail
  have HUN := hide (unt_any g c n (.slice aL n cL) l W9 HN.out (by omega) HA9.out.gv.own.at (HR.out.below HA9.out.bel) HA9.out.gv.cap)
  refine HUN.out.mono ?_
  rintro e W10 ⟨rfl, hb10⟩
  have HA := hide (HA9.out.below hb10)
  have HTB := hide (HTB9.out.below hb10)
  have HTD := hide (HTD9.out.below hb10)
  have HTC := hide (HTC9.out.below hb10)
  clear hb10 HA9 HTB9 HTD9 HTC9 HUN c2
  go_wp2_with fail
  generalize W10 = W0 at *
  obtain ⟨m, hmm⟩ : ∃ m, m = sl.length := ⟨_, rfl⟩
  rw [← hmm] at HTB HTD HTC HSL
  have HM := hide hmm
  have HML : Hid (m ≤ 1048576) := HSL.out
  have hmb : m ≤ 1048576 := HSL.out
  have HGS : Hid (g < W2.heap.size ∧ W2.heap.size ≤ b4 ∧ W4.heap.size = b4 + 1 ∧ W4.heap.size ≤ b6 ∧ W6.heap.size = b6 + 1 ∧ W6.heap.size ≤ b8) := ⟨HSB.out, HTB.out.sb, HZ4.out, HTD.out.sb, HZ6.out, HTC.out.sb⟩
  generalize W2.heap.size = s2 at *
  generalize W4.heap.size = s4 at *
  generalize W6.heap.size = s6 at *
  rw [← hmm]
  clear hmm HSL HSB HZ4 HZ6 HZ8
  go_loopw [12] (fun i wr => ∃ k : Nat, k ≤ n ∧ i = .int .i64 k ∧ Sa w wr fr tt (.slice aL n cL) g n c (mix (List.replicate n (keyC ⟨#[103, 105, 118, 101, 110]⟩)) l k) ∧ Bt wr b4 F T S (.slice vb m cb) sl s2 ∧ Bt wr b6 F T S (.slice vd m cd) sl s4 ∧ Bt wr b8 F T S (.slice vc m cc) sl s6) (fun i _ => n - (intOf i).toNat)
  case atStart => exact ⟨0, Nat.zero_le _, rfl, by rw [mix_zero]; exact HA.out, HTB.out, HTD.out, HTC.out⟩
  case round =>
    clear HA HTB HTD HTC
    obtain ⟨k, hk, rfl, ha, htb, htd, htc⟩ := hrel
    by_cases hlt : k < n
    · have hltI : (k : Int) < (n : Int) := by omega
      have j0 : (0 : Int) ≤ (k : Int) := by omega
      obtain ⟨y, ⟨c0, c1, c2, c3, c4⟩, hfz⟩ := ha.gv.spotx k hlt
      have f0 := hfz (k * 5)
      have f1 := hfz (k * 5 + 1)
      have f2 := hfz (k * 5 + 2)
      have f3 := hfz (k * 5 + 3)
      have f4 := hfz (k * 5 + 4)
      have hso := sole_wrote wr g (k * 5) (keyC ⟨#[103, 105, 118, 101, 110]⟩)
      have hgv := ha.gv.wrote5 k hlt (keyC ⟨#[103, 105, 118, 101, 110]⟩)
      rw [mark_set _ HN.out k hlt] at hgv
      have HG := HGS.out
      have HA := hide (ha.wrote hso hgv)
      have HTB := hide (htb.sole (by omega) hso)
      have HTD := hide (htd.sole (by omega) hso)
      have HTC := hide (htc.sole (by omega) hso)
      simp only [keyC, nilB] at HA HTB HTD HTC
      clear ha htb htd htc hso hgv hfz HG
      go_wp2
      go_roundw
      case rel => exact ⟨k + 1, by omega, by go_num, HA.out, HTB.out, HTD.out, HTC.out⟩
      case measure => simp [intOf]; omega
    · have hltI : ¬ (k : Int) < (n : Int) := by omega
      have hkn : k = n := by omega
      subst hkn
      rw [mix_end (by simp) HN.out.symm] at ha
      have HA := hide ha
      have HTB := hide htb
      have HTD := hide htd
      have HTC := hide htc
      have b0 := htb.row.cell 0 (by simp)
      have b1 := htb.row.cell 1 (by simp)
      have b2 := htb.row.cell 2 (by simp)
      have b3 := htb.row.cell 3 (by simp)
      have e0 := htc.row.cell 0 (by simp)
      have e1 := htc.row.cell 1 (by simp)
      have e2 := htc.row.cell 2 (by simp)
      have e3 := htc.row.cell 3 (by simp)
      clear ha htb htd htc hlt
      generalize wr = W11 at *
      go_wp2_with fail
      refine (HSA.out W11 _ _ HTB.out.own.at HTC.out.own.at).mono ?_
      rintro e W12 ⟨rfl, hb12⟩
      replace HA := hide (HA.out.below hb12)
      replace HTB := hide (HTB.out.below hb12)
      replace HTD := hide (HTD.out.below hb12)
      replace HTC := hide (HTC.out.below hb12)
      clear hb12 b0 b1 b2 b3 e0 e1 e2 e3
      go_wp2_with fail
      go_loopw [14] (fun i wr => ∃ q : Nat, q ≤ m ∧ i = .int .i64 q ∧ Sa w wr fr tt (.slice aL k cL) g k c (List.replicate k (keyC ⟨#[103, 105, 118, 101, 110]⟩)) ∧ Bt wr b4 F T S (.slice vb m cb) (mix (List.replicate m (keyC ⟨#[98, 97, 116, 99, 104]⟩)) sl q) s2 ∧ Bt wr b6 F T S (.slice vd m cd) sl s4 ∧ Bt wr b8 F T S (.slice vc m cc) sl s6) (fun i _ => m - (intOf i).toNat)
      case atStart => exact ⟨0, Nat.zero_le _, rfl, HA.out, by rw [mix_zero]; exact HTB.out, HTD.out, HTC.out⟩
      case round =>
        clear HA HTB HTD HTC
        obtain ⟨q, hq, rfl, ha, htb, htd, htc⟩ := hrel
        have b2 := htb.row.cell 2 (by simp)
        by_cases hlt : q < m
        · have hltI : (q : Int) < (m : Int) := by omega
          have j0 : (0 : Int) ≤ (q : Int) := by omega
          have hml : (mix (List.replicate m (keyC ⟨#[98, 97, 116, 99, 104]⟩)) sl q).length = m := by rw [mix_len (by rw [List.length_replicate]; exact HM.out)]; exact HM.out.symm
          obtain ⟨gb, cb', he, hsg, _, _⟩ := htb.own.some (by omega)
          obtain ⟨rfl, -, rfl⟩ := Value.slice.inj he
          obtain ⟨y, ⟨c0, c1, c2, c3, c4⟩, hfz⟩ := cho_spotx htb.own q (by omega)
          have f0 := hfz (q * 5)
          have f1 := hfz (q * 5 + 1)
          have f2 := hfz (q * 5 + 2)
          have f3 := hfz (q * 5 + 3)
          have f4 := hfz (q * 5 + 4)
          have hgb : gb < b4 := htb.lt gb rfl
          have hso := sole_wrote wr gb (q * 5) (keyC ⟨#[98, 97, 116, 99, 104]⟩)
          have hgv := htb.wrote5 q (by omega) (keyC ⟨#[98, 97, 116, 99, 104]⟩)
          rw [mark_set _ HM.out q hlt] at hgv
          have HG := HGS.out
          have HA := hide (ha.other hso (by omega))
          have HTB := hide hgv
          have HTD := hide (htd.sole (by omega) hso)
          have HTC := hide (htc.sole (by omega) hso)
          simp only [keyC, nilB] at HA HTB HTD HTC
          clear ha htb htd htc hso hgv hfz HG hml he hsg hgb
          go_wp2
          go_roundw
          case rel => exact ⟨q + 1, by omega, by go_num, HA.out, HTB.out, HTD.out, HTC.out⟩
          case measure => simp [intOf]; omega
        · have hltI : ¬ (q : Int) < (m : Int) := by omega
          have hkn : q = m := by omega
          subst hkn
          rw [mix_end (by simp) HM.out.symm] at htb
          have HA := hide ha
          have HTB := hide htb.grows
          have HTD := hide htd
          have HTC := hide htc
          have HBE : Hid (b6 < wr.heap.size ∧ b8 < wr.heap.size ∧ g < wr.heap.size) := ⟨htd.row.lt, htc.row.lt, ha.gv.lt.2⟩
          clear ha htb htd htc hlt
          generalize hEE : wr.heap.size = E at HTB HBE
          clear hEE
          go_wp2_with fail
          clear b2
          obtain ⟨bm, hbm⟩ : ∃ bm, bm = List.replicate q (keyC ⟨#[98, 97, 116, 99, 104]⟩) := ⟨_, rfl⟩
          rw [← hbm] at HTB
          have HBM : Hid (bm.length = q) := by show _ = _; rw [hbm]; simp
          clear hbm
          go_loopw [15] (fun i wr => ∃ (z : Nat) (x : Option Addr) (d : Nat), z ≤ 64 ∧ i = .int .i64 z ∧ Sa w wr fr tt (.slice aL k cL) g k c (List.replicate k (keyC ⟨#[103, 105, 118, 101, 110]⟩)) ∧ Bg wr b4 F T S (.slice x (q + z) d) (bm ++ List.replicate z (keyC ⟨#[98, 101, 104, 105, 110, 100]⟩)) s2 E ∧ Bt wr b6 F T S (.slice vd q cd) sl s4 ∧ Bt wr b8 F T S (.slice vc q cc) sl s6) (fun i _ => 64 - (intOf i).toNat)
          case atStart => exact ⟨0, vb, cb, Nat.zero_le _, rfl, HA.out, by simpa using HTB.out, HTD.out, HTC.out⟩
          case round =>
            clear HA HTB HTD HTC
            obtain ⟨z, x, d, hz, rfl, ha, htb, htd, htc⟩ := hrel
            by_cases hlt : z < 64
            · have hltI : (z : Int) < 64 := by omega
              have b2 := htb.row.cell 2 (by simp)
              obtain ⟨x2, d2, w2, hrun, hrow, hbg, hfw⟩ := htb.step (keyC ⟨#[98, 101, 104, 105, 110, 100]⟩) (by have := HML.out; omega)
              rw [List.append_assoc, ← List.replicate_succ'] at hbg
              have HG := HGS.out
              have HH := HBE.out
              have HA := hide (ha.fw hfw (by omega) (by omega))
              have HTB := hide hbg
              have HTD := hide (htd.fw hfw (by omega) (by omega))
              have HTC := hide (htc.fw hfw (by omega) (by omega))
              have hrun' : (Builtin.append_ #[23, 23] 23 #[.slice x (q + z) d, .slice (some ⟨wr.heap.size, 0, none⟩) 1 1]).run Tryd.prog (wr.alloc (.cells #[.string ⟨#[98, 101, 104, 105, 110, 100]⟩, .bool false, .bool false, .string ⟨#[]⟩, .string ⟨#[]⟩] 39)) = .ok (.slice x2 (q + z + 1) d2) w2 := hrun
              have HRUN := hide hrun'
              have r2 := hrow.cell 2 (by simp)
              have rf2 := hrow.free 2
              clear ha htb htd htc hrun hrun' hrow hbg hfw HG HH
              go_wp2_with (first | (at_builtin; refine wpList_append_run 23 rfl _ _ rfl rfl _ _ rfl rfl _ _ HRUN.out ?_))
              go_wp2
              go_roundw
              case rel => exact ⟨z + 1, x2, d2, by omega, by go_num, HA.out, HTB.out, HTD.out, HTC.out⟩
              case measure => simp [intOf]; omega
            · have hltI : ¬ (z : Int) < 64 := by omega
              have hz64 : z = 64 := by omega
              subst hz64
              have HA := hide ha
              have HTB := hide htb
              have HTD := hide htd
              have HTC := hide htc
              clear ha htb htd htc hlt hltI
              generalize wr = W13 at *
              have hltI : ¬ ((64 : Nat) : Int) < 64 := by omega
              go_wp2_with fail
              go_loopw [16] (fun i wr => ∃ y : Nat, y ≤ k ∧ i = .int .i64 y ∧ wr = W13) (fun i _ => k - (intOf i).toNat)
              case atStart => exact ⟨0, Nat.zero_le _, rfl, rfl⟩
              case round =>
                obtain ⟨y, hy, rfl, rfl⟩ := hrel
                by_cases hlt : y < k
                · have hltI' : (y : Int) < (k : Int) := by omega
                  have y0 : (0 : Int) ≤ (y : Int) := by omega
                  obtain ⟨⟨c0, _⟩, _⟩ := HA.out.gv.spot y hlt
                  simp only [List.getElem_replicate, keyC] at c0
                  go_wp2
                  go_roundw
                  case rel => exact ⟨y + 1, by omega, by go_num, trivial⟩
                  case measure => simp [intOf]; omega
                · have hltI' : ¬ (y : Int) < (k : Int) := by omega
                  clear hlt hy
                  have b0 := HTD.out.row.cell 0 (by simp)
                  have b1 := HTD.out.row.cell 1 (by simp)
                  have b2 := HTD.out.row.cell 2 (by simp)
                  have b3 := HTD.out.row.cell 3 (by simp)
                  have e0 := HTC.out.row.cell 0 (by simp)
                  have e1 := HTC.out.row.cell 1 (by simp)
                  have e2 := HTC.out.row.cell 2 (by simp)
                  have e3 := HTC.out.row.cell 3 (by simp)
                  go_wp2_with fail
                  refine (HSA.out wr _ _ HTD.out.own.at HTC.out.own.at).mono ?_
                  rintro e W14 ⟨rfl, hb14⟩
                  replace HA := hide (HA.out.below hb14)
                  have HZB : Hid (RowAt W14 b4 _ _) := HTB.out.row.below hb14
                  clear hb14 b0 b1 b2 b3 e0 e1 e2 e3 HTB HTD HTC HSA
                  have z2 := HZB.out.cell 2 (by simp)
                  go_wp2_with fail
                  refine (HNU.out _ HA.out.bel).mono ?_
                  rintro e W15 ⟨rfl, rfl⟩
                  go_wp2_with fail
                  clear z2 HZB HM HML hmb hltI hltI'
                  obtain ⟨xl, hxl⟩ : ∃ xl, xl = l.map xC := ⟨_, rfl⟩
                  have HXL := hide hxl
                  have HXN : Hid (xl.length = k) := by show _ = _; rw [hxl, List.length_map]; exact HN.out.symm
                  obtain ⟨gm, hgm⟩ : ∃ gm, gm = List.replicate k (keyC ⟨#[103, 105, 118, 101, 110]⟩) := ⟨_, rfl⟩
                  have HGM : Hid (gm.length = k) := by show _ = _; rw [hgm, List.length_replicate]
                  rw [← hgm] at HA
                  clear hxl hgm
                  go_loopw [18] (fun i wr => ∃ y : Nat, y ≤ k ∧ i = .int .i64 y ∧ Sa w wr fr tt (.slice aL k cL) g k c (mix xl gm y)) (fun i _ => k - (intOf i).toNat)
                  case atStart => exact ⟨0, Nat.zero_le _, rfl, by rw [mix_zero]; exact HA.out⟩
                  case round =>
                    clear HA
                    obtain ⟨y, hy, rfl, ha⟩ := hrel
                    by_cases hlt : y < k
                    · have hltI : (y : Int) < (k : Int) := by omega
                      have y0 : (0 : Int) ≤ (y : Int) := by omega
                      have q2 := ha.box.cell 2 (by simp)
                      obtain ⟨u, ⟨c0, c1, c2, c3, c4⟩, hfz⟩ := ha.gv.spotx y hlt
                      have f0 := hfz (y * 5)
                      have f1 := hfz (y * 5 + 1)
                      have f2 := hfz (y * 5 + 2)
                      have f3 := hfz (y * 5 + 3)
                      have f4 := hfz (y * 5 + 4)
                      have hyl : y < l.length := by have := HN.out; omega
                      obtain ⟨a9, cap9, he, _, _, hc⟩ := HR.out.below ha.bel
                      obtain ⟨g9, o9, ha9, d0, d1, d2, d3, d4⟩ := hc y hyl
                      obtain ⟨rfl, -, rfl⟩ : aL = a9 ∧ k = l.length ∧ cL = cap9 := by simpa using he
                      subst ha9
                      have hps := HS.out l[y] (List.getElem_mem _)
                      have hgx : xl[y]'(by rw [HXN.out]; exact hlt) = xC l[y] := by simp [HXL.out]
                      have hms := mix_set (a := xl) (b := gm) (by rw [HXN.out, HGM.out]) y (by rw [HGM.out]; exact hlt)
                      rw [hgx] at hms
                      obtain ⟨p, hp⟩ : ∃ p, p = l[y] := ⟨_, rfl⟩
                      rw [← hp] at d0 d1 d2 d3 d4 hps hms
                      have hxs : p.2.new.size ≤ 1099511627776 := by omega
                      have hzs : (⟨#[120]⟩ : ByteArray).size = 1 := rfl
                      have hgv := (ha.gv.wrote5 y hlt p).wrote4 y hlt (p.2.new ++ ⟨#[120]⟩)
                      simp only [List.getElem_set_self, List.set_set] at hgv
                      rw [show ((p.1, ⟨p.2.had, p.2.has, p.2.old, p.2.new ++ ⟨#[120]⟩⟩) : Ch) = xC p from rfl, hms] at hgv
                      have HA2 := hide (ha.wrote ((sole_wrote wr g (y * 5) p).trans (Sole.set g (y * 5 + 4) _ _)) hgv)
                      have hne : ¬ g = w.heap.size := by have := ha.gv.lt; omega
                      have hne2 : ¬ g9 = g := by
                        obtain ⟨a8, cap8, he8, _, _, hc8⟩ := HR.out
                        obtain ⟨g8, o8, ha8, h8⟩ := hc8 y hyl
                        cases he8
                        cases ha8
                        have := h8.lt
                        have := ha.gv.lt
                        omega
                      clear ha hgv hms hps hgx hc he hp hfz hyl
                      go_wp2
                      go_roundw
                      case rel => exact ⟨y + 1, by omega, by go_num, HA2.out⟩
                      case measure => simp [intOf]; omega
                    · have hltI : ¬ (y : Int) < (k : Int) := by omega
                      obtain rfl : y = k := by omega
                      rw [mix_end HXN.out HGM.out] at ha
                      have HA := hide ha
                      obtain ⟨xa, xc, w16, hrun, ho, hgr⟩ := append_chs wr.heap.size (.slice none 0 0) (.slice (some ⟨g, 0, none⟩) y c) [] xl wr (ChO.nil _ _) ha.gv.read (by rw [HXN.out]; simp; omega) (Nat.le_refl _)
                      simp only [List.length_nil, Nat.zero_add, List.nil_append, HXN.out] at hrun ho
                      have hb16 : Below wr.heap.size wr w16 := ⟨hgr.os, hgr.tape, hgr.output, hgr.size, fun j hj => hgr.block j hj (fun e => by cases e)⟩
                      have HRUN := hide hrun
                      have HO := hide ho
                      have HA16 := hide (ha.below hb16)
                      have q0 := HA16.out.box.cell 0 (by simp)
                      have q1 := HA16.out.box.cell 1 (by simp)
                      have hxs : ∀ c ∈ xl, c.1.size ≤ 1048576 ∧ c.2.old.size ≤ 1048576 ∧ c.2.new.size ≤ 1048576 := by
                        intro cc hcc
                        rw [HXL.out] at hcc
                        obtain ⟨c', hc', rfl⟩ := List.mem_map.1 hcc
                        have := HS.out c' hc'
                        refine ⟨this.1, this.2.1, ?_⟩
                        show (c'.2.new ++ ⟨#[120]⟩).size ≤ _
                        rw [ByteArray.size_append]
                        have : (⟨#[120]⟩ : ByteArray).size = 1 := rfl
                        omega
                      have hsm : SmallL xl := fun cc hcc => by have := hxs cc hcc; exact ⟨by omega, by omega, by omega⟩
                      have hxn : xl.length ≤ 1048576 := by rw [HXN.out]; exact hm
                      have HSP2 := hide (fun W v (hb : Below w.heap.size w W) (h : ChR W v xl) => fseal_any A fr tt v xl W (HE.out.keep hb) HFT.out.1 HFT.out.2 (by omega) hsm h (HT.out.below hb))
                      have HSR2 := hide (fun W v (h : ChR W v xl) => rseal_any fr tt v xl W HFT.out.1 HFT.out.2 hxn hxs h)
                      have HSA2 := hide (fun W v1 v2 (h1 : ChR W v1 (sL fr tt xl)) (h2 : ChR W v2 (sL fr tt xl)) => sameb_same (sN (sOk fr tt xl) fr) (sN (sOk fr tt xl) tt) (sN (sOk fr tt xl) (crcV (batB fr tt xl))) v1 v2 (sL fr tt xl) W (by unfold sL; split <;> first | omega | simp) h1 h2)
                      have HNU2 := hide (fun W (hb : Below w.heap.size w W) => num_fk A fr tt xl W (HE.out.keep hb))
                      clear hb16 ha hrun ho hgr hxs hsm hxn HSP HSR HNU HA
                      unfold RSealPost at HSR2
                      generalize sN (sOk fr tt xl) fr = F2 at *
                      generalize sN (sOk fr tt xl) tt = T2 at *
                      generalize sN (sOk fr tt xl) (crcV (batB fr tt xl)) = S2 at *
                      generalize sL fr tt xl = sl2 at *
                      go_wp2_with (first | (at_builtin; refine wpList_append_run 23 rfl _ _ rfl rfl _ _ rfl rfl _ _ HRUN.out ?_))
                      refine (HSP2.out _ _ HA16.out.bel HA16.out.gv.read).mono ?_
                      rintro e W17 ⟨vg, cg, rfl, ho17, hb17⟩
                      obtain ⟨W18, hW18⟩ : ∃ W18, W17.alloc (.cells #[.int .u64 F2, .int .u64 T2, .slice vg sl2.length cg, .int .u32 S2] 29) = W18 := ⟨_, rfl⟩
                      have hb18 : Below w16.heap.size w16 W18 := by rw [← hW18]; exact Below.next hb17 (below_new _ _)
                      have HA18 := hide (HA16.out.below hb18)
                      have HTG : Hid (Bt W18 W17.heap.size F2 T2 S2 (.slice vg sl2.length cg) sl2 w16.heap.size) := by show Bt _ _ _ _ _ _ _ _; rw [← hW18]; exact Bt.new ho17 hb17.size
                      have HO18 := hide (HO.out.below hb18)
                      have HW18 := hide hW18
                      clear q0 q1
                      have q0 := HA18.out.box.cell 0 (by simp)
                      have q1 := HA18.out.box.cell 1 (by simp)
                      rw [← hW18] at q0 q1
                      generalize hz17 : W17.heap.size = b17 at *
                      clear ho17 hb17 hb18 HA16 hW18 HO HSP2 HRUN
                      go_wp2_with fail
                      rw [HW18.out]
                      clear q0 q1
                      refine (HSR2.out W18 _ HO18.out.at).mono ?_
                      rintro e W19 ⟨vh, ch, rfl, ho19, hb19⟩
                      obtain ⟨W20, hW20⟩ : ∃ W20, W19.alloc (.cells #[.int .u64 F2, .int .u64 T2, .slice vh sl2.length ch, .int .u32 S2] 29) = W20 := ⟨_, rfl⟩
                      have hb20 : Below W18.heap.size W18 W20 := by rw [← hW20]; exact Below.next hb19 (below_new _ _)
                      have HA20 := hide (HA18.out.below hb20)
                      have HTG20 := hide (HTG.out.below hb20)
                      have HTH20 : Hid (Bt W20 W19.heap.size F2 T2 S2 (.slice vh sl2.length ch) sl2 W18.heap.size) := by show Bt _ _ _ _ _ _ _ _; rw [← hW20]; exact Bt.new ho19 hb19.size
                      have HW20 := hide hW20
                      have b0 := HTG20.out.row.cell 0 (by simp)
                      have b1 := HTG20.out.row.cell 1 (by simp)
                      have b2 := HTG20.out.row.cell 2 (by simp)
                      have b3 := HTG20.out.row.cell 3 (by simp)
                      have e0 := HTH20.out.row.cell 0 (by simp)
                      have e1 := HTH20.out.row.cell 1 (by simp)
                      have e2 := HTH20.out.row.cell 2 (by simp)
                      have e3 := HTH20.out.row.cell 3 (by simp)
                      rw [← hW20] at b0 b1 b2 b3 e0 e1 e2 e3
                      generalize hz19 : W19.heap.size = b19 at *
                      clear ho19 hb19 hb20 HA18 hW20 HTG HSR2 HW18 HO18
                      go_wp2_with fail
                      rw [HW20.out]
                      clear b0 b1 b2 b3 e0 e1 e2 e3
                      refine (HSA2.out W20 _ _ HTG20.out.own.at HTH20.out.own.at).mono ?_
                      rintro e W21 ⟨rfl, hb21⟩
                      have HA21 := hide (HA20.out.below hb21)
                      clear hb21 HA20 HTG20 HTH20 HW20 HSA2
                      go_wp2_with fail
                      refine (HNU2.out _ HA21.out.bel).mono ?_
                      rintro e W22 ⟨rfl, rfl⟩
                      go_wp2
                      rw [HQ.out]
                      exact ⟨rfl, HA21.out.bel⟩
end Go.Proofs.YtiihnoohodklhaaDoor
