import Derived.Test.YtdghlblgmihbpaaDoorFStp
namespace Go.Proofs.YtdghlblgmihbpaaDoor
open Go.RowKit

set_option maxRecDepth 100000 in
set_option maxHeartbeats 4000000 in
theorem copies_any (A : Nat → Addr) (l : List Stp) (v : Value) (pg og : Int) (W : World) (hE : Env W.heap.size A W) (hr : StpR W v l) (hl : l.length ≤ 5864062014634) :
    Calls Tryd.prog 4 #[.agg #[.int .i64 pg, .int .i64 og, v]] W fun e w' => e = .returned (.bool true) ∧ Below W.heap.size W w' := by
  obtain ⟨a, c, rfl, hc⟩ := id hr
  clear hc
  obtain ⟨w0, hw0⟩ : ∃ w0, w0 = W.alloc (.cells #[.int .i64 pg, .int .i64 og, .slice a l.length c] 24) := ⟨_, rfl⟩
  have hb0 : Below W.heap.size W w0 := by rw [hw0]; exact below_new _ _
  have hx0 : Boxed W.heap.size [.int .i64 pg, .int .i64 og, .slice a l.length c] w0 := by rw [hw0]; exact boxed_new W #[.int .i64 pg, .int .i64 og, .slice a l.length c] 24
  have k0 : w0.cell? ⟨W.heap.size, 0, none⟩ = some (.int .i64 pg) := hx0.2 0 (by simp)
  have HSZ : Hid (W.heap.size < w0.heap.size) := hx0.1
  have HMD := hide (made_any pg w0)
  have HP := hide (madeP_lo pg)
  have HB0 := hide hb0
  have HX0 := hide hx0
  have HE := hide hE
  have HR := hide hr
  obtain ⟨n, hn⟩ : ∃ n, n = l.length := ⟨_, rfl⟩
  rw [← hn] at hw0 hl HX0 HR
  rw [← hn]
  have HN := hide hn
  clear hb0 hx0 hE hr hn
  generalize madeP pg = P at *
  go_enter Tryd.func4, Tryd.ntmps4
  go_wp2_with fail
  rw [← hw0]
  clear hw0
  refine HMD.out.mono ?_
  rintro e w1 ⟨bm, gm, rfl, h1, h2, hm1, hb1⟩
  have HBM : Hid (W.heap.size < bm ∧ W.heap.size < gm) := ⟨by have := HSZ.out; omega, by have := HSZ.out; omega⟩
  have HB1 := hide (HB0.out.trans (hb1.mono (Nat.le_of_lt HSZ.out)))
  have HX1 := hide (HX0.out.below hb1)
  have HM1 := hide hm1
  have BG := hide (begun_any W.heap.size A w1 (HE.out.up HB1.out))
  have HOK := hide (t0_ok (P := P) HP.out.1 (by have := HP.out.2; omega))
  clear h1 h2 hm1 hb1 HMD k0
  go_wp2_with fail
  refine BG.out.mono ?_
  rintro e w2 ⟨rfl, hb2⟩
  have HB2 := hide (HB1.out.trans (hb2.mono HB1.out.size))
  have HX2 := hide (HX1.out.below hb2)
  have HM2 := hide (HM1.out.below hb2)
  have k2 : w2.cell? ⟨W.heap.size, 2, none⟩ = some (.slice a n c) := HX2.out.2 2 (by simp)
  clear hb2 BG HX1 HM1 HB1 HX0 HB0
  go_wp2_with fail
  obtain ⟨hf, hhf⟩ : ∃ hf, hf = n / 2 := ⟨_, rfl⟩
  have hh : (n : Int) / 2 = (hf : Int) := by omega
  have hhn : hf ≤ n := by omega
  rw [hh]
  clear hhf hh k2
  go_loopw [5] (fun i wr => ∃ k : Nat, k ≤ hf ∧ i = .int .i64 k ∧ MapR wr bm gm P (runD P (T0 P) (seg l 0 k)) ∧ Only (fun k => k = gm) w2 wr) (fun i _ => hf - (intOf i).toNat)
  case atStart => exact ⟨0, Nat.zero_le _, rfl, by rw [seg_nil]; exact HM2.out, Only.refl _ _⟩
  case round =>
    obtain ⟨k, hk, rfl, hm, ho⟩ := hrel
    have hbw : Below W.heap.size W wr := only_new HB2.out ho (Nat.le_of_lt HBM.out.2)
    have hx := HX2.out.only ho (fun e => by have := HBM.out.2; have : W.heap.size = gm := e; omega)
    have k2 : wr.cell? ⟨W.heap.size, 2, none⟩ = some (.slice a n c) := hx.2 2 (by simp)
    by_cases hlt : k < hf
    · have hkl : k < l.length := by rw [← HN.out]; omega
      obtain ⟨a', c', he, hcs⟩ := HR.out.below hbw
      simp only [Value.slice.injEq] at he
      obtain ⟨rfl, -, rfl⟩ := he
      obtain ⟨g0, o0, rfl, s0, s1, s2⟩ := hcs k hkl
      have AC := hide (act_any W.heap.size A bm gm P _ wr hm (runD_ok _ HOK.out) (HE.out.up hbw) (Nat.le_of_lt HBM.out.2) l[k].1 l[k].2.1 l[k].2.2)
      have HSG : Hid (runD P (T0 P) (seg l 0 (k + 1)) = (actD P (runD P (T0 P) (seg l 0 k)) l[k].1 l[k].2.2).1) := by
        show _ = _
        rw [seg_succ l 0 k (Nat.zero_le _) hkl, runD_snoc]
      have HO := hide ho
      have hkn : k < n := by omega
      have hkI : (k : Int) < (n : Int) := by omega
      generalize l[k].1 = z0 at *
      generalize l[k].2.1 = z1 at *
      generalize l[k].2.2 = z2 at *
      clear hm ho hx hcs hbw hkl
      go_wp2_with fail
      refine AC.out.mono ?_
      rintro e w3 ⟨u, hp⟩
      obtain ⟨rfl, -, hm3, ho3⟩ := hp
      have H3 : Hid (MapR w3 bm gm P (runD P (T0 P) (seg l 0 (k + 1)))) := by
        show MapR _ _ _ _ _
        rw [HSG.out]; exact hm3
      have O3 := hide (HO.out.trans ho3)
      clear hm3 ho3 AC HO HSG s0 s1 s2 k2
      go_wp2
      go_roundw
      case rel => exact ⟨k + 1, by omega, by go_num, H3.out, O3.out⟩
      case measure => simp [intOf]; omega
    · have hke : k = hf := by omega
      have hkI : ¬ (k : Int) < (hf : Int) := by omega
      rw [hke] at hm
      have HOK1 := hide (runD_ok (seg l 0 hf) HOK.out)
      generalize runD P (T0 P) (seg l 0 hf) = T at *
      have CP := hide (copy_any bm gm P T wr hm)
      have HM := hide hm
      have HB := hide hbw
      have HX := hide hx
      clear hm ho hx hbw HM2 HB2 HX2 HOK k2 hke
      generalize wr = w3 at *
      go_wp2_with fail
      refine CP.out.mono ?_
      rintro e w4 ⟨bc, gc, rfl, q1, q2, hc4, hb4⟩
      have HC4 := hide hc4
      have HM4 := hide (HM.out.below hb4)
      have HX4 := hide (HX.out.below hb4)
      have HB4 := hide (HB.out.trans (hb4.mono HB.out.size))
      have HQ4 : Hid (bm < bc ∧ bm < gc ∧ gm < bc ∧ gm < gc) := ⟨by have := HM.out.ltb; omega, by have := HM.out.ltb; omega, by have := HM.out.ltg; omega, by have := HM.out.ltg; omega⟩
      have CP2 := hide (copy_any bm gm P T w4 HM4.out)
      clear hc4 hb4 q1 q2 CP HM HB HX hkI
      go_wp2_with fail
      refine CP2.out.mono ?_
      rintro e w5 ⟨bs, gs, rfl, q1, q2, hc5, hb5⟩
      have HS5 := hide hc5
      have HM5 := hide (HM4.out.below hb5)
      have HC5 := hide (HC4.out.below hb5)
      have HX5 := hide (HX4.out.below hb5)
      have HB5 := hide (HB4.out.trans (hb5.mono HB4.out.size))
      have HQ5 : Hid ((bm < bs ∧ bm < gs ∧ gm < bs ∧ gm < gs) ∧ (bc < bs ∧ bc < gs ∧ gc < bs ∧ gc < gs)) := ⟨⟨by have := HM4.out.ltb; omega, by have := HM4.out.ltb; omega, by have := HM4.out.ltg; omega, by have := HM4.out.ltg; omega⟩, ⟨by have := HC4.out.ltb; omega, by have := HC4.out.ltb; omega, by have := HC4.out.ltg; omega, by have := HC4.out.ltg; omega⟩⟩
      have AL := hide (alike_any bc gc bm gm P T w5 HC5.out HM5.out HOK1.out)
      clear hc5 hb5 q1 q2 CP2 HM4 HC4 HX4 HB4
      go_wp2_with fail
      refine AL.out.mono ?_
      rintro e w6 ⟨rfl, hb6⟩
      have HS6 := hide (HS5.out.below hb6)
      have HM6 := hide (HM5.out.below hb6)
      have HC6 := hide (HC5.out.below hb6)
      have HX6 := hide (HX5.out.below hb6)
      have HB6 := hide (HB5.out.trans (hb6.mono HB5.out.size))
      clear hb6 AL HS5 HM5 HC5 HX5 HB5
      go_wp2_with fail
      go_loopw [8] (fun i wr => ∃ k : Nat, hf ≤ k ∧ k ≤ n ∧ i = .int .i64 k ∧ MapR wr bc gc P (runD P T (seg l hf k)) ∧ Only (fun k => k = gc) w6 wr) (fun i _ => n - (intOf i).toNat)
      case atStart => exact ⟨hf, Nat.le_refl _, hhn, rfl, by rw [seg_nil]; exact HC6.out, Only.refl _ _⟩
      case round =>
        obtain ⟨k, hk1, hk2, rfl, hm, ho⟩ := hrel
        have hbw : Below W.heap.size W wr := only_new HB6.out ho (by have := HBM.out.2; have := HQ4.out; omega)
        have hx := HX6.out.only ho (fun e => by have := HBM.out.2; have := HQ4.out; have : W.heap.size = gc := e; omega)
        have k2 : wr.cell? ⟨W.heap.size, 2, none⟩ = some (.slice a n c) := hx.2 2 (by simp)
        by_cases hlt : k < n
        · have hkl : k < l.length := by rw [← HN.out]; omega
          obtain ⟨a', c', he, hcs⟩ := HR.out.below hbw
          simp only [Value.slice.injEq] at he
          obtain ⟨rfl, -, rfl⟩ := he
          obtain ⟨g0, o0, rfl, s0, s1, s2⟩ := hcs k hkl
          have AC := hide (act_any W.heap.size A bc gc P _ wr hm (runD_ok _ HOK1.out) (HE.out.up hbw) (by have := HBM.out.2; have := HQ4.out; omega) l[k].1 l[k].2.1 l[k].2.2)
          have HSG : Hid (runD P T (seg l hf (k + 1)) = (actD P (runD P T (seg l hf k)) l[k].1 l[k].2.2).1) := by
            show _ = _
            rw [seg_succ l hf k hk1 hkl, runD_snoc]
          have HO := hide ho
          have hkI : (k : Int) < (n : Int) := by omega
          generalize l[k].1 = z0 at *
          generalize l[k].2.1 = z1 at *
          generalize l[k].2.2 = z2 at *
          clear hm ho hx hcs hbw hkl
          go_wp2_with fail
          refine AC.out.mono ?_
          rintro e w3 ⟨u, hp⟩
          obtain ⟨rfl, -, hm3, ho3⟩ := hp
          have H3 : Hid (MapR w3 bc gc P (runD P T (seg l hf (k + 1)))) := by
            show MapR _ _ _ _ _
            rw [HSG.out]; exact hm3
          have O3 := hide (HO.out.trans ho3)
          clear hm3 ho3 AC HO HSG s0 s1 s2 k2
          go_wp2
          go_roundw
          case rel => exact ⟨k + 1, by omega, by omega, by go_num, H3.out, O3.out⟩
          case measure => simp [intOf]; omega
        · have hke : k = n := by omega
          have hkI : ¬ (k : Int) < (n : Int) := by omega
          rw [hke] at hm
          have HC7 := hide hm
          have HS7 := hide (HS6.out.only ho (fun e => by have := HQ5.out; have : bs = gc := e; omega) (fun e => by have := HQ5.out; have : gs = gc := e; omega))
          have HM7 := hide (HM6.out.only ho (fun e => by have := HQ4.out; have : bm = gc := e; omega) (fun e => by have := HQ4.out; have : gm = gc := e; omega))
          have HX7 := hide hx
          have HB7 := hide hbw
          have AL := hide (alike_any bs gs bm gm P T wr HS7.out HM7.out HOK1.out)
          clear hm ho hx hbw HS6 HM6 HC6 HX6 HB6 hke
          generalize wr = w7 at *
          go_wp2_with fail
          refine AL.out.mono ?_
          rintro e w8 ⟨rfl, hb8⟩
          have HS8 := hide (HS7.out.below hb8)
          have HM8 := hide (HM7.out.below hb8)
          have HC8 := hide (HC7.out.below hb8)
          have HX8 := hide (HX7.out.below hb8)
          have HB8 := hide (HB7.out.trans (hb8.mono HB7.out.size))
          have CP := hide (copy_any bm gm P T w8 HM8.out)
          clear hb8 AL HS7 HM7 HC7 HX7 HB7 k2 hkI
          go_wp2_with fail
          refine CP.out.mono ?_
          rintro e w9 ⟨bd, gd, rfl, q1, q2, hd9, hb9⟩
          have HD9 := hide hd9
          have HS9 := hide (HS8.out.below hb9)
          have HM9 := hide (HM8.out.below hb9)
          have HC9 := hide (HC8.out.below hb9)
          have HX9 := hide (HX8.out.below hb9)
          have HB9 := hide (HB8.out.trans (hb9.mono HB8.out.size))
          have HQ9 : Hid (gm < bd ∧ gm < gd) := ⟨by have := HM8.out.ltg; omega, by have := HM8.out.ltg; omega⟩
          clear hd9 hb9 CP HS8 HM8 HC8 HX8 HB8 q1 q2
          go_wp2_with fail
          go_loopw [10] (fun i wr => ∃ k : Nat, hf ≤ k ∧ k ≤ n ∧ i = .int .i64 k ∧ MapR wr bm gm P (runD P T (seg l hf k)) ∧ Only (fun k => k = gm) w9 wr) (fun i _ => n - (intOf i).toNat)
          case atStart => exact ⟨hf, Nat.le_refl _, hhn, rfl, by rw [seg_nil]; exact HM9.out, Only.refl _ _⟩
          case round =>
            obtain ⟨k, hk1, hk2, rfl, hm, ho⟩ := hrel
            have hbw : Below W.heap.size W wr := only_new HB9.out ho (Nat.le_of_lt HBM.out.2)
            have hx := HX9.out.only ho (fun e => by have := HBM.out.2; have : W.heap.size = gm := e; omega)
            have k2 : wr.cell? ⟨W.heap.size, 2, none⟩ = some (.slice a n c) := hx.2 2 (by simp)
            by_cases hlt : k < n
            · have hkl : k < l.length := by rw [← HN.out]; omega
              obtain ⟨a', c', he, hcs⟩ := HR.out.below hbw
              simp only [Value.slice.injEq] at he
              obtain ⟨rfl, -, rfl⟩ := he
              obtain ⟨g0, o0, rfl, s0, s1, s2⟩ := hcs k hkl
              have AC := hide (act_any W.heap.size A bm gm P _ wr hm (runD_ok _ HOK1.out) (HE.out.up hbw) (Nat.le_of_lt HBM.out.2) l[k].1 l[k].2.1 l[k].2.2)
              have HSG : Hid (runD P T (seg l hf (k + 1)) = (actD P (runD P T (seg l hf k)) l[k].1 l[k].2.2).1) := by
                show _ = _
                rw [seg_succ l hf k hk1 hkl, runD_snoc]
              have HO := hide ho
              have hkI : (k : Int) < (n : Int) := by omega
              generalize l[k].1 = z0 at *
              generalize l[k].2.1 = z1 at *
              generalize l[k].2.2 = z2 at *
              clear hm ho hx hcs hbw hkl
              go_wp2_with fail
              refine AC.out.mono ?_
              rintro e w3 ⟨u, hp⟩
              obtain ⟨rfl, -, hm3, ho3⟩ := hp
              have H3 : Hid (MapR w3 bm gm P (runD P T (seg l hf (k + 1)))) := by
                show MapR _ _ _ _ _
                rw [HSG.out]; exact hm3
              have O3 := hide (HO.out.trans ho3)
              clear hm3 ho3 AC HO HSG s0 s1 s2 k2
              go_wp2
              go_roundw
              case rel => exact ⟨k + 1, by omega, by omega, by go_num, H3.out, O3.out⟩
              case measure => simp [intOf]; omega
            · have hke : k = n := by omega
              have hkI : ¬ (k : Int) < (n : Int) := by omega
              rw [hke] at hm
              have HM10 := hide hm
              have HC10 := hide (HC9.out.only ho (fun e => by have := HQ4.out; have : bc = gm := e; omega) (fun e => by have := HQ4.out; have : gc = gm := e; omega))
              have HS10 := hide (HS9.out.only ho (fun e => by have := HQ5.out; have : bs = gm := e; omega) (fun e => by have := HQ5.out; have : gs = gm := e; omega))
              have HD10 := hide (HD9.out.only ho (fun e => by have := HQ9.out; have : bd = gm := e; omega) (fun e => by have := HQ9.out; have : gd = gm := e; omega))
              have HB10 := hide hbw
              have HOK2 := hide (runD_ok (seg l hf n) HOK1.out)
              have AL := hide (alike_any bm gm bc gc P _ wr HM10.out HC10.out HOK2.out)
              clear hm ho hx hbw HS9 HM9 HC9 HX9 HB9 HD9 hke
              generalize wr = w10 at *
              go_wp2_with fail
              refine AL.out.mono ?_
              rintro e w11 ⟨rfl, hb11⟩
              have AL2 := hide (alike_any bs gs bd gd P T w11 (HS10.out.below hb11) (HD10.out.below hb11) HOK1.out)
              have HB11 := hide (HB10.out.trans (hb11.mono HB10.out.size))
              clear hb11 AL HM10 HC10 HS10 HD10 HB10 k2 hkI
              go_wp2_with fail
              refine AL2.out.mono ?_
              rintro e w12 ⟨rfl, hb12⟩
              have HB12 := hide (HB11.out.trans (hb12.mono HB11.out.size))
              clear hb12 AL2 HB11
              go_wp2
              go_ret
              exact ⟨rfl, HB12.out⟩

end Go.Proofs.YtdghlblgmihbpaaDoor
