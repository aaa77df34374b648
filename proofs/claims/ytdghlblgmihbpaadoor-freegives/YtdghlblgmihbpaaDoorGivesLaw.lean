import Derived.Test.YtdghlblgmihbpaaDoorFGivM
import Derived.Deep.RegionHeld3
import Derived.Deep.DeepCutAuto
import Derived.Deep.CutBlock
namespace Go.Proofs.YtdghlblgmihbpaaDoor
open Go.RowKit

theorem nats_one (l : List Nat) : ∀ u ∈ nats l, u.oneCell' = true := by
  intro u hu
  simp only [nats, List.mem_map] at hu
  obtain ⟨c, _, rfl⟩ := hu
  rfl
set_option maxRecDepth 100000 in
set_option maxHeartbeats 4000000 in
theorem gives_any (A : Nat → Addr) (l : List Stp) (v : Value) (pg og nn kk : Int) (W : World) (hE : Env W.heap.size A W) (hr : StpR W v l) (hl : l.length ≤ 5864062014634) :
    Calls Tryd.prog 5 #[.agg #[.int .i64 pg, .int .i64 og, v, .int .i64 nn, .int .i64 kk]] W fun e w' => e = .returned (.bool true) ∧ Below W.heap.size W w' := by
  obtain ⟨a, c, rfl, hc⟩ := id hr
  clear hc
  obtain ⟨w0, hw0⟩ : ∃ w0, w0 = W.alloc (.cells #[.int .i64 pg, .int .i64 og, .slice a l.length c, .int .i64 nn, .int .i64 kk] 44) := ⟨_, rfl⟩
  have hb0 : Below W.heap.size W w0 := by rw [hw0]; exact below_new _ _
  have hx0 : Boxed W.heap.size [.int .i64 pg, .int .i64 og, .slice a l.length c, .int .i64 nn, .int .i64 kk] w0 := by rw [hw0]; exact boxed_new W #[.int .i64 pg, .int .i64 og, .slice a l.length c, .int .i64 nn, .int .i64 kk] 44
  have k0 : w0.cell? ⟨W.heap.size, 0, none⟩ = some (.int .i64 pg) := hx0.2 0 (by simp)
  have HSZ : Hid (W.heap.size < w0.heap.size) := hx0.1
  have HMD := hide (made_any pg w0)
  have HP := hide (madeP_lo pg)
  have HB0 := hide hb0
  have HX0 := hide hx0
  have HE := hide hE
  have HR := hide hr
  obtain ⟨n, hn⟩ : ∃ n, n = l.length := ⟨_, rfl⟩
  rw [← hn] at hw0 hl HX0 HR
  rw [← hn]
  have HN := hide hn
  clear hb0 hx0 hE hr hn
  generalize madeP pg = P at *
  go_enter Tryd.func5, Tryd.ntmps5
  go_wp2_with fail
  rw [← hw0]
  clear hw0
  refine HMD.out.mono ?_
  rintro e w1 ⟨bm, gm, rfl, h1, h2, hm1, hb1⟩
  have HBM : Hid (W.heap.size < bm ∧ W.heap.size < gm) := ⟨by have := HSZ.out; omega, by have := HSZ.out; omega⟩
  have HB1 := hide (HB0.out.trans (hb1.mono (Nat.le_of_lt HSZ.out)))
  have HX1 := hide (HX0.out.below hb1)
  have HM1 := hide hm1
  have BG := hide (begun_any W.heap.size A w1 (HE.out.up HB1.out))
  have HOK := hide (t0_ok (P := P) HP.out.1 (by have := HP.out.2; omega))
  clear h1 h2 hm1 hb1 HMD k0
  go_wp2_with fail
  refine BG.out.mono ?_
  rintro e w2 ⟨rfl, hb2⟩
  have HB2 := hide (HB1.out.trans (hb2.mono HB1.out.size))
  have HX2 := hide (HX1.out.below hb2)
  have HM2 := hide (HM1.out.below hb2)
  have k2 : w2.cell? ⟨W.heap.size, 2, none⟩ = some (.slice a n c) := HX2.out.2 2 (by simp)
  clear hb2 BG HX1 HM1 HB1 HX0 HB0
  go_wp2_with fail
  clear k2
  go_loopw [4] (fun i wr => ∃ k : Nat, k ≤ n ∧ i = .int .i64 k ∧ MapR wr bm gm P (runD P (T0 P) (seg l 0 k)) ∧ Only (fun k => k = gm) w2 wr) (fun i _ => n - (intOf i).toNat)
  case atStart => exact ⟨0, Nat.zero_le _, rfl, by rw [seg_nil]; exact HM2.out, Only.refl _ _⟩
  case round =>
    obtain ⟨k, hk, rfl, hm, ho⟩ := hrel
    have hbw : Below W.heap.size W wr := only_new HB2.out ho (Nat.le_of_lt HBM.out.2)
    have hx := HX2.out.only ho (fun e => by have := HBM.out.2; have : W.heap.size = gm := e; omega)
    have k2 : wr.cell? ⟨W.heap.size, 2, none⟩ = some (.slice a n c) := hx.2 2 (by simp)
    by_cases hlt : k < n
    · have hkl : k < l.length := by rw [← HN.out]; omega
      obtain ⟨a', c', he, hcs⟩ := HR.out.below hbw
      simp only [Value.slice.injEq] at he
      obtain ⟨rfl, -, rfl⟩ := he
      obtain ⟨g0, o0, rfl, s0, s1, s2⟩ := hcs k hkl
      have AC := hide (act_any W.heap.size A bm gm P _ wr hm (runD_ok _ HOK.out) (HE.out.up hbw) (Nat.le_of_lt HBM.out.2) l[k].1 l[k].2.1 l[k].2.2)
      have HSG : Hid (runD P (T0 P) (seg l 0 (k + 1)) = (actD P (runD P (T0 P) (seg l 0 k)) l[k].1 l[k].2.2).1) := by
        show _ = _
        rw [seg_succ l 0 k (Nat.zero_le _) hkl, runD_snoc]
      have HO := hide ho
      have hkn : k < n := by omega
      have hkI : (k : Int) < (n : Int) := by omega
      generalize l[k].1 = z0 at *
      generalize l[k].2.1 = z1 at *
      generalize l[k].2.2 = z2 at *
      clear hm ho hx hcs hbw hkl
      go_wp2_with fail
      refine AC.out.mono ?_
      rintro e w3 ⟨u, hp⟩
      obtain ⟨rfl, -, hm3, ho3⟩ := hp
      have H3 : Hid (MapR w3 bm gm P (runD P (T0 P) (seg l 0 (k + 1)))) := by
        show MapR _ _ _ _ _
        rw [HSG.out]; exact hm3
      have O3 := hide (HO.out.trans ho3)
      clear hm3 ho3 AC HO HSG s0 s1 s2 k2
      go_wp2
      go_roundw
      case rel => exact ⟨k + 1, by omega, by go_num, H3.out, O3.out⟩
      case measure => simp [intOf]; omega
    · have hke : k = n := by omega
      have hkI : ¬ (k : Int) < (n : Int) := by omega
      rw [hke] at hm
      have HOK1 := hide (runD_ok (seg l 0 n) HOK.out)
      generalize runD P (T0 P) (seg l 0 n) = T at *
      have CP := hide (copy_any bm gm P T wr hm)
      have HM := hide hm
      have HB := hide hbw
      have HX := hide hx
      clear hm ho hx hbw HM2 HB2 HX2 HOK hke HR
      generalize wr = w3 at *
      go_wp2_with fail
      refine CP.out.mono ?_
      rintro e w4 ⟨bc, gc, rfl, q1, q2, hc4, hb4⟩
      have HC4 := hide hc4
      have HM4 := hide (HM.out.below hb4)
      have HX4 := hide (HX.out.below hb4)
      have HB4 := hide (HB.out.trans (hb4.mono HB.out.size))
      have HQ4 : Hid (bm < bc ∧ bm < gc ∧ gm < bc ∧ gm < gc) := ⟨by have := HM.out.ltb; omega, by have := HM.out.ltb; omega, by have := HM.out.ltg; omega, by have := HM.out.ltg; omega⟩
      have CP2 := hide (copy_any bm gm P T w4 HM4.out)
      clear hc4 hb4 q1 q2 CP HM HB HX hkI k2
      go_wp2_with fail
      refine CP2.out.mono ?_
      rintro e w5 ⟨bs, gs, rfl, q1, q2, hc5, hb5⟩
      have HS5 := hide hc5
      have HM5 := hide (HM4.out.below hb5)
      have HC5 := hide (HC4.out.below hb5)
      have HX5 := hide (HX4.out.below hb5)
      have HB5 := hide (HB4.out.trans (hb5.mono HB4.out.size))
      have HQ5 : Hid ((bm < bs ∧ bm < gs ∧ gm < bs ∧ gm < gs) ∧ (bc < bs ∧ bc < gs ∧ gc < bs ∧ gc < gs)) := ⟨⟨by have := HM4.out.ltb; omega, by have := HM4.out.ltb; omega, by have := HM4.out.ltg; omega, by have := HM4.out.ltg; omega⟩, ⟨by have := HC4.out.ltb; omega, by have := HC4.out.ltb; omega, by have := HC4.out.ltg; omega, by have := HC4.out.ltg; omega⟩⟩
      clear hc5 hb5 q1 q2 CP2 HM4 HC4 HX4 HB4
      have hP2 := HP.out.2
      have hFl := frl_le T P
      obtain ⟨F, hF⟩ : ∃ F, F = (frl T P).length := ⟨_, rfl⟩
      have hFb : F ≤ 300 := by omega
      have HF := hide hF
      have hbX : Below w5.heap.size w5 w5.drew := (Below.refl _ _).drew
      have FR := hide (free_any bm gm P T w5.drew (HM5.out.below hbX) HOK1.out)
      rw [← hF] at FR
      obtain ⟨F1, hF1⟩ : ∃ F1, F1 = F + 1 := ⟨_, rfl⟩
      have PK : Hid (∀ X, Calls Tryd.prog 17 #[.int .i64 nn, .int .i64 (F1 : Int)] X fun e w' => e = .returned (.int .i64 (pickN nn F1 : Nat)) ∧ X = w') := fun X => pick_any nn F1 X (by omega) (by omega)
      have hp1 := pickN_lt nn F1 (by omega)
      have hw1 : IntKind.i64.wrap ((F : Int) + 1) = (F1 : Int) := by rw [IntKind.wrap_i64]; omega
      have hF1b : F1 ≤ 301 := by omega
      have k3 : w5.cell? ⟨W.heap.size, 3, none⟩ = some (.int .i64 nn) := HX5.out.2 3 (by simp)
      generalize pickN nn F1 = N at *
      have hNF : N ≤ F := by omega
      clear hF hF1 hFl hbX
      go_upto_region 12 with fail
      go_cut [7] (fun u wx => u = .int .i64 (N : Int) ∧ Below w5.heap.size w5 wx)
      case first =>
        go_region_held3 (fun w' => w'.cell? ⟨W.heap.size, 3, none⟩ = some (.int .i64 nn)) (go_keep)
          (first
            | (go_at_call 18; refine FR.out.mono ?_; rintro e W1 ⟨rfl, rfl⟩)
            | (go_at_call 17; refine (PK.out _).mono ?_; rintro e W1 ⟨rfl, rfl⟩))
        all_goals
          go_wp2_with fail
          go_meet
        all_goals exact ⟨rfl, (Below.refl _ _).drew⟩
      case rest =>
        obtain ⟨rfl, hb6⟩ := hcut
        have HM6 := hide (HM5.out.below hb6)
        have HC6 := hide (HC5.out.below hb6)
        have HS6 := hide (HS5.out.below hb6)
        have HX6 := hide (HX5.out.below hb6)
        have HB6 := hide (HB5.out.trans (hb6.mono HB5.out.size))
        clear hb6 HM5 HC5 HS5 HX5 HB5 FR PK k3 hw1 hp1 hF1b
        generalize wc = w6 at *
        have hbX : Below w6.heap.size w6 w6.drew := (Below.refl _ _).drew
        have FR := hide (free_any bm gm P T w6.drew (HM6.out.below hbX) HOK1.out)
        rw [← HF.out] at FR
        obtain ⟨D, hD⟩ : ∃ D, D = F - N := ⟨_, rfl⟩
        obtain ⟨D1, hD1⟩ : ∃ D1, D1 = D + 1 := ⟨_, rfl⟩
        have PK : Hid (∀ X, Calls Tryd.prog 17 #[.int .i64 kk, .int .i64 (D1 : Int)] X fun e w' => e = .returned (.int .i64 (pickN kk D1 : Nat)) ∧ X = w') := fun X => pick_any kk D1 X (by omega) (by omega)
        have hp1 := pickN_lt kk D1 (by omega)
        have hw1 : IntKind.i64.wrap ((F : Int) - (N : Int)) = (D : Int) := by rw [IntKind.wrap_i64]; omega
        have hw2 : IntKind.i64.wrap ((D : Int) + 1) = (D1 : Int) := by rw [IntKind.wrap_i64]; omega
        have hDb : D ≤ 300 := by omega
        have hD1b : D1 ≤ 301 := by omega
        have k4 : w6.cell? ⟨W.heap.size, 4, none⟩ = some (.int .i64 kk) := HX6.out.2 4 (by simp)
        generalize pickN kk D1 = M at *
        have hNM : N + M ≤ F := by omega
        clear hD hD1 hbX hNF
        go_upto_region 13 with fail
        go_cut [8] (fun u wx => u = .int .i64 (M : Int) ∧ Below w6.heap.size w6 wx)
        case first =>
          go_region_held3 (fun w' => w'.cell? ⟨W.heap.size, 4, none⟩ = some (.int .i64 kk)) (go_keep)
            (first
              | (go_at_call 18; refine FR.out.mono ?_; rintro e W1 ⟨rfl, rfl⟩)
              | (go_at_call 17; refine (PK.out _).mono ?_; rintro e W1 ⟨rfl, rfl⟩))
          all_goals
            go_wp2_with fail
            go_meet
          all_goals exact ⟨rfl, (Below.refl _ _).drew⟩
        case rest =>
          obtain ⟨rfl, hb7⟩ := hcut
          have HM7 := hide (HM6.out.below hb7)
          have HC7 := hide (HC6.out.below hb7)
          have HS7 := hide (HS6.out.below hb7)
          have HB7 := hide (HB6.out.trans (hb7.mono HB6.out.size))
          clear hb7 HM6 HC6 HS6 HX6 HB6 FR PK k4 hw1 hw2 hp1 hDb hD1b
          generalize wc = w7 at *
          have hNF : N ≤ (frl T P).length := by rw [← HF.out]; omega
          have TK1 := hide (take_any W.heap.size A bm gm P T N w7 HM7.out HOK1.out (HE.out.up HB7.out))
          rw [takeD_ok hNF] at TK1
          have HOK2 := hide (updL_ok HOK1.out (lowL T P N))
          have hMF : M ≤ (frl (updL T (lowL T P N)) P).length := by rw [frl_taken, List.length_drop, ← HF.out]; omega
          have HMF := hide hMF
          have hSF : N + M ≤ (frl T P).length := by rw [← HF.out]; exact hNM
          have HSF := hide hSF
          have HCA : Hid (lowL T P N ++ lowL (updL T (lowL T P N)) P M = lowL T P (N + M)) := lowL_two T P N M
          have hlenA : (lowL T P N).length = N := by rw [lowL_len]; omega
          have hlenB : (lowL (updL T (lowL T P N)) P M).length = M := by rw [lowL_len]; omega
          have hlenC : (lowL T P (N + M)).length = N + M := by rw [lowL_len]; omega
          have HLA := hide hlenA
          have HLB := hide hlenB
          have HLC := hide hlenC
          have hNb : N ≤ 300 := by omega
          have hMb : M ≤ 300 := by omega
          clear hNF hMF hSF hlenA hlenB hlenC hNM
          go_wp2_with fail
          refine TK1.out.mono ?_
          rintro e w8 ⟨va, rfl, rla, hm8, o8⟩
          simp only [HLA.out] at rla
          obtain ⟨aa, ca, rfl, -⟩ := owns_form rla
          have HA8 := hide rla
          have HM8 := hide hm8
          have HB8 := hide (only_new HB7.out o8 (Nat.le_of_lt HBM.out.2))
          have HC8 := hide (HC7.out.only o8 (fun e => by have := HQ4.out; have : bc = gm := e; omega) (fun e => by have := HQ4.out; have : gc = gm := e; omega))
          have HS8 := hide (HS7.out.only o8 (fun e => by have := HQ5.out; have : bs = gm := e; omega) (fun e => by have := HQ5.out; have : gs = gm := e; omega))
          have HG8 : Hid (gm < w7.heap.size ∧ gs < w7.heap.size) := ⟨HM7.out.ltg, HS7.out.ltg⟩
          have TK2 := hide (take_any W.heap.size A bm gm P _ M w8 HM8.out HOK2.out (HE.out.up HB8.out))
          rw [takeD_ok HMF.out] at TK2
          clear rla hm8 o8 TK1 HM7 HC7 HS7 HB7
          unfold errV
          go_wp2_with fail
          refine TK2.out.mono ?_
          rintro e w9 ⟨vb, rfl, rlb, hm9, o9⟩
          simp only [HLB.out] at rlb
          obtain ⟨ab, cb, rfl, -⟩ := owns_form rlb
          rw [updL_two, HCA.out] at hm9
          have HA9 := hide (owns_only HA8.out o9 (fun k hk e => by have := (owns_blk HA8.out k hk).1; have := HG8.out; have : k = gm := e; omega))
          have HB'9 := hide rlb
          have HM9 := hide hm9
          have HB9 := hide (only_new HB8.out o9 (Nat.le_of_lt HBM.out.2))
          have HC9 := hide (HC8.out.only o9 (fun e => by have := HQ4.out; have : bc = gm := e; omega) (fun e => by have := HQ4.out; have : gc = gm := e; omega))
          have HS9 := hide (HS8.out.only o9 (fun e => by have := HQ5.out; have : bs = gm := e; omega) (fun e => by have := HQ5.out; have : gs = gm := e; omega))
          have HG9 : Hid (gs < w8.heap.size) := HS8.out.ltg
          have hsum : (N : Int) + (M : Int) = ((N + M : Nat) : Int) := by omega
          have TK3 := hide (take_any W.heap.size A bs gs P T ((N + M : Nat) : Int) w9 HS9.out HOK1.out (HE.out.up HB9.out))
          rw [takeD_ok HSF.out] at TK3
          obtain ⟨R, hR⟩ : ∃ R, R = N + M := ⟨_, rfl⟩
          rw [← hR] at TK3 hsum
          have hRb : R ≤ 600 := by omega
          rw [← hR] at HM9 HCA HLC
          have HRE := hide hR
          clear rlb hm9 o9 TK2 HM8 HC8 HS8 HB8 HA8 hR
          unfold errV
          go_wp2_with fail
          refine TK3.out.mono ?_
          rintro e w10 ⟨vc, rfl, rlc, hs10, o10⟩
          simp only [HLC.out] at rlc
          obtain ⟨ac, cc, rfl, hsome⟩ := owns_form rlc
          have HCR := hide rlc
          have HSM := hide hsome
          have HS10 := hide hs10
          have HGS : Hid (W.heap.size ≤ gs) := by show _ ≤ _; have := HBM.out; have := HQ5.out; omega
          have HB10 := hide (only_new HB9.out o10 HGS.out)
          have HM10 := hide (HM9.out.only o10 (fun e => by have := HQ5.out; have : bm = gs := e; omega) (fun e => by have := HQ5.out; have : gm = gs := e; omega))
          have HC10 := hide (HC9.out.only o10 (fun e => by have := HQ5.out; have : bc = gs := e; omega) (fun e => by have := HQ5.out; have : gc = gs := e; omega))
          have HA10 := hide (owns_only HA9.out o10 (fun k hk e => by have := (owns_blk HA9.out k hk).1; have := HG8.out; have : k = gs := e; omega))
          have HB'10 := hide (owns_only HB'9.out o10 (fun k hk e => by have := (owns_blk HB'9.out k hk).1; have := HG9.out; have : k = gs := e; omega))
          have HOK3 := hide (updL_ok HOK1.out (lowL T P R))
          have HGC : Hid (gm < w9.heap.size ∧ gs < w9.heap.size) := ⟨HM9.out.ltg, HS9.out.ltg⟩
          have AL := hide (alike_any bm gm bs gs P _ w10 HM10.out HS10.out HOK3.out)
          clear rlc hs10 o10 TK3 HM9 HC9 HS9 HB9 HA9 HB'9 hsome hsum
          unfold errV
          go_wp2_with fail
          refine AL.out.mono ?_
          rintro e w11 ⟨rfl, hb11⟩
          have HB11 := hide (HB10.out.trans (hb11.mono HB10.out.size))
          have HM11 := hide (HM10.out.below hb11)
          have HS11 := hide (HS10.out.below hb11)
          have HC11 := hide (HC10.out.below hb11)
          have HCR11 := hide (owns_below HCR.out hb11)
          have HA11 := hide (owns_below HA10.out hb11)
          have HB'11 := hide (owns_below HB'10.out hb11)
          obtain ⟨xa, xc, w12, hrun1, hox1, hgr1⟩ := append_row 28 3 _ 8 info3 Tryd.underlying28 rfl w11.heap.size 0 (.slice none 0 0) [] w11 (World.ownsRow_nil _ _ _ _) _ (nats (lowL T P N)) (rowR_of_owns HA11.out) (nats_one _) (by rw [nats_length, HLA.out]; omega) (by decide) (Nat.le_refl _)
          rw [nats_length, HLA.out, Nat.zero_add] at hrun1 hox1
          rw [List.nil_append] at hox1
          have hb12 : Below w11.heap.size w11 w12 := (Below.refl _ _).grown hgr1 (Nat.le_refl _) (fun j hj => by cases hj)
          obtain ⟨ya, yc, w13, hrun2, hox2, hgr2⟩ := append_row 28 3 _ 8 info3 Tryd.underlying28 rfl w11.heap.size N (.slice xa N xc) _ w12 hox1 _ (nats (lowL (updL T (lowL T P N)) P M)) (rowR_of_owns (owns_below HB'11.out hb12)) (nats_one _) (by rw [nats_length, HLB.out]; omega) (by decide) hb12.size
          rw [nats_length, HLB.out, ← nats_append, HCA.out, ← HRE.out] at hox2
          rw [nats_length, HLB.out, ← HRE.out] at hrun2
          have hb13 : Below w11.heap.size w11 w13 := hb12.grown hgr2 hb12.size (fun j hj => (owns_blk hox1 j hj).1)
          have HB13 := hide (HB11.out.trans (hb13.mono HB11.out.size))
          have HM13 := hide (HM11.out.below hb13)
          have HS13 := hide (HS11.out.below hb13)
          have HC13 := hide (HC11.out.below hb13)
          have HCR13 := hide (owns_below HCR11.out hb13)
          have SI := hide (samei_any _ _ (lowL T P R) w13 (by rw [HLC.out]; omega) (natR_of_owns hox2) (natR_of_owns HCR13.out))
          clear hb11 hb12 hb13 hox1 hox2 hgr1 hgr2 AL HM10 HS10 HC10 HCR HA10 HB'10 HM11 HS11 HC11 HCR11 HA11 HB'11 HB10 HB11
          go_wp2_with (first | (at_builtin; refine wpList_append_run 28 rfl (.tmp 103) (.tmp 104) rfl rfl _ _ rfl rfl _ _ hrun1 ?_) | (at_builtin; refine wpList_append_run 28 rfl (.tmp 106) (.tmp 107) rfl rfl _ _ rfl rfl _ _ hrun2 ?_))
          refine SI.out.mono ?_
          rintro e w14 ⟨rfl, hb14⟩
          have HB14 := hide (HB13.out.trans (hb14.mono HB13.out.size))
          have HM14 := hide (HM13.out.below hb14)
          have HS14 := hide (HS13.out.below hb14)
          have HC14 := hide (HC13.out.below hb14)
          have HCR14 := hide (owns_below HCR13.out hb14)
          have HCN := hide (lowL_nodup T P R)
          have HCT : Hid (∀ j ∈ lowL T P R, 2 ≤ j ∧ j < P ∧ T j = false) := fun j hj => lowL_tree HOK1.out hj
          generalize lowL T P R = C at *
          clear hb14 SI HM13 HS13 HC13 HCR13 HB13 hrun1 hrun2
          go_wp2_with fail
          go_loopw [16] (fun i wr => ∃ k : Nat, k ≤ R ∧ i = .int .i64 k ∧ MapR wr bm gm P (updL T (C.take (R - k))) ∧ MapR wr bs gs P (updL T (C.drop k)) ∧ Only (fun k => k = gm ∨ k = gs) w14 wr) (fun i _ => R - (intOf i).toNat)
          case atStart => exact ⟨0, Nat.zero_le _, rfl, by rw [Nat.sub_zero, ← HLC.out, List.take_length]; exact HM14.out, by rw [List.drop_zero]; exact HS14.out, Only.refl _ _⟩
          case round =>
            obtain ⟨k, hk, rfl, hm, hs, ho⟩ := hrel
            have hbw : Below W.heap.size W wr := HB14.out.trans (ho.below (fun k hk => by have := HBM.out; have := HGS.out; rcases hk with h | h <;> omega) HB14.out.size)
            by_cases hlt : k < R
            · obtain ⟨g2, rfl⟩ := HSM.out (by omega)
              obtain ⟨j, hj⟩ : ∃ j, j = R - 1 - k := ⟨_, rfl⟩
              have hkC : k < C.length := by rw [HLC.out]; exact hlt
              have hjC : j < C.length := by rw [HLC.out]; omega
              have hg2 : g2 ≠ gm ∧ g2 ≠ gs := by have := (owns_blk HCR14.out g2 rfl).1; have := HGC.out; exact ⟨by omega, by omega⟩
              have HG2 := hide hg2
              have cej : w14.cell? ⟨g2, j, none⟩ = some (.int .i64 (C[j] : Int)) := by rw [HCR14.out.cellAt j (by omega)]; exact nats_get C j hjC
              have cek : w14.cell? ⟨g2, k, none⟩ = some (.int .i64 (C[k] : Int)) := by rw [HCR14.out.cellAt k (by omega)]; exact nats_get C k hkC
              have hnot : ¬ (g2 = gm ∨ g2 = gs) := fun h => h.elim hg2.1 hg2.2
              have dj := ho.cell cej hnot
              have CEK := hide (ho.cell cek hnot)
              have CL1 := hide (clear_any W.heap.size A bm gm P _ (C[j] : Int) wr hm (HE.out.up hbw))
              rw [show R - k = j + 1 by omega, clear_last HCN.out HCT.out j hjC] at CL1
              have HCF := hide (clear_first HCN.out HCT.out k hkC)
              have hj1 : (R : Int) - 1 - (k : Int) = (j : Int) := by omega
              have hj2 : IntKind.i64.wrap ((R : Int) - 1 - (k : Int)) = (j : Int) := by rw [IntKind.wrap_i64]; omega
              have hjR : j < R := by omega
              have hjI : (j : Int) < (R : Int) := by omega
              have j0 : (0 : Int) ≤ (j : Int) := by omega
              have hkI : (k : Int) < (R : Int) := by omega
              have HJ := hide hj
              have HMS := hide hs
              have HO := hide ho
              have HBW := hide hbw
              generalize C[j] = x at *
              generalize C[k] = y at *
              clear hm hs ho hbw cej cek hnot hg2 hj hkC hjC
              go_wp2_with fail
              refine CL1.out.mono ?_
              rintro e w15 ⟨rfl, h15, o15⟩
              have HM15 := hide h15
              have HB15 := hide (only_new HBW.out o15 (Nat.le_of_lt HBM.out.2))
              have HS15 := hide (HMS.out.only o15 (fun e => by have := HQ5.out; have : bs = gm := e; omega) (fun e => by have := HQ5.out; have : gs = gm := e; omega))
              have cek : w15.cell? ⟨g2, k, none⟩ = some (.int .i64 (y : Int)) := o15.cell CEK.out HG2.out.1
              have CL2 := hide (clear_any W.heap.size A bs gs P _ (y : Int) w15 HS15.out (HE.out.up HB15.out))
              rw [HCF.out] at CL2
              have HO15 := hide (HO.out.trans (o15.imp (fun k _ h => Or.inl h)))
              clear h15 o15 CL1 HMS HO HBW dj CEK
              unfold errV
              go_wp2_with fail
              refine CL2.out.mono ?_
              rintro e w16 ⟨rfl, h16, o16⟩
              have HS16 := hide h16
              have HM16 := hide (HM15.out.only o16 (fun e => by have := HQ5.out; have : bm = gs := e; omega) (fun e => by have := HQ5.out; have : gm = gs := e; omega))
              have HO16 := hide (HO15.out.trans (o16.imp (fun k _ h => Or.inr h)))
              clear h16 o16 CL2 HM15 HS15 HO15 HB15 cek
              unfold errV
              go_wp2
              go_roundw
              case rel => exact ⟨k + 1, by omega, by go_num, by rw [show R - (k + 1) = j by have := HJ.out; omega]; exact HM16.out, HS16.out, HO16.out⟩
              case measure => simp [intOf]; omega
            · have hke : k = R := by omega
              have hkI : ¬ (k : Int) < (R : Int) := by omega
              rw [hke, Nat.sub_self, List.take_zero, updL_nil] at hm
              rw [hke, ← HLC.out, List.drop_length, updL_nil] at hs
              have HC15 := hide (HC14.out.only ho (fun e => by have := HQ4.out; have := HQ5.out; rcases e with h | h <;> omega) (fun e => by have := HQ4.out; have := HQ5.out; rcases e with h | h <;> omega))
              have HS15 := hide hs
              have HB15 := hide hbw
              have AL := hide (alike_any bm gm bc gc P T wr hm HC15.out HOK1.out)
              clear hm hs ho hbw HM14 HS14 HC14 HB14 hke
              generalize wr = w15 at *
              go_wp2_with fail
              refine AL.out.mono ?_
              rintro e w16 ⟨rfl, hb16⟩
              have AL2 := hide (alike_any bs gs bc gc P T w16 (HS15.out.below hb16) (HC15.out.below hb16) HOK1.out)
              have HB16 := hide (HB15.out.trans (hb16.mono HB15.out.size))
              clear hb16 AL HS15 HC15 HB15 hkI
              go_wp2_with fail
              refine AL2.out.mono ?_
              rintro e w17 ⟨rfl, hb17⟩
              have HB17 := hide (HB16.out.trans (hb17.mono HB16.out.size))
              clear hb17 AL2 HB16
              go_wp2
              go_ret
              exact ⟨rfl, HB17.out⟩

end Go.Proofs.YtdghlblgmihbpaaDoor
