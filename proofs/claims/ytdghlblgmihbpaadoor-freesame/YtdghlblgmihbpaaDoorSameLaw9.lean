import Derived.Test.YtdghlblgmihbpaaDoorFStp
import Derived.Deep.RegionHeld3
import Derived.Deep.DeepCutAuto
import Derived.Deep.CutBlock
namespace Go.Proofs.YtdghlblgmihbpaaDoor
open Go.RowKit

theorem act_len {P : Nat} {T : Nat → Bool} (h : MapOk P T) (K n : Int) : (actD P T K n).2.list.length ≤ 140737488355328 := by
  have h1 := frl_le T P
  have h2 := h.hi
  unfold actD
  repeat' split
  all_goals try (simp [said0]; done)
  unfold takeD
  split
  · simp
  · split
    · simp
    · simp only []
      rw [lowL_len]; omega
/-- Marked from k on as T says. -/
def mixT (P : Nat) (T : Nat → Bool) (k : Nat) : Nat → Bool := fun j => T0 P j || (decide (k ≤ j) && T j)
theorem mixT_top {P : Nat} {T : Nat → Bool} (_h : MapOk P T) : mixT P T P = T0 P := by
  funext j
  unfold mixT T0
  by_cases hj : P ≤ j <;> simp [hj]
theorem mixT_all {P : Nat} {T : Nat → Bool} (h : MapOk P T) : mixT P T 2 = T := by
  funext j
  unfold mixT T0
  by_cases h0 : j < 2
  · have : j = 0 ∨ j = 1 := by omega
    rcases this with rfl | rfl
    · simp [h.t0]
    · simp [h.t1]
  · by_cases hP : P ≤ j
    · simp [h.up j hP, hP]
    · simp [h0, hP, show 2 ≤ j by omega]
theorem mixT_skip {P q : Nat} {T : Nat → Bool} (h1 : 2 ≤ q) (h2 : q < P) (hT : T q = false) : mixT P T (q + 1) = mixT P T q := by
  funext j
  unfold mixT T0
  by_cases hj : j = q
  · subst hj; simp [hT]
  · by_cases hl : q ≤ j
    · simp [hl, show q + 1 ≤ j by omega]
    · simp [hl, show ¬ q + 1 ≤ j by omega]
theorem mixT_mark {P q : Nat} {T : Nat → Bool} (h1 : 2 ≤ q) (h2 : q < P) (hT : T q = true) : markD P (mixT P T (q + 1)) (q : Int) = (none, mixT P T q) := by
  have ht : treeB P (q : Int) = true := by simp [treeB]; omega
  have hf : mixT P T (q + 1) q = false := by simp [mixT, T0]; omega
  unfold markD
  rw [if_pos ht, Int.toNat_natCast, hf, if_neg (by simp)]
  refine congrArg (Prod.mk none) ?_
  funext j
  unfold upd
  by_cases hj : j = q
  · subst hj; simp [mixT, hT]
  · rw [if_neg hj]
    unfold mixT
    by_cases hl : q ≤ j
    · simp [hl, show q + 1 ≤ j by omega]
    · simp [hl, show ¬ q + 1 ≤ j by omega]

set_option maxRecDepth 100000 in
set_option maxHeartbeats 4000000 in
theorem samef_any (A : Nat → Addr) (l : List Stp) (v : Value) (pg og : Int) (W : World) (hE : Env W.heap.size A W) (hr : StpR W v l) (hl : l.length ≤ 5864062014634) :
    Calls Tryd.prog 3 #[.agg #[.int .i64 pg, .int .i64 og, v]] W fun e w' => e = .returned (.bool true) ∧ Below W.heap.size W w' := by
  obtain ⟨a, c, rfl, hc⟩ := id hr
  clear hc
  obtain ⟨w0, hw0⟩ : ∃ w0, w0 = W.alloc (.cells #[.int .i64 pg, .int .i64 og, .slice a l.length c] 24) := ⟨_, rfl⟩
  have hb0 : Below W.heap.size W w0 := by rw [hw0]; exact below_new _ _
  have hx0 : Boxed W.heap.size [.int .i64 pg, .int .i64 og, .slice a l.length c] w0 := by rw [hw0]; exact boxed_new W #[.int .i64 pg, .int .i64 og, .slice a l.length c] 24
  have k0 : w0.cell? ⟨W.heap.size, 0, none⟩ = some (.int .i64 pg) := hx0.2 0 (by simp)
  have HSZ : Hid (W.heap.size < w0.heap.size) := hx0.1
  have HMD := hide (made_any pg w0)
  have HMD2 : Hid (∀ w, Calls Tryd.prog 8 #[.int .i64 pg] w fun e w' => ∃ b g, e = .returned (.pointer (some ⟨b, 0, none⟩)) ∧ w.heap.size ≤ b ∧ w.heap.size ≤ g ∧ MapR w' b g (madeP pg) (T0 (madeP pg)) ∧ Below w.heap.size w w') := fun w => made_any pg w
  have HP := hide (madeP_lo pg)
  have HB0 := hide hb0
  have HX0 := hide hx0
  have HE := hide hE
  have HR := hide hr
  obtain ⟨n, hn⟩ : ∃ n, n = l.length := ⟨_, rfl⟩
  rw [← hn] at hw0 hl HX0 HR
  rw [← hn]
  have HN := hide hn
  clear hb0 hx0 hE hr hn
  generalize madeP pg = P at *
  go_enter Tryd.func3, Tryd.ntmps3
  go_wp2_with fail
  rw [← hw0]
  clear hw0
  refine HMD.out.mono ?_
  rintro e v1 ⟨bm, gm, rfl, h1, h2, hm1, hb1⟩
  have HBM : Hid (W.heap.size < bm ∧ W.heap.size < gm) := ⟨by have := HSZ.out; omega, by have := HSZ.out; omega⟩
  have HB9 := hide (HB0.out.trans (hb1.mono (Nat.le_of_lt HSZ.out)))
  have HX9 := hide (HX0.out.below hb1)
  have HM9 := hide hm1
  have k0 : v1.cell? ⟨W.heap.size, 0, none⟩ = some (.int .i64 pg) := HX9.out.2 0 (by simp)
  have HMD2 := hide (HMD2.out v1)
  clear h1 h2 hm1 hb1 HMD HX0 HB0
  go_wp2_with fail
  refine HMD2.out.mono ?_
  rintro e w1 ⟨bn, gn, rfl, h1, h2, hn1, hb1⟩
  have HBN : Hid ((W.heap.size < bn ∧ W.heap.size < gn) ∧ (bm < bn ∧ bm < gn ∧ gm < bn ∧ gm < gn)) := ⟨⟨by have := HM9.out.ltb; have := HBM.out; omega, by have := HM9.out.ltb; have := HBM.out; omega⟩, by have := HM9.out.ltb; omega, by have := HM9.out.ltb; omega, by have := HM9.out.ltg; omega, by have := HM9.out.ltg; omega⟩
  have HB1 := hide (HB9.out.trans (hb1.mono HB9.out.size))
  have HX1 := hide (HX9.out.below hb1)
  have HM1 := hide (HM9.out.below hb1)
  have HN1 := hide hn1
  have HOK := hide (t0_ok (P := P) HP.out.1 (by have := HP.out.2; omega))
  have BG := hide (begun_any W.heap.size A w1 (HE.out.up HB1.out))
  clear h1 h2 hn1 hb1 HMD2 HB9 HX9 HM9 k0
  go_wp2_with fail
  refine BG.out.mono ?_
  rintro e w2 ⟨rfl, hb2⟩
  have HB2 := hide (HB1.out.trans (hb2.mono HB1.out.size))
  have HX2 := hide (HX1.out.below hb2)
  have HM2 := hide (HM1.out.below hb2)
  have HN2 := hide (HN1.out.below hb2)
  have k2 : w2.cell? ⟨W.heap.size, 2, none⟩ = some (.slice a n c) := HX2.out.2 2 (by simp)
  clear hb2 BG HX1 HM1 HB1 HN1
  go_wp2_with fail
  obtain ⟨hf, hhf⟩ : ∃ hf, hf = n / 2 := ⟨_, rfl⟩
  have hh : (n : Int) / 2 = (hf : Int) := by omega
  have hhn : hf ≤ n := by omega
  rw [hh]
  clear hhf hh k2
  go_loopw [6] (fun i wr => ∃ k : Nat, k ≤ hf ∧ i = .int .i64 k ∧ MapR wr bm gm P (runD P (T0 P) (seg l 0 k)) ∧ Only (fun k => k = gm) w2 wr) (fun i _ => hf - (intOf i).toNat)
  case atStart => exact ⟨0, Nat.zero_le _, rfl, by rw [seg_nil]; exact HM2.out, Only.refl _ _⟩
  case round =>
    obtain ⟨k, hk, rfl, hm, ho⟩ := hrel
    have hbw : Below W.heap.size W wr := only_new HB2.out ho (Nat.le_of_lt HBM.out.2)
    have hx := HX2.out.only ho (fun e => by have := HBM.out.2; have : W.heap.size = gm := e; omega)
    have k2 : wr.cell? ⟨W.heap.size, 2, none⟩ = some (.slice a n c) := hx.2 2 (by simp)
    by_cases hlt : k < hf
    · have hkl : k < l.length := by rw [← HN.out]; omega
      obtain ⟨a', c', he, hcs⟩ := HR.out.below hbw
      simp only [Value.slice.injEq] at he
      obtain ⟨rfl, -, rfl⟩ := he
      obtain ⟨g0, o0, rfl, s0, s1, s2⟩ := hcs k hkl
      have AC := hide (act_any W.heap.size A bm gm P _ wr hm (runD_ok _ HOK.out) (HE.out.up hbw) (Nat.le_of_lt HBM.out.2) l[k].1 l[k].2.1 l[k].2.2)
      have HSG : Hid (runD P (T0 P) (seg l 0 (k + 1)) = (actD P (runD P (T0 P) (seg l 0 k)) l[k].1 l[k].2.2).1) := by
        show _ = _
        rw [seg_succ l 0 k (Nat.zero_le _) hkl, runD_snoc]
      have HO := hide ho
      have hkn : k < n := by omega
      have hkI : (k : Int) < (n : Int) := by omega
      generalize l[k].1 = z0 at *
      generalize l[k].2.1 = z1 at *
      generalize l[k].2.2 = z2 at *
      clear hm ho hx hcs hbw hkl
      go_wp2_with fail
      refine AC.out.mono ?_
      rintro e w3 ⟨u, hp⟩
      obtain ⟨rfl, -, hm3, ho3⟩ := hp
      have H3 : Hid (MapR w3 bm gm P (runD P (T0 P) (seg l 0 (k + 1)))) := by
        show MapR _ _ _ _ _
        rw [HSG.out]; exact hm3
      have O3 := hide (HO.out.trans ho3)
      clear hm3 ho3 AC HO HSG s0 s1 s2 k2
      go_wp2
      go_roundw
      case rel => exact ⟨k + 1, by omega, by go_num, H3.out, O3.out⟩
      case measure => simp [intOf]; omega
    · have hke : k = hf := by omega
      have hkI : ¬ (k : Int) < (hf : Int) := by omega
      rw [hke] at hm
      have HOK1 := hide (runD_ok (seg l 0 hf) HOK.out)
      generalize runD P (T0 P) (seg l 0 hf) = T at *
      have HM := hide hm
      have HNN := hide (HN2.out.only ho (fun e => by have := HBN.out; have : bn = gm := e; omega) (fun e => by have := HBN.out; have : gn = gm := e; omega))
      have HB := hide hbw
      have HX := hide hx
      have SZ := hide (size_any bn gn P (T0 P) wr HNN.out)
      have hP1 := HP.out.1
      have hP2 := HP.out.2
      clear hm ho hx hbw HM2 HB2 HX2 HN2 k2 hke
      generalize wr = w3 at *
      go_wp2_with fail
      refine SZ.out.mono ?_
      rintro e w4 ⟨rfl, rfl⟩
      clear SZ hkI
      go_wp2_with fail
      go_loopw [7] (fun i wr => ∃ k : Nat, 2 ≤ k ∧ k ≤ P ∧ i = .int .i64 ((k : Int) - 1) ∧ MapR wr bn gn P (mixT P T k) ∧ Only (fun k => k = gn) w3 wr) (fun i _ => (intOf i).toNat)
      case atStart => exact ⟨P, by omega, Nat.le_refl _, rfl, by rw [mixT_top HOK1.out]; exact HNN.out, Only.refl _ _⟩
      case round =>
        obtain ⟨k, hk1, hk2, rfl, hm, ho⟩ := hrel
        have hbw : Below W.heap.size W wr := only_new HB.out ho (by have := HBN.out; omega)
        have hmm := HM.out.only ho (fun e => by have := HBN.out; have : bm = gn := e; omega) (fun e => by have := HBN.out; have : gm = gn := e; omega)
        by_cases hlt : 2 < k
        · obtain ⟨q, rfl⟩ : ∃ q, k = q + 1 := ⟨k - 1, by omega⟩
          have hq : ((q + 1 : Nat) : Int) - 1 = (q : Int) := by omega
          rw [hq]
          have US := hide (used_any bm gm P T q wr hmm)
          have hub : usedB P T (q : Int) = T q := by simp [usedB]; omega
          rw [hub] at US
          have HQ2 : Hid (2 ≤ q ∧ q < P) := ⟨by omega, by omega⟩
          have HO := hide ho
          have HMN := hide hm
          have HBW := hide hbw
          have hqI : (2 : Int) ≤ (q : Int) := by omega
          clear hm ho hmm hbw hub
          cases hT : T q with
          | true =>
            rw [hT] at US
            have HT := hide hT
            clear hT hq
            go_wp2_with fail
            refine US.out.mono ?_
            rintro e w5 ⟨rfl, hb5⟩
            have MK := hide (mark_any W.heap.size A bn gn P (mixT P T (q + 1)) q w5 (HMN.out.below hb5) (HE.out.up (HBW.out.trans (hb5.mono HBW.out.size))))
            have HMK : Hid (markD P (mixT P T (q + 1)) (q : Int) = (none, mixT P T q)) := mixT_mark HQ2.out.1 HQ2.out.2 HT.out
            rw [HMK.out] at MK
            have HO5 := hide (HO.out.trans (Only.of_below hb5))
            clear hb5 US HO
            go_wp2_with fail
            refine MK.out.mono ?_
            rintro e w6 ⟨rfl, h6, o6⟩
            have H6 := hide h6
            have O6 := hide (HO5.out.trans o6)
            clear h6 o6 MK HO5
            unfold errV
            go_wp2
            go_roundw
            case rel => exact ⟨q, by omega, by omega, by go_num, H6.out, O6.out⟩
            case measure => simp [intOf]; omega
          | false =>
            rw [hT] at US
            have HMX : Hid (mixT P T (q + 1) = mixT P T q) := mixT_skip HQ2.out.1 HQ2.out.2 hT
            clear hT hq
            go_wp2_with fail
            refine US.out.mono ?_
            rintro e w5 ⟨rfl, hb5⟩
            have H5 : Hid (MapR w5 bn gn P (mixT P T q)) := by
              show MapR _ _ _ _ _
              rw [← HMX.out]; exact HMN.out.below hb5
            have HO5 := hide (HO.out.trans (Only.of_below hb5))
            clear hb5 US HO
            go_wp2
            go_roundw
            case rel => exact ⟨q, by omega, by omega, by go_num, H5.out, HO5.out⟩
            case measure => simp [intOf]; omega
        · have hke : k = 2 := by omega
          rw [hke, mixT_all HOK1.out] at hm
          have HM5 := hide hmm
          have HN5 := hide hm
          have HB5 := hide hbw
          have HX5 := hide (HX.out.only ho (fun e => by have := HBN.out; have : W.heap.size = gn := e; omega))
          clear hm ho hmm hbw HM HNN HB HX
          subst hke
          generalize wr = w5 at *
          go_wp2_with fail
          go_loopw [8] (fun i wr => ∃ k : Nat, hf ≤ k ∧ k ≤ n ∧ i = .int .i64 k ∧ MapR wr bm gm P (runD P T (seg l hf k)) ∧ MapR wr bn gn P (runD P T (seg l hf k)) ∧ Only (fun k => k = gm ∨ k = gn) w5 wr) (fun i _ => n - (intOf i).toNat)
          case atStart => exact ⟨hf, Nat.le_refl _, hhn, rfl, by rw [seg_nil]; exact HM5.out, by rw [seg_nil]; exact HN5.out, Only.refl _ _⟩
          case round =>
            obtain ⟨k, hk1, hk2, rfl, hm, hnn, ho⟩ := hrel
            have hbw : Below W.heap.size W wr := HB5.out.trans (ho.below (fun k hk => by have := HBM.out; have := HBN.out; rcases hk with h | h <;> omega) HB5.out.size)
            have hx := HX5.out.only ho (fun e => by have := HBM.out; have := HBN.out; rcases e with h | h <;> omega)
            have k2 : wr.cell? ⟨W.heap.size, 2, none⟩ = some (.slice a n c) := hx.2 2 (by simp)
            by_cases hlt : k < n
            · have hkl : k < l.length := by rw [← HN.out]; omega
              obtain ⟨a', c', he, hcs⟩ := HR.out.below hbw
              simp only [Value.slice.injEq] at he
              obtain ⟨rfl, -, rfl⟩ := he
              obtain ⟨g0, o0, rfl, s0, s1, s2⟩ := hcs k hkl
              have hbX : Below wr.heap.size wr wr.drew := (Below.refl _ _).drew
              have hok := runD_ok (seg l hf k) HOK1.out
              have D1 := hide (act_any W.heap.size A bm gm P _ wr.drew (hm.below hbX) hok (HE.out.up (hbw.trans (hbX.mono hbw.size))) (Nat.le_of_lt HBM.out.2) l[k].1 l[k].2.1 l[k].2.2)
              have D2 : Hid (∀ X, MapR X bn gn P (runD P T (seg l hf k)) → Below W.heap.size W X → Calls Tryd.prog 10 #[.pointer (some ⟨bn, 0, none⟩), .agg #[.int .i64 l[k].1, .int .i64 l[k].2.1, .int .i64 l[k].2.2]] X fun e w' => ∃ v, ActPost X bn gn P (actD P (runD P T (seg l hf k)) l[k].1 l[k].2.2) e w' v) :=
                fun X h1 h2 => act_any W.heap.size A bn gn P _ X h1 hok (HE.out.up h2) (by have := HBN.out; omega) _ _ _
              have HNX := hide (hnn.below hbX)
              have HBX := hide (hbw.trans (hbX.mono hbw.size))
              have HXX := hide (hx.below hbX)
              have hstp := (HR.out.below hbw).below hbX
              have HLE : Hid (∀ K n, (actD P (runD P T (seg l hf k)) K n).2.list.length ≤ 140737488355328) := fun K n => act_len hok K n
              have HSG : Hid (runD P T (seg l hf (k + 1)) = (actD P (runD P T (seg l hf k)) l[k].1 l[k].2.2).1) := by
                show _ = _
                rw [seg_succ l hf k hk1 hkl, runD_snoc]
              have HO : Hid (Only (fun k => k = gm ∨ k = gn) w5 wr.drew) := ho.drew
              have HC : Hid (∀ X, Below W.heap.size W X → X.cell? ⟨g0, o0 + k * 3, none⟩ = some (.int .i64 l[k].1) ∧ X.cell? ⟨g0, o0 + k * 3 + 1, none⟩ = some (.int .i64 l[k].2.1) ∧ X.cell? ⟨g0, o0 + k * 3 + 2, none⟩ = some (.int .i64 l[k].2.2)) := fun X hX => by
                obtain ⟨a', c', he, hcs⟩ := HR.out.below hX
                simp only [Value.slice.injEq] at he
                obtain ⟨ha, -, -⟩ := he
                obtain ⟨g1, o1, h1, t0, t1, t2⟩ := hcs k hkl
                rw [← ha] at h1
                cases h1
                exact ⟨t0, t1, t2⟩
              have hkI : (k : Int) < (n : Int) := by omega
              have k0I : (0 : Int) ≤ (k : Int) := by omega
              generalize l[k].1 = z0 at *
              generalize l[k].2.1 = z1 at *
              generalize l[k].2.2 = z2 at *
              generalize hrr : actD P (runD P T (seg l hf k)) z0 z2 = r at *
              have HRR := hide hrr
              clear hrr
              clear hm hnn ho hx hcs hbw hkl hbX hok hstp
              go_upto_region 18 with fail
              go_cut [80] (fun u wx => u = .bool false ∧ MapR wx bm gm P r.1 ∧ MapR wx bn gn P r.1 ∧ Only (fun k => k = gm ∨ k = gn) w5 wx)
              case first =>
                go_region_held3 (fun w' => w'.cell? ⟨W.heap.size, 2, none⟩ = some (.slice (some ⟨g0, o0, none⟩) n c) ∧ w'.cell? ⟨g0, o0 + k * 3, none⟩ = some (.int .i64 z0) ∧ w'.cell? ⟨g0, o0 + k * 3 + 1, none⟩ = some (.int .i64 z1) ∧ w'.cell? ⟨g0, o0 + k * 3 + 2, none⟩ = some (.int .i64 z2)) (go_keep)
                  (first
                    | (go_at_call_of 10 (Value.pointer (some ⟨bm, 0, none⟩)); refine D1.out.mono ?_; rintro e W1 ⟨v1, hp1⟩; obtain ⟨rfl, rl1, m1, o1⟩ := hp1
                       have HW1 := hide (only_new HBX.out o1 (Nat.le_of_lt HBM.out.2))
                       have HO1 := hide (HO.out.trans (o1.imp (fun k _ h => Or.inl h)))
                       have HN1 := hide (HNX.out.only o1 (fun e => by have := HBN.out; have : bn = gm := e; omega) (fun e => by have := HBN.out; have : gn = gm := e; omega))
                       have HM1 := hide m1
                       have HR1 := hide rl1
                       have HX1 := hide (HXX.out.only o1 (fun e => by have := HBM.out; have : W.heap.size = gm := e; omega))
                       have k2 : W1.cell? ⟨W.heap.size, 2, none⟩ = some (.slice (some ⟨g0, o0, none⟩) n c) := HX1.out.2 2 (by simp)
                       have hcc := HC.out W1 HW1.out
                       have s0 := hcc.1
                       have s1 := hcc.2.1
                       have s2 := hcc.2.2
                       have HBS := hide (HNX.out.ltg)
                       clear hcc rl1 m1 o1)
                    | (go_at_call_of 10 (Value.pointer (some ⟨bn, 0, none⟩)); refine (D2.out _ HN1.out HW1.out).mono ?_; rintro e W2 ⟨v2, hp2⟩; obtain ⟨rfl, rl2, m2, o2⟩ := hp2
                       have HW2 := hide (only_new HW1.out o2 (by have := HBN.out; omega))
                       have HO2 := hide (HO1.out.trans (o2.imp (fun k _ h => Or.inr h)))
                       have HM2 := hide (HM1.out.only o2 (fun e => by have := HBN.out; have : bm = gn := e; omega) (fun e => by have := HBN.out; have : gm = gn := e; omega))
                       have HN2 := hide m2
                       have HV1 := hide (natR_of_owns (owns_only HR1.out o2 (fun k hk e => by have := (owns_blk HR1.out k hk).1; have := HBS.out; have : k = gn := e; omega)))
                       have HV2 := hide (natR_of_owns rl2)
                       have HX2 := hide (HX1.out.only o2 (fun e => by have := HBN.out; have : W.heap.size = gn := e; omega))
                       have k2 : W2.cell? ⟨W.heap.size, 2, none⟩ = some (.slice (some ⟨g0, o0, none⟩) n c) := HX2.out.2 2 (by simp)
                       have hcc := HC.out W2 HW2.out
                       have s0 := hcc.1
                       have s1 := hcc.2.1
                       have s2 := hcc.2.2
                       clear rl2 m2 o2 hcc)
                    | (go_at_call 14; refine (same_any r.2 _ _ _ (by rw [← HRR.out]; exact HLE.out _ _) HV1.out HV2.out).mono ?_; rintro e W3 ⟨rfl, hb3⟩
                       have HO3 := hide (HO2.out.trans (Only.of_below hb3))
                       have HM3 := hide (HM2.out.below hb3)
                       have HN3 := hide (HN2.out.below hb3)
                       have k2 : W3.cell? ⟨W.heap.size, 2, none⟩ = some (.slice (some ⟨g0, o0, none⟩) n c) := (HX2.out.below hb3).2 2 (by simp)
                       have hcc := HC.out W3 (HW2.out.trans (hb3.mono HW2.out.size))
                       have s0 := hcc.1
                       have s1 := hcc.2.1
                       have s2 := hcc.2.2
                       clear hb3 hcc))
                all_goals
                  go_wp2_with fail
                  go_meet
                all_goals exact ⟨rfl, HM3.out, HN3.out, HO3.out⟩
              case rest =>
                obtain ⟨rfl, h1, h2, h3⟩ := hcut
                have H1 := hide h1
                have H2 := hide h2
                have H3 := hide h3
                clear h1 h2 h3 D1 D2 HNX HBX HXX HO HC k2 s0 s1 s2
                go_wp2
                go_roundw
                case rel => exact ⟨k + 1, by omega, by omega, by go_num, by rw [HSG.out]; exact H1.out, by rw [HSG.out]; exact H2.out, H3.out⟩
                case measure => simp [intOf]; omega
            · have hkI : ¬ (k : Int) < (n : Int) := by omega
              have HB6 := hide hbw
              clear hm hnn ho hx hbw
              go_wp2
              go_ret
              exact ⟨rfl, HB6.out⟩

end Go.Proofs.YtdghlblgmihbpaaDoor
