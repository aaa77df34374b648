import Derived.Test.YtdghlblgmihbpaaDoorFBStep
namespace Go.Proofs.YtdghlblgmihbpaaDoor
open Go.RowKit

theorem bstep_any (A : Nat → Addr) (base : Nat) (b g c bm gm P : Nat) (T : Nat → Bool) (w : World) (h : BookR w b g c P T) (hm : MapR w bm gm P T) (hok : MapOk P T) (hE : Env base A w) (hgb : base ≤ gm) (h1 : b ≠ gm) (h2 : g ≠ gm) (h3 : g ≠ bm) (K O n : Int) :
    Calls Tryd.prog 24 #[.pointer (some ⟨b, 0, none⟩), .pointer (some ⟨bm, 0, none⟩), .agg #[.int .i64 K, .int .i64 O, .int .i64 n]] w fun e w' => e = .returned (.bool true) ∧ StepPost b g c bm gm P (actD P T K n).1 w w' := by
  by_cases hk1 : K = 1
  · cases ht : treeB P n with
    | false => exact bstep_mark0 A base b g c bm gm P T w h hm hok hE hgb h1 h2 h3 K O n hk1 ht
    | true =>
      simp only [treeB, Bool.and_eq_true, decide_eq_true_eq] at ht
      obtain ⟨m, rfl⟩ : ∃ m : Nat, n = m := ⟨n.toNat, by omega⟩
      cases hT : T m with
      | true => exact bstep_mark1 A base b g c bm gm P T w h hm hok hE hgb h1 h2 h3 K O m hk1 (by omega) (by omega) hT
      | false => exact bstep_mark2 A base b g c bm gm P T w h hm hok hE hgb h1 h2 h3 K O m hk1 (by omega) (by omega) hT
  by_cases hk2 : K = 2
  · cases ht : treeB P n with
    | false => exact bstep_clear0 A base b g c bm gm P T w h hm hok hE hgb h1 h2 h3 K O n hk2 ht
    | true =>
      simp only [treeB, Bool.and_eq_true, decide_eq_true_eq] at ht
      obtain ⟨m, rfl⟩ : ∃ m : Nat, n = m := ⟨n.toNat, by omega⟩
      cases hT : T m with
      | false => exact bstep_clear1 A base b g c bm gm P T w h hm hok hE hgb h1 h2 h3 K O m hk2 (by omega) (by omega) hT
      | true => exact bstep_clear2 A base b g c bm gm P T w h hm hok hE hgb h1 h2 h3 K O m hk2 (by omega) (by omega) hT
  by_cases hk5 : K = 5
  · by_cases hn : n < 0
    · exact bstep_take0 A base b g c bm gm P T w h hm hok hE hgb h1 h2 h3 K O n hk5 hn
    · obtain ⟨m, rfl⟩ : ∃ m : Nat, n = m := ⟨n.toNat, by omega⟩
      by_cases hf : (frl T P).length < m
      · exact bstep_take1 A base b g c bm gm P T w h hm hok hE hgb h1 h2 h3 K O m hk5 hf
      · exact bstep_take2 A base b g c bm gm P T w h hm hok hE hgb h1 h2 h3 K O m hk5 (by omega)
  exact bstep_other A base b g c bm gm P T w h hm hok hE hgb h1 h2 h3 K O n ⟨hk1, hk2, hk5⟩

set_option maxRecDepth 100000 in
set_option maxHeartbeats 4000000 in
theorem bookf_any (A : Nat → Addr) (l : List Stp) (v : Value) (pg og : Int) (W : World) (hE : Env W.heap.size A W) (hr : StpR W v l) (hl : l.length ≤ 5864062014634) :
    Calls Tryd.prog 6 #[.agg #[.int .i64 pg, .int .i64 og, v]] W fun e w' => e = .returned (.bool true) ∧ Below W.heap.size W w' := by
  obtain ⟨a, c, rfl, hc⟩ := id hr
  clear hc
  obtain ⟨w0, hw0⟩ : ∃ w0, w0 = W.alloc (.cells #[.int .i64 pg, .int .i64 og, .slice a l.length c] 24) := ⟨_, rfl⟩
  have hb0 : Below W.heap.size W w0 := by rw [hw0]; exact below_new _ _
  have hx0 : Boxed W.heap.size [.int .i64 pg, .int .i64 og, .slice a l.length c] w0 := by rw [hw0]; exact boxed_new W #[.int .i64 pg, .int .i64 og, .slice a l.length c] 24
  have k0 : w0.cell? ⟨W.heap.size, 0, none⟩ = some (.int .i64 pg) := hx0.2 0 (by simp)
  have HSZ : Hid (W.heap.size < w0.heap.size) := hx0.1
  have HMD := hide (made_any pg w0)
  have HP := hide (madeP_lo pg)
  have HB0 := hide hb0
  have HX0 := hide hx0
  have HE := hide hE
  have HR := hide hr
  obtain ⟨n, hn⟩ : ∃ n, n = l.length := ⟨_, rfl⟩
  rw [← hn] at hw0 hl HX0 HR
  rw [← hn]
  have HN := hide hn
  clear hb0 hx0 hE hr hn
  generalize madeP pg = P at *
  go_enter Tryd.func6, Tryd.ntmps6
  go_wp2_with fail
  rw [← hw0]
  clear hw0
  refine HMD.out.mono ?_
  rintro e w1 ⟨bm, gm, rfl, h1, h2, hm1, hb1⟩
  have HBM : Hid (W.heap.size < bm ∧ W.heap.size < gm) := ⟨by have := HSZ.out; omega, by have := HSZ.out; omega⟩
  have HB1 := hide (HB0.out.trans (hb1.mono (Nat.le_of_lt HSZ.out)))
  have HX1 := hide (HX0.out.below hb1)
  have HM1 := hide hm1
  have BG := hide (begun_any W.heap.size A w1 (HE.out.up HB1.out))
  have HOK := hide (t0_ok (P := P) HP.out.1 (by have := HP.out.2; omega))
  clear h1 h2 hm1 hb1 HMD k0
  go_wp2_with fail
  refine BG.out.mono ?_
  rintro e w2 ⟨rfl, hb2⟩
  have HB2 := hide (HB1.out.trans (hb2.mono HB1.out.size))
  have HX2 := hide (HX1.out.below hb2)
  have HM2 := hide (HM1.out.below hb2)
  have k2 : w2.cell? ⟨W.heap.size, 2, none⟩ = some (.slice a n c) := HX2.out.2 2 (by simp)
  clear hb2 BG HX1 HM1 HB1 HX0 HB0
  have SZ := hide (size_any bm gm P (T0 P) w2 HM2.out)
  have BK := hide (book_any P w2 HP.out.1 (by have := HP.out.2; omega))
  clear k2
  go_wp2_with fail
  refine SZ.out.mono ?_
  rintro e w3 ⟨rfl, rfl⟩
  go_wp2_with fail
  refine BK.out.mono ?_
  rintro e w3 ⟨b, g, cb, rfl, q1, q2, hk3, hb3⟩
  have HK3 := hide hk3
  have HM3 := hide (HM2.out.below hb3)
  have HX3 := hide (HX2.out.below hb3)
  have HB3 := hide (HB2.out.trans (hb3.mono HB2.out.size))
  have HQ : Hid (bm < b ∧ gm < b ∧ bm < g ∧ gm < g ∧ W.heap.size < b ∧ W.heap.size < g) := ⟨by have := HM2.out.ltb; omega, by have := HM2.out.ltg; omega, by have := HM2.out.ltb; omega, by have := HM2.out.ltg; omega, by have := HM2.out.ltb; have := HBM.out; omega, by have := HM2.out.ltb; have := HBM.out; omega⟩
  have AG := hide (agrees_any b g cb bm gm P (T0 P) w3 HK3.out HM3.out HOK.out)
  clear hk3 hb3 q1 q2 SZ BK HM2 HX2 HB2
  go_wp2_with fail
  refine AG.out.mono ?_
  rintro e w4 ⟨rfl, hb4⟩
  have HK4 := hide (HK3.out.below hb4)
  have HM4 := hide (HM3.out.below hb4)
  have HX4 := hide (HX3.out.below hb4)
  have HB4 := hide (HB3.out.trans (hb4.mono HB3.out.size))
  clear hb4 AG HK3 HM3 HX3 HB3
  go_wp2_with fail
  go_loopw [5] (fun i wr => ∃ k : Nat, k ≤ n ∧ i = .int .i64 k ∧ MapR wr bm gm P (runD P (T0 P) (seg l 0 k)) ∧ BookR wr b g cb P (runD P (T0 P) (seg l 0 k)) ∧ Only (fun k => k = gm ∨ k = g) w4 wr) (fun i _ => n - (intOf i).toNat)
  case atStart => exact ⟨0, Nat.zero_le _, rfl, by rw [seg_nil]; exact HM4.out, by rw [seg_nil]; exact HK4.out, Only.refl _ _⟩
  case round =>
    obtain ⟨k, hk, rfl, hm, hbk, ho⟩ := hrel
    have hbw : Below W.heap.size W wr := HB4.out.trans (ho.below (fun k hk => by have := HBM.out; have := HQ.out; rcases hk with h | h <;> omega) HB4.out.size)
    have hx := HX4.out.only ho (fun e => by have := HBM.out; have := HQ.out; rcases e with h | h <;> omega)
    have k2 : wr.cell? ⟨W.heap.size, 2, none⟩ = some (.slice a n c) := hx.2 2 (by simp)
    by_cases hlt : k < n
    · have hkl : k < l.length := by rw [← HN.out]; omega
      obtain ⟨a', c', he, hcs⟩ := HR.out.below hbw
      simp only [Value.slice.injEq] at he
      obtain ⟨rfl, -, rfl⟩ := he
      obtain ⟨g0, o0, rfl, s0, s1, s2⟩ := hcs k hkl
      have hok := runD_ok (seg l 0 k) HOK.out
      have BS := hide (bstep_any A W.heap.size b g cb bm gm P _ wr hbk hm hok (HE.out.up hbw) (Nat.le_of_lt HBM.out.2) (by have := HQ.out; omega) (by have := HQ.out; omega) (by have := HQ.out; omega) l[k].1 l[k].2.1 l[k].2.2)
      have HSG : Hid (runD P (T0 P) (seg l 0 (k + 1)) = (actD P (runD P (T0 P) (seg l 0 k)) l[k].1 l[k].2.2).1) := by
        show _ = _
        rw [seg_succ l 0 k (Nat.zero_le _) hkl, runD_snoc]
      have HOK2 := hide (act_ok hok l[k].1 l[k].2.2)
      have HO := hide ho
      have hkI : (k : Int) < (n : Int) := by omega
      generalize l[k].1 = z0 at *
      generalize l[k].2.1 = z1 at *
      generalize l[k].2.2 = z2 at *
      generalize (actD P (runD P (T0 P) (seg l 0 k)) z0 z2).1 = T' at *
      clear hm hbk ho hx hcs hbw hkl hok
      go_wp2_with fail
      refine BS.out.mono ?_
      rintro e w5 ⟨rfl, hp⟩
      have AG := hide (agrees_any b g cb bm gm P T' w5 hp.book hp.map HOK2.out)
      have HP5 := hide hp
      clear hp BS s0 s1 s2 k2
      go_wp2_with fail
      refine AG.out.mono ?_
      rintro e w6 ⟨rfl, hb6⟩
      have H1 := hide (HP5.out.map.below hb6)
      have H2 := hide (HP5.out.book.below hb6)
      have H3 := hide ((HO.out.trans HP5.out.only).trans (Only.of_below hb6))
      clear hb6 AG HP5 HO
      go_wp2
      go_roundw
      case rel => exact ⟨k + 1, by omega, by go_num, by rw [HSG.out]; exact H1.out, by rw [HSG.out]; exact H2.out, H3.out⟩
      case measure => simp [intOf]; omega
    · have hkI : ¬ (k : Int) < (n : Int) := by omega
      have HB6 := hide hbw
      clear hm hbk ho hx hbw
      go_wp2
      go_ret
      exact ⟨rfl, HB6.out⟩

end Go.Proofs.YtdghlblgmihbpaaDoor
