import Derived.Test.YtdieacdkomiooaaDoorLike2
import Derived.Deep.RegionHeld3
namespace Go.Proofs.YtdieacdkomiooaaDoor
open Go.RowKit Go.Maps

theorem StepsIn.at' {w : World} {v : Value} {l : List Stp} (h : StepsIn w v l) : ∃ a cap g off, ∃ fvs : List Value, v = .slice a l.length cap ∧ l.length ≤ 1048576 ∧ (0 < l.length → a = some ⟨g, off, none⟩) ∧ fvs.length = l.length := by
  obtain ⟨a, cap, g, off, fvs, h1, h2, h3, h4, _⟩ := h
  exact ⟨a, cap, g, off, fvs, h1, h2, h3, h4⟩

set_option maxRecDepth 100000 in
set_option maxHeartbeats 3200000 in
theorem like_any (base : Nat) (A : Nat → Addr) (X : Int) (fv sv ftv thv : Value) (first : List Sec) (steps : List Stp) (fts : List Fate) (thn : List Stp) (w : World) (hE : ErrsB base A w) (hfv : SecsIn w fv first) (hfl : first.length ≤ 1048576) (hsv : StepsIn w sv steps) (hft : FatesIn w ftv fts) (hth : StepsIn w thv thn) :
    Calls Tryd.prog 8 #[.agg #[.int .i64 X, fv, sv, ftv, thv]] w fun e w' => e = .returned (.bool true) ∧ Below w.heap.size w w' := by
  obtain ⟨W, hW⟩ : ∃ W, W = w.alloc (.cells #[.int .i64 X, fv, sv, ftv, thv] 45) := ⟨_, rfl⟩
  have hb0 : Below w.heap.size w W := by rw [hW]; exact below_new _ _
  have hbx : Boxed w.heap.size [.int .i64 X, fv, sv, ftv, thv] W := by rw [hW]; exact boxed_new w #[.int .i64 X, fv, sv, ftv, thv] 45
  have HE : Hid (ErrsB base A W) := hE.up hb0
  have SM := small_any base A X fv sv first steps W HE.out (hfv.keep hb0) hfl (hsv.keep hb0)
  have hpl := steps_pend (smallDev (pickI X) first) w sv steps hsv rfl
  have harm : (plays (smallDev (pickI X) first) steps).arms = [] := plays_arms _ _ rfl
  have HDO : Hid (DeadOk (plays (smallDev (pickI X) first) steps)) := plays_deadOk _ _ (fun h => by cases h)
  generalize plays (smallDev (pickI X) first) steps = D0 at *
  have HFT : Hid (FatesIn W ftv fts) := hft.keep hb0
  have HTH : Hid (StepsIn W thv thn) := hth.keep hb0
  have c0 : W.cell? ⟨w.heap.size, 0, none⟩ = some (.int .i64 X) := hbx.2 0 (by simp)
  have c1 : W.cell? ⟨w.heap.size, 1, none⟩ = some fv := hbx.2 1 (by simp)
  have c2 : W.cell? ⟨w.heap.size, 2, none⟩ = some sv := hbx.2 2 (by simp)
  have c3 : W.cell? ⟨w.heap.size, 3, none⟩ = some ftv := hbx.2 3 (by simp)
  have C4 : Hid (W.cell? ⟨w.heap.size, 4, none⟩ = some thv) := hbx.2 4 (by simp)
  have o1 : fv.oneCell' = true := by obtain ⟨_, _, _, _, h, _⟩ := hfv; rw [h]; rfl
  have o2 : sv.oneCell' = true := by obtain ⟨_, _, _, _, _, h, _⟩ := hsv; rw [h]; rfl
  have o3 : ftv.oneCell' = true := by obtain ⟨_, _, _, _, h, _⟩ := hft; rw [h]; rfl
  have o4 : thv.oneCell' = true := by obtain ⟨_, _, _, _, _, h, _⟩ := hth; rw [h]; rfl
  have HSM : Hid (Calls Tryd.prog 17 #[.agg #[.int .i64 X, fv, sv], .bool false] W fun e w' => ∃ b F, e = .returned (.pointer (some ⟨b, 0, none⟩)) ∧ DevAt w' b F D0 ∧ Below W.heap.size W w' ∧ ∀ k, F k → W.heap.size ≤ k) := SM
  have HB0 : Hid (Below w.heap.size w W) := hb0
  have HWD : Hid (W = w.alloc (.cells #[.int .i64 X, fv, sv, ftv, thv] 45)) := hW
  have HWS : Hid (w.heap.size < W.heap.size) := hbx.1
  clear SM hfv hsv hft hE hfl hb0 hbx hW hth
  go_enter Tryd.func8, Tryd.ntmps8
  go_wp2_with fail
  rw [← HWD.out]
  refine HSM.out.mono ?_
  rintro e w1 ⟨b, F1, rfl, hd1, hb1, hF1⟩
  have B1 : Hid (Bg A W w1 b F1 D0) := ⟨hd1, hb1, hF1, HE.out.here.up hb1⟩
  have BG := begun_any base A w1 (HE.out.up hb1)
  have HBG : Hid (Calls Tryd.prog 18 #[] w1 fun e w' => e = .returned (.bool true) ∧ Below w1.heap.size w1 w') := BG
  have hne := run_eql_pointer_nil (P := Tryd.prog) w1 29 (some ⟨b, 0, none⟩) Tryd.underlying29
  clear HSM hd1 hb1 hF1 BG
  go_wp2_with fail
  refine HBG.out.mono ?_
  rintro e w2 ⟨rfl, hb2⟩
  have B2 : Hid (Bg A W w2 b F1 D0) := B1.out.up hb2
  have k3 : w2.cell? ⟨w.heap.size, 3, none⟩ = some ftv := (B2.out.bel.cell (p := ⟨w.heap.size, 3, none⟩) HWS.out).trans c3
  have HFA : Hid (Calls Tryd.prog 24 #[ftv] w2 fun e w' => ∃ v', e = .returned v' ∧ w'.ownsRow w2.heap.size 61 4 v' fts.length (fateCells fts) ∧ Below w2.heap.size w2 w') := fates_any fts ftv w2 (HFT.out.keep B2.out.bel)
  clear HBG hb2 B1 hne c0 c1 c2 c3
  go_wp2_with fail
  refine HFA.out.mono ?_
  rintro e w3 ⟨vf, rfl, hvf, hb3⟩
  have B3 := B2.out.up hb3
  have CR := B3.crash2 (by omega) fts vf _ hvf
  obtain ⟨fa, fc, rfl, -⟩ := owns_form hvf
  have HCR : Hid (Calls Tryd.prog 23 #[.pointer (some ⟨b, 0, none⟩), .slice fa fts.length fc] w3 fun e w'' => e = .returned (.tuple #[]) ∧ ∃ F', Bg A W w'' b F' (D0.crash fts) ∧ Step F1 F' w3 w'') := CR
  have HPE : Hid ((D0.crash fts).pend = []) := crash_pend HDO.out fts
  have HAR : Hid ((D0.crash fts).arms = []) := (crash_arms D0 fts).trans harm
  clear CR B3 hvf hb3 HFA B2 k3 HFT hpl harm HDO
  generalize D0.crash fts = D1 at *
  go_wp2_with fail
  refine HCR.out.mono ?_
  rintro e w4 ⟨rfl, F4, B4, -⟩
  have hok := B4.dev.ok
  obtain ⟨ho1, ho2⟩ := open_over hok
  have HLT : Hid (∀ k, F4 k → k < w4.heap.size) := B4.dev.lt
  have HSZ : Hid (Calls Tryd.prog 28 #[.pointer (some ⟨b, 0, none⟩)] w4 fun e w' => e = .returned (.int .i64 D1.size) ∧ w4 = w') := size_any b F4 D1 w4 B4.dev
  have HD : Hid (Calls Tryd.prog 27 #[.pointer (some ⟨b, 0, none⟩)] w4 fun e w'' => ∃ v, e = .returned v ∧ w''.ownsRow w4.heap.size 27 2 v D1.dur.length (secCells D1.dur) ∧ Below w4.heap.size w4 w'') := B4.durable
  have HB4 : Hid (Bg A W w4 b F4 D1) := B4
  have hdl : D1.dur.length ≤ 8388615 := hok.dur_len
  have HLK : Hid (Like D1.revive (overDev D1)) := ⟨newDev_size hok, rfl, HPE.out.symm, HAR.out.symm, rfl⟩
  clear HCR B4 hok
  go_wp2_with fail
  refine HSZ.out.mono ?_
  rintro e w4' ⟨rfl, rfl⟩
  go_wp2_with fail
  refine HD.out.mono ?_
  rintro e w5 ⟨ov, rfl, hov, hb5⟩
  have HB5 : Hid (Bg A W w5 b F4 D1) := HB4.out.up hb5
  have OP := open_any W.heap.size A D1.size D1.dur ov w5 HB5.out.err ⟨hov.1, hov.2.imp id fun ⟨g, cap, cur, q1, _, q3⟩ => ⟨g, cap, cur, q1, Nat.zero_le _, q3⟩⟩ (by omega)
  obtain ⟨oa, oc, rfl, -⟩ := owns_form hov
  have HOP : Hid (Calls Tryd.prog 10 #[.int .i64 D1.size, .slice oa D1.dur.length oc] w5 (OpenPost A w5 D1.size D1.dur)) := OP
  have HL5 : Hid (w4.heap.size ≤ w5.heap.size) := hb5.size
  clear HD hov hb5 HB4 OP HSZ
  generalize D1.dur.length = n1 at *
  go_wp2_with fail
  refine HOP.out.mono ?_
  rintro e w6 (⟨-, c, G, rfl, hd6, hb6, hG6⟩ | ⟨hno, -, -⟩)
  rotate_left
  · rw [ho1] at hno; cases hno
  rw [ho2] at hd6
  have T6 : Hid (Two A W w6 b F4 D1 c G (overDev D1)) := ⟨HB5.out.up hb6, ⟨hd6, Below.next HB5.out.bel hb6, fun k hk => by have := hG6 k hk; have := HB5.out.bel.size; omega, HB5.out.err.up hb6⟩, fun k hf hg => by have := HLT.out k hf; have := HL5.out; have := hG6 k hg; omega⟩
  have hne := run_eql_pointer_nil (P := Tryd.prog) w6 29 (some ⟨c, 0, none⟩) Tryd.underlying29
  have HRV : Hid (Calls Tryd.prog 19 #[.pointer (some ⟨b, 0, none⟩)] w6 fun e w'' => e = .returned (.tuple #[]) ∧ Two A W w'' b F4 D1.revive c G (overDev D1)) := T6.out.one.revive2.mono fun e w'' ⟨he, hb, hs⟩ => ⟨he, T6.out.go1 hb hs⟩
  have HPR : Hid (D1.revive.pend.length = 0) := by show D1.pend.length = 0; rw [HPE.out]; rfl
  have HAN : Hid (D1.revive.arms.length = 0) := by show D1.arms.length = 0; rw [HAR.out]; rfl
  clear HOP hd6 hb6 hG6 ho1 ho2 HB5 HL5 HLT HPE HAR hdl T6
  generalize D1.revive = RA at *
  generalize overDev D1 = RB at *
  go_wp2_with fail
  refine HRV.out.mono ?_
  rintro e w7 ⟨rfl, T7⟩
  have HT7 := Hid.mk2 T7
  clear HRV T7 hne
  obtain ⟨ta, tc, tg, toff, fvs, hthv, hNl, hta, hfvs⟩ := HTH.out.at'
  obtain ⟨N, hN⟩ : ∃ N, N = thn.length := ⟨_, rfl⟩
  have HN := Hid.mk2 hN
  rw [← hN] at hthv hNl
  clear hN
  subst hthv
  go_wp2_with fail
  go_loopw [6] (fun i wr => ∃ (k : Nat) (F' G' : Nat → Prop) (a o : Dev), k ≤ N ∧ i = .int .i64 (k : Int) ∧ Two A W wr b F' a c G' o ∧ Like a o ∧ a.pend.length ≤ k * 2048 ∧ a.arms.length ≤ k) (fun i _ => N - (intOf i).toNat)
  case atStart => exact ⟨0, F4, G, RA, RB, Nat.zero_le _, rfl, HT7.out, HLK.out, by rw [HPR.out]; omega, by rw [HAN.out]; omega⟩
  case round =>
    obtain ⟨k, F5, G5, a, o, hk, rfl, T, L, hpe, har⟩ := hrel
    have HT := Hid.mk2 T
    have HL := Hid.mk2 L
    have b4 : wr.cell? ⟨w.heap.size, 4, none⟩ = some (.slice ta N tc) := (T.one.bel.cell (p := ⟨w.heap.size, 4, none⟩) HWS.out).trans C4.out
    by_cases hlt : k < N
    · obtain ⟨a', cap', g, off, fvs, h1, h2, h3, h4, h5⟩ := HTH.out
      simp only [Value.slice.injEq] at h1
      obtain ⟨rfl, hl', rfl⟩ := h1
      obtain rfl := h3 (by omega)
      have hkl : k < thn.length := by omega
      obtain ⟨⟨x0, x1, x2, x3, x4⟩, hfx, hnx, hdx⟩ := h5 k hkl (by omega)
      replace x0 := cell_below T.one.bel x0
      replace x1 := cell_below T.one.bel x1
      replace x2 := cell_below T.one.bel x2
      replace x3 := cell_below T.one.bel x3
      replace x4 := cell_below T.one.bel x4
      have k0 : (0 : Int) ≤ (k : Int) := Int.natCast_nonneg _
      have k1 : (k : Int) < (N : Int) := by omega
      have hso1 : StpOk a thn[k] := stpOk_of hnx hdx hpe (by omega)
      have hso2 : StpOk o thn[k] := stpOk_of hnx hdx (by rw [L.pend]; exact hpe) (by omega)
      have hpn := act_pend a thn[k]
      have han := act_armsN a thn[k]
      have hln := act_lens a thn[k] T.one.dev.ok (by omega)
      have HLA := Hid.mk2 (L.act thn[k])
      have H9 : Hid (thn[k].kind = 9 → (a.act thn[k]).1 = a) := act_counts_same a thn[k]
      generalize hsk : thn[k] = sk at *
      generalize hfk : fvs[k]'(by omega) = fk at *
      obtain ⟨K, S, n, Dt, fl⟩ := sk
      simp only [] at x0 x1 x2 x3 x4 hfx
      obtain ⟨fka, fkc, rfl⟩ : ∃ a c, fk = .slice a fl.length c := by obtain ⟨a, c, _, _, h, _⟩ := hfx; exact ⟨a, c, h⟩
      obtain ⟨W1, hW1⟩ : ∃ W1, W1 = wr.alloc (.cells #[.int .i64 K, .int .i64 S, .int .i64 n, .string Dt, .slice fka fl.length fkc] 72) := ⟨_, rfl⟩
      have hbw : Below wr.heap.size wr W1 := by rw [hW1]; exact below_new _ _
      have hbx1 : Boxed wr.heap.size [.int .i64 K, .int .i64 S, .int .i64 n, .string Dt, .slice fka fl.length fkc] W1 := by rw [hW1]; exact boxed_new wr #[.int .i64 K, .int .i64 S, .int .i64 n, .string Dt, .slice fka fl.length fkc] 72
      have T1 := T.up hbw
      have HA1 : Hid (Calls Tryd.prog 36 #[.pointer (some ⟨b, 0, none⟩), .agg #[.int .i64 K, .int .i64 S, .int .i64 n, .string Dt, .slice fka fl.length fkc]] W1 fun e w' => ∃ vb vs F', ActT A W W1 b F5 c G5 o (a.act ⟨K, S, n, Dt, fl⟩) e w' vb vs F') := T1.act1 ⟨K, S, n, Dt, fl⟩ (.slice fka fl.length fkc) (hfx.keep T1.one.bel) hso1 (by omega)
      have HDX : Hid (Dt.size ≤ 1048576) := hdx
      have HFX : Hid (FatesIn W (.slice fka fl.length fkc) fl) := hfx
      have HS2 := Hid.mk2 hso2
      have HPL := Hid.mk2 (And.intro hpn (And.intro han hln))
      have HPE := Hid.mk2 (And.intro hpe har)
      have HWW := Hid.mk2 hW1
      have HBX1 := Hid.mk2 hbx1
      have HPF : Hid (¬ F5 wr.heap.size ∧ ¬ G5 wr.heap.size) := ⟨fun h => by have := T.one.dev.lt _ h; omega, fun h => by have := T.two.dev.lt _ h; omega⟩
      clear T L hfx hbw hbx1 T1 hso1 hso2 hpn han hln hpe har hW1 h2 h3 h4 h5 hsk hfk hdx hnx hl' hkl
      generalize hR : a.act ⟨K, S, n, Dt, fl⟩ = R at *
      have HRR := Hid.mk2 hR
      clear hR
      go_wp2_with fail
      rw [← HWW.out]
      refine HA1.out.mono ?_
      rintro e w2 ⟨vb, vs, F6, P⟩
      obtain rfl := P.ret
      have HP : Hid (ActT A W W1 b F5 c G5 o R (.returned (.agg #[.int .i64 (R.2.err : Int), vb, vs, .int .i64 R.2.a, .int .i64 R.2.b, .int .i64 R.2.c])) w2 vb vs F6) := P
      obtain ⟨va, vc, rfl, -⟩ := owns_form P.rb.1
      obtain ⟨sa, sc, rfl, -⟩ := owns_form P.rs.1
      obtain ⟨W3, hW3⟩ : ∃ W3, W3 = w2.alloc (.cells #[.int .i64 (R.2.err : Int), .slice va R.2.bytes.length vc, .slice sa R.2.secs.length sc, .int .i64 R.2.a, .int .i64 R.2.b, .int .i64 R.2.c] 74) := ⟨_, rfl⟩
      have hb3 : Below w2.heap.size w2 W3 := by rw [hW3]; exact below_new _ _
      have hx3 : Boxed w2.heap.size [.int .i64 (R.2.err : Int), .slice va R.2.bytes.length vc, .slice sa R.2.secs.length sc, .int .i64 R.2.a, .int .i64 R.2.b, .int .i64 R.2.c] W3 := by rw [hW3]; exact boxed_new w2 #[.int .i64 (R.2.err : Int), .slice va R.2.bytes.length vc, .slice sa R.2.secs.length sc, .int .i64 R.2.a, .int .i64 R.2.b, .int .i64 R.2.c] 74
      have hbs : ∀ j u, W1.cell? ⟨wr.heap.size, j, none⟩ = some u → W3.cell? ⟨wr.heap.size, j, none⟩ = some u := fun j u hu => cell_below hb3 (P.step.cell hu HPF.out.1)
      have hheld : Held W3 wr.heap.size ⟨K, S, n, Dt, fl⟩ (.slice fka fl.length fkc) w2.heap.size (R.2.err : Int) (.slice va R.2.bytes.length vc) (.slice sa R.2.secs.length sc) R.2.a R.2.b R.2.c :=
        ⟨hbs 0 _ (HBX1.out.2 0 (by simp)), hbs 1 _ (HBX1.out.2 1 (by simp)), hbs 2 _ (HBX1.out.2 2 (by simp)), hbs 3 _ (HBX1.out.2 3 (by simp)), hbs 4 _ (HBX1.out.2 4 (by simp)), hx3.2 0 (by simp), hx3.2 1 (by simp), hx3.2 2 (by simp), hx3.2 3 (by simp), hx3.2 4 (by simp), hx3.2 5 (by simp)⟩
      have HHE := Hid.mk2 hheld
      have HW3 := Hid.mk2 hW3
      have HT3 : Hid (Two A W W3 b F6 R.1 c G5 o) := P.two.up hb3
      have hlk := HLA.out.1
      have e0 : (w2.alloc (.cells #[.int .i64 (R.2.err : Int), .slice va R.2.bytes.length vc, .slice sa R.2.secs.length sc, .int .i64 R.2.a, .int .i64 R.2.b, .int .i64 R.2.c] 74)).cell? ⟨wr.heap.size, 0, none⟩ = some (.int .i64 K) := by rw [← hW3]; exact hheld.s0
      by_cases h9 : K = 9
      · have e9 : (K == 9) = true := by rw [h9]; decide
        have HEN : Hid (∃ (k' : Nat) (F' G' : Nat → Prop) (a o : Dev), k' ≤ N ∧ k' = k + 1 ∧ Two A W W3 b F' a c G' o ∧ Like a o ∧ a.pend.length ≤ k' * 2048 ∧ a.arms.length ≤ k') := by
          have hRa : R.1 = a := H9.out h9
          refine ⟨k + 1, F6, G5, a, o, by omega, rfl, by rw [← hRa]; exact HT3.out, HL.out, by have := HPE.out.1; omega, by have := HPE.out.2; omega⟩
        rw [hW3] at HEN
        clear P HA1 hheld hx3 hb3 hW3 hbs HHE HT3 hlk
        go_wp2_with fail
        obtain ⟨k', F', G', a', o', q1, rfl, q3, q4, q5, q6⟩ := HEN.out
        go_roundw
        case rel => exact ⟨k + 1, F', G', a', o', q1, by go_num, q3, q4, q5, q6⟩
        case measure => simp [intOf]; omega
      · have e9 : (K == 9) = false := by simpa using h9
        have hsd := HLA.out.2 h9
        have HA2 : Hid (∀ w', Below W3.heap.size W3 w' → Calls Tryd.prog 36 #[.pointer (some ⟨c, 0, none⟩), .agg #[.int .i64 K, .int .i64 S, .int .i64 n, .string Dt, .slice fka fl.length fkc]] w' fun e w'' => ∃ ua uc ta tc G6, e = .returned (.agg #[.int .i64 (R.2.err : Int), .slice ua R.2.bytes.length uc, .slice ta R.2.secs.length tc, .int .i64 R.2.a, .int .i64 R.2.b, .int .i64 R.2.c]) ∧ Two A W w'' b F6 R.1 c G6 (o.act ⟨K, S, n, Dt, fl⟩).1 ∧ Held w'' wr.heap.size ⟨K, S, n, Dt, fl⟩ (.slice fka fl.length fkc) w2.heap.size (R.2.err : Int) (.slice va R.2.bytes.length vc) (.slice sa R.2.secs.length sc) R.2.a R.2.b R.2.c ∧ Both w'' R.2 (.slice va R.2.bytes.length vc) (.slice sa R.2.secs.length sc) (.slice ua R.2.bytes.length uc) (.slice ta R.2.secs.length tc)) := fun w' hb' => by
          have hw2 : W1.heap.size ≤ w2.heap.size := P.step.size
          have hfx' : FatesIn w' (.slice fka fl.length fkc) fl := HFX.out.keep (HT3.out.up hb').one.bel
          refine ((HT3.out.up hb').act2 ⟨K, S, n, Dt, fl⟩ (.slice fka fl.length fkc) hfx' HS2.out (by rw [HL.out.arms]; have := HPE.out.2; omega)).mono ?_
          rintro e w'' ⟨vb2, vs2, G6, Q⟩
          have hr := Q.ret
          have q1 := Q.rb
          have q2 := Q.rs
          rw [hsd] at hr q1 q2
          obtain ⟨ua, uc, rfl, -⟩ := owns_form q1.1
          obtain ⟨ta2, tc2, rfl, -⟩ := owns_form q2.1
          refine ⟨ua, uc, ta2, tc2, G6, hr, Q.two.swap, (hheld.below hb').step Q.step HPF.out.2 (fun h => by have := HP.out.two.two.dev.lt _ h; omega), ?_⟩
          have z1 : RowAt w'' G6 W1.heap.size 5 1 (.slice va R.2.bytes.length vc) R.2.bytes.length (u8s R.2.bytes) := (((P.rb.imp (fun k hk => .inr hk)).up hb3).up hb').step Q.step
          have z2 : RowAt w'' G6 W1.heap.size 27 2 (.slice sa R.2.secs.length sc) R.2.secs.length (secCells R.2.secs) := (((P.rs.imp (fun k hk => .inr hk)).up hb3).up hb').step Q.step
          exact ⟨bytesIn_own z1.1 HPL.out.2.2.1, secsIn_own z2.1 HPL.out.2.2.2, bytesIn_own q1.1 HPL.out.2.2.1, secsIn_own q2.1 HPL.out.2.2.2⟩
        have HPP := Hid.mk2 P
        clear P HA1 hx3 hb3 hbs
        go_wp2_with fail
        rw [← HW3.out]
        obtain ⟨s0, s1, s2, s3, s4, q0, q1, q2, q3, q4, q5⟩ := hheld
        clear hW3 e0
        have HSAME : Hid (∀ w' vb1 vb2, Both w' R.2 (.slice va R.2.bytes.length vc) (.slice sa R.2.secs.length sc) vb1 vb2 → Calls Tryd.prog 37 #[.agg #[.int .i64 (R.2.err : Int), .slice va R.2.bytes.length vc, .slice sa R.2.secs.length sc, .int .i64 R.2.a, .int .i64 R.2.b, .int .i64 R.2.c], .agg #[.int .i64 (R.2.err : Int), vb1, vb2, .int .i64 R.2.a, .int .i64 R.2.b, .int .i64 R.2.c]] w' fun e w'' => e = .returned (.bool true) ∧ Below w'.heap.size w' w'') := fun w' vb1 vb2 h => same_any R.2 _ _ vb1 vb2 w' h.a1 h.a2 h.b1 h.b2
        have HSHOW : Hid (∀ w' G6, Two A W w' b F6 R.1 c G6 (o.act ⟨K, S, n, Dt, fl⟩).1 → Calls Tryd.prog 38 #[.pointer (some ⟨b, 0, none⟩), .pointer (some ⟨c, 0, none⟩)] w' fun e w'' => e = .returned (.bool true) ∧ Below w'.heap.size w' w'') := fun w' G6 h => shown_any b c F6 G6 R.1 _ w' h.one.dev h.two.dev hlk.size hlk.dur hlk.pend hlk.dead (by have := HPL.out.1; have := HPE.out.1; have := HDX.out; simp only [] at *; omega)
        have HFINE : Hid (R.1.pend.length ≤ (k + 1) * 2048 ∧ R.1.arms.length ≤ k + 1) := ⟨by have := HPL.out.1; have := HPE.out.1; have := HDX.out; simp only [] at *; omega, by have := HPL.out.2.1; have := HPE.out.2; omega⟩
        have HLK2 := Hid.mk2 hlk
        clear hlk hsd
        go_region_held (fun w' => w'.cell? ⟨wr.heap.size, 0, none⟩ = some (.int .i64 K) ∧ w'.cell? ⟨wr.heap.size, 1, none⟩ = some (.int .i64 S) ∧ w'.cell? ⟨wr.heap.size, 2, none⟩ = some (.int .i64 n) ∧ w'.cell? ⟨wr.heap.size, 3, none⟩ = some (.string Dt) ∧ w'.cell? ⟨wr.heap.size, 4, none⟩ = some (.slice fka fl.length fkc) ∧ w'.cell? ⟨w2.heap.size, 0, none⟩ = some (.int .i64 (R.2.err : Int)) ∧ w'.cell? ⟨w2.heap.size, 1, none⟩ = some (.slice va R.2.bytes.length vc) ∧ w'.cell? ⟨w2.heap.size, 2, none⟩ = some (.slice sa R.2.secs.length sc) ∧ w'.cell? ⟨w2.heap.size, 3, none⟩ = some (.int .i64 R.2.a) ∧ w'.cell? ⟨w2.heap.size, 4, none⟩ = some (.int .i64 R.2.b) ∧ w'.cell? ⟨w2.heap.size, 5, none⟩ = some (.int .i64 R.2.c)) (go_keep)
          (first
            | (go_at_call 36; refine (HA2.out _ ?_).mono ?_; (first | exact bdrew (Below.refl _ _) | exact Below.refl _ _); rintro e w4 ⟨ua, uc, ta4, tc4, G6, rfl, T4, h4, b4'⟩; have HT4 := Hid.mk2 T4; have HB4 := Hid.mk2 b4'; have HH4 := Hid.mk2 h4; obtain ⟨t0, t1, t2, t3, t4, y0, y1, y2, y3, y4, y5⟩ := h4; clear T4 b4')
            | (go_at_call 37; refine (HSAME.out _ _ _ ?_).mono ?_; (first | exact HB4.out | exact HB4.out.keep (bdrew (Below.refl _ _))); rintro e w5 ⟨rfl, hbd5⟩; have hb5 : Below w4.heap.size w4 w5 := (by first | exact hbd5 | exact undrew hbd5); have HT5 := Hid.mk2 (HT4.out.up hb5); have HH5 := Hid.mk2 (HH4.out.below hb5); obtain ⟨l0, l1, l2, l3, l4, m0, m1, m2, m3, m4, m5⟩ := HH5.out; clear hbd5 hb5)
            | (go_at_call 38; refine (HSHOW.out _ G6 ?_).mono ?_; (first | exact HT5.out | exact HT5.out.up (bdrew (Below.refl _ _))); rintro e w8 ⟨rfl, hbd8⟩; have hb8 : Below w5.heap.size w5 w8 := (by first | exact hbd8 | exact undrew hbd8); have HT8 := Hid.mk2 (HT5.out.up hb8); have HH8 := HH5.out.below hb8; obtain ⟨v0, v1, v2, v3, v4, z0, z1, z2, z3, z4, z5⟩ := HH8; clear hbd8 hb8))
        go_wp2_with fail
        go_roundw
        case rel => exact ⟨k + 1, F6, G6, R.1, _, by omega, by go_num, HT8.out, HLK2.out, HFINE.out.1, HFINE.out.2⟩
        case measure => simp [intOf]; omega
    · have k1 : ¬ (k : Int) < (N : Int) := by omega
      have HSH := Hid.mk2 (shown_any b c F5 G5 a o wr T.one.dev T.two.dev L.size L.dur L.pend L.dead (by omega))
      have HBT := Hid.mk2 (Below.next HB0.out T.one.bel)
      clear T L
      go_wp2_with fail
      go_wp2_with fail
      refine HSH.out.mono ?_
      rintro e w8 ⟨rfl, hb8⟩
      have HB8 := Hid.mk2 (Below.next HBT.out hb8)
      clear hb8 HSH
      go_wp2_with fail
      go_ret
      exact ⟨rfl, HB8.out⟩

end Go.Proofs.YtdieacdkomiooaaDoor
