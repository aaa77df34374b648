import Derived.Test.YtdieacdkomiooaaDoorOrdMath
namespace Go.Proofs.YtdieacdkomiooaaDoor
open Go.RowKit Go.Maps

theorem Hid.mk' {p : Prop} (h : p) : Hid p := h

set_option maxRecDepth 100000 in
set_option maxHeartbeats 3200000 in
theorem order_any (base : Nat) (A : Nat → Addr) (X : Int) (fv sv ftv thv : Value) (first : List Sec) (steps : List Stp) (fts : List Fate) (w : World) (hE : ErrsB base A w) (hfv : SecsIn w fv first) (hfl : first.length ≤ 1048576) (hsv : StepsIn w sv steps) (hft : FatesIn w ftv fts) (hfj : ∀ f ∈ fts, f.junk.size ≤ 1048576) (hfn : fts.length ≤ 1048576) :
    Calls Tryd.prog 6 #[.agg #[.int .i64 X, fv, sv, ftv, thv]] w fun e w' => e = .returned (.bool true) ∧ Below w.heap.size w w' := by
  obtain ⟨W, hW⟩ : ∃ W, W = w.alloc (.cells #[.int .i64 X, fv, sv, ftv, thv] 45) := ⟨_, rfl⟩
  have hb0 : Below w.heap.size w W := by rw [hW]; exact below_new _ _
  have hbx : Boxed w.heap.size [.int .i64 X, fv, sv, ftv, thv] W := by rw [hW]; exact boxed_new w #[.int .i64 X, fv, sv, ftv, thv] 45
  have HE : Hid (ErrsB base A W) := hE.up hb0
  have SM := small_any base A X fv sv first steps W HE.out (hfv.keep hb0) hfl (hsv.keep hb0)
  have hpl := steps_pend (smallDev (pickI X) first) w sv steps hsv rfl
  have hsz : (plays (smallDev (pickI X) first) steps).size ≤ 64 := by rw [plays_size]; exact smallDev_size X first
  have harm : (plays (smallDev (pickI X) first) steps).arms = [] := plays_arms _ _ rfl
  generalize plays (smallDev (pickI X) first) steps = D0 at *
  have HFT : Hid (FatesIn W ftv fts) := hft.keep hb0
  have c0 : W.cell? ⟨w.heap.size, 0, none⟩ = some (.int .i64 X) := hbx.2 0 (by simp)
  have c1 : W.cell? ⟨w.heap.size, 1, none⟩ = some fv := hbx.2 1 (by simp)
  have c2 : W.cell? ⟨w.heap.size, 2, none⟩ = some sv := hbx.2 2 (by simp)
  have c3 : W.cell? ⟨w.heap.size, 3, none⟩ = some ftv := hbx.2 3 (by simp)
  have o1 : fv.oneCell' = true := by obtain ⟨_, _, _, _, h, _⟩ := hfv; rw [h]; rfl
  have o2 : sv.oneCell' = true := by obtain ⟨_, _, _, _, _, h, _⟩ := hsv; rw [h]; rfl
  have o3 : ftv.oneCell' = true := by obtain ⟨_, _, _, _, h, _⟩ := hft; rw [h]; rfl
  have HSM : Hid (Calls Tryd.prog 17 #[.agg #[.int .i64 X, fv, sv], .bool false] W fun e w' => ∃ b F, e = .returned (.pointer (some ⟨b, 0, none⟩)) ∧ DevAt w' b F D0 ∧ Below W.heap.size W w' ∧ ∀ k, F k → W.heap.size ≤ k) := SM
  have HB0 : Hid (Below w.heap.size w W) := hb0
  have HWD : Hid (W = w.alloc (.cells #[.int .i64 X, fv, sv, ftv, thv] 45)) := hW
  have HWS : Hid (w.heap.size < W.heap.size) := hbx.1
  clear SM hfv hsv hft hE hfl hb0 hbx hW
  go_enter Tryd.func6, Tryd.ntmps6
  go_wp2_with fail
  rw [← HWD.out]
  refine HSM.out.mono ?_
  rintro e w1 ⟨b, F1, rfl, hd1, hb1, hF1⟩
  have B1 : Hid (Bg A W w1 b F1 D0) := ⟨hd1, hb1, hF1, HE.out.here.up hb1⟩
  have BG := begun_any base A w1 (HE.out.up hb1)
  have HBG : Hid (Calls Tryd.prog 18 #[] w1 fun e w' => e = .returned (.bool true) ∧ Below w1.heap.size w1 w') := BG
  have hne := run_eql_pointer_nil (P := Tryd.prog) w1 29 (some ⟨b, 0, none⟩) Tryd.underlying29
  clear HSM hd1 hb1 hF1 BG
  go_wp2_with fail
  refine HBG.out.mono ?_
  rintro e w2 ⟨rfl, hb2⟩
  have B2 := B1.out.up hb2
  have HV : Hid (Calls Tryd.prog 19 #[.pointer (some ⟨b, 0, none⟩)] w2 fun e w'' => e = .returned (.tuple #[]) ∧ Bg A W w'' b F1 D0.revive ∧ Step F1 F1 w2 w'') := B2.revive2
  clear HBG hb2 B1 B2 hne
  go_wp2_with fail
  refine HV.out.mono ?_
  rintro e w3 ⟨rfl, B3, -⟩
  have hok := B3.dev.ok
  obtain ⟨ho1, ho2⟩ := open_over hok
  have HLT : Hid (∀ k, F1 k → k < w3.heap.size) := B3.dev.lt
  have HSZ : Hid (Calls Tryd.prog 28 #[.pointer (some ⟨b, 0, none⟩)] w3 fun e w' => e = .returned (.int .i64 D0.revive.size) ∧ w3 = w') := size_any b F1 D0.revive w3 B3.dev
  have HD : Hid (Calls Tryd.prog 27 #[.pointer (some ⟨b, 0, none⟩)] w3 fun e w'' => ∃ v, e = .returned v ∧ w''.ownsRow w3.heap.size 27 2 v D0.revive.dur.length (secCells D0.revive.dur) ∧ Below w3.heap.size w3 w'') := B3.durable
  have HB3 : Hid (Bg A W w3 b F1 D0.revive) := B3
  have hpr : D0.revive.pend.length ≤ 2147483648 := hpl
  have hdl : D0.revive.dur.length ≤ 8388615 := hok.dur_len
  have hdead : D0.revive.dead = false := rfl
  have HOK : Hid (D0.revive.Ok) := hok
  clear HV B3 hok hsz harm hpl
  generalize D0.revive = D1 at *
  go_wp2_with fail
  refine HSZ.out.mono ?_
  rintro e w3' ⟨rfl, rfl⟩
  go_wp2_with fail
  refine HD.out.mono ?_
  rintro e w4 ⟨ov, rfl, hov, hb4⟩
  have HB4 : Hid (Bg A W w4 b F1 D1) := HB3.out.up hb4
  have OP := open_any W.heap.size A D1.size D1.dur ov w4 HB4.out.err ⟨hov.1, hov.2.imp id fun ⟨g, cap, cur, q1, _, q3⟩ => ⟨g, cap, cur, q1, Nat.zero_le _, q3⟩⟩ (by omega)
  obtain ⟨oa, oc, rfl, -⟩ := owns_form hov
  have HOP : Hid (Calls Tryd.prog 10 #[.int .i64 D1.size, .slice oa D1.dur.length oc] w4 (OpenPost A w4 D1.size D1.dur)) := OP
  have HL4 : Hid (w3.heap.size ≤ w4.heap.size) := hb4.size
  clear HD hov hb4 HB3 OP HSZ
  generalize D1.dur.length = n1 at *
  go_wp2_with fail
  refine HOP.out.mono ?_
  rintro e w5 (⟨-, c, G, rfl, hd5, hb5, hG5⟩ | ⟨hno, -, -⟩)
  rotate_left
  · rw [ho1] at hno; cases hno
  rw [ho2] at hd5
  have T5 : Hid (Two A W w5 b F1 D1 c G (overDev D1)) := ⟨HB4.out.up hb5, ⟨hd5, Below.next HB4.out.bel hb5, fun k hk => by have := hG5 k hk; have := HB4.out.bel.size; omega, HB4.out.err.up hb5⟩, fun k hf hg => by have := HLT.out k hf; have := HL4.out; have := hG5 k hg; omega⟩
  have HGL : Hid (∀ k, G k → k < w5.heap.size) := hd5.lt
  have HL5 : Hid (w3.heap.size ≤ w5.heap.size) := Nat.le_trans HL4.out hb5.size
  have hne := run_eql_pointer_nil (P := Tryd.prog) w5 29 (some ⟨c, 0, none⟩) Tryd.underlying29
  have HP : Hid (Calls Tryd.prog 22 #[.pointer (some ⟨b, 0, none⟩)] w5 fun e w'' => ∃ v, e = .returned v ∧ w''.ownsRow w5.heap.size 27 2 v D1.pend.length (secCells D1.pend) ∧ Below w5.heap.size w5 w'') := T5.out.one.pending (by omega)
  clear HOP hd5 hb5 hG5 ho1 ho2 HB4 HL4
  go_wp2_with fail
  refine HP.out.mono ?_
  rintro e w6 ⟨pv, rfl, hpv, hb6⟩
  have T6 : Hid (Two A W w6 b F1 D1 c G (overDev D1)) := T5.out.up hb6
  obtain ⟨pa, pc, hpe, hpa⟩ := owns_form hpv
  obtain ⟨P, hP⟩ : ∃ P, P = D1.pend.length := ⟨_, rfl⟩
  have HPP : Hid (P = D1.pend.length) := hP
  rw [← hP] at hpe hpa
  subst hpe
  clear hP
  have HPV : Hid (w6.ownsRow w5.heap.size 27 2 (.slice pa P pc) D1.pend.length (secCells D1.pend)) := hpv
  have k3 : w6.cell? ⟨w.heap.size, 3, none⟩ = some ftv := (T6.out.one.bel.cell (p := ⟨w.heap.size, 3, none⟩) HWS.out).trans c3
  have HFA : Hid (Calls Tryd.prog 24 #[ftv] w6 fun e w' => ∃ v', e = .returned v' ∧ w'.ownsRow w6.heap.size 61 4 v' fts.length (fateCells fts) ∧ Below w6.heap.size w6 w') := fates_any fts ftv w6 (HFT.out.keep T6.out.one.bel)
  clear HP hpv hb6 T5 c0 c1 c2 hne
  go_wp2_with fail
  refine HFA.out.mono ?_
  rintro e w7 ⟨vf, rfl, hvf, hb7⟩
  have T7 : Hid (Two A W w7 b F1 D1 c G (overDev D1)) := T6.out.up hb7
  have CR := T7.out.one.crash2 (by omega) fts vf _ hvf
  have HPV7 : Hid (w7.ownsRow w5.heap.size 27 2 (.slice pa P pc) D1.pend.length (secCells D1.pend)) := owns_below HPV.out hb7
  obtain ⟨fa, fc, rfl, -⟩ := owns_form hvf
  have HCR : Hid (Calls Tryd.prog 23 #[.pointer (some ⟨b, 0, none⟩), .slice fa fts.length fc] w7 fun e w'' => e = .returned (.tuple #[]) ∧ ∃ F', Bg A W w'' b F' (D1.crash fts) ∧ Step F1 F' w7 w'') := CR
  clear HFA hvf hb7 CR T6 HPV k3
  go_wp2_with fail
  refine HCR.out.mono ?_
  rintro e w8 ⟨rfl, F8, B8, s8⟩
  have T8 : Hid (Two A W w8 b F8 (D1.crash fts) c G (othDev D1 fts 0 0)) := T7.out.go1 B8 s8
  have R8 : Hid (RowAt w8 G w5.heap.size 27 2 (.slice pa P pc) D1.pend.length (secCells D1.pend)) := ⟨owns_step HPV7.out s8 (fun g hg hf => by have := (owns_blk HPV7.out g hg).1; have := HLT.out g hf; have := HL5.out; omega), fun g hg hf => by have := (owns_blk HPV7.out g hg).1; have := HGL.out g hf; omega⟩
  have HFC : Hid (∀ i (h : i < fts.length), W.cell? ⟨0, 0, none⟩ = W.cell? ⟨0, 0, none⟩) := fun _ _ => rfl
  obtain ⟨ta, tc, tg, toff, hte, htl, hta, htc⟩ := HFT.out.cells
  have HTC : Hid (∀ i (h : i < fts.length), W.cell? ⟨tg, toff + i * 4, none⟩ = some (.int .i64 fts[i].ix) ∧ W.cell? ⟨tg, toff + i * 4 + 1, none⟩ = some (.int .i64 fts[i].kind) ∧ W.cell? ⟨tg, toff + i * 4 + 2, none⟩ = some (.int .i64 fts[i].cut) ∧ W.cell? ⟨tg, toff + i * 4 + 3, none⟩ = some (.string fts[i].junk)) := htc
  have HFJ : Hid (∀ i (h : i < fts.length), fts[i].junk.size ≤ 1048576) := fun i h => hfj _ (List.getElem_mem h)
  have HC3 : Hid (W.cell? ⟨w.heap.size, 3, none⟩ = some ftv) := c3
  obtain ⟨L, hL⟩ : ∃ L, L = fts.length := ⟨_, rfl⟩
  have HLL : Hid (L = fts.length) := hL
  have HTV : Hid (ftv = .slice ta L tc) := by show _ = _; rw [hL]; exact hte
  have HEND : Hid (∀ n, (othDev D1 fts fts.length n).sync.2 = 0 ∧ (othDev D1 fts fts.length n).sync.1.dur = (D1.crash fts).dur) := oth_sync hdead fts
  rw [← hL] at hta htl hfn
  rw [← HPP.out] at hpr
  clear HCR B8 s8 T7 HPV7 htc hfj HFC c3 hte hL HE HLT HGL HL5
  generalize hD2 : D1.crash fts = D2 at *
  go_wp2_with fail
  go_loopw [7] (fun i wr => ∃ (k : Nat) (n : Int) (G' : Nat → Prop), k ≤ L ∧ i = .int .i64 (k : Int) ∧ Two A W wr b F8 D2 c G' (othDev D1 fts k n) ∧ RowAt wr G' w5.heap.size 27 2 (.slice pa P pc) D1.pend.length (secCells D1.pend)) (fun i _ => L - (intOf i).toNat)
  case atStart => exact ⟨0, 0, G, Nat.zero_le _, rfl, T8.out, R8.out⟩
  case round =>
    obtain ⟨k, n, G2, hk, rfl, tw, rw2⟩ := hrel
    have T : Hid (Two A W wr b F8 D2 c G2 (othDev D1 fts k n)) := tw
    have R : Hid (RowAt wr G2 w5.heap.size 27 2 (.slice pa P pc) D1.pend.length (secCells D1.pend)) := rw2
    have c3 : wr.cell? ⟨w.heap.size, 3, none⟩ = some (.slice ta L tc) := by rw [← HTV.out]; exact (tw.one.bel.cell (p := ⟨w.heap.size, 3, none⟩) HWS.out).trans HC3.out
    clear tw rw2 T8 R8
    by_cases hlt : k < L
    · obtain rfl := hta (by omega)
      have hkl : k < fts.length := by rw [← HLL.out]; exact hlt
      have i0 : (0 : Int) ≤ (k : Int) := Int.natCast_nonneg _
      have i1 : (k : Int) < (L : Int) := by omega
      obtain ⟨f0, f1, f2, f3⟩ := HTC.out k hkl
      have f0 := cell_below T.out.one.bel f0
      have f1 := cell_below T.out.one.bel f1
      have f2 := cell_below T.out.one.bel f2
      have f3 := cell_below T.out.one.bel f3
      have HNO : Hid ((fts[k].ix < 0 ∨ (P : Int) ≤ fts[k].ix ∨ earl fts k fts[k].ix = true) → ∀ w', Below wr.heap.size wr w' → Two A W w' b F8 D2 c G2 (othDev D1 fts (k + 1) n) ∧ RowAt w' G2 w5.heap.size 27 2 (.slice pa P pc) D1.pend.length (secCells D1.pend)) := fun hc w' hb' => by
        have e := ordW_next D1.pend fts k hkl
        rw [if_pos (by rw [← HPP.out]; exact hc), List.append_nil] at e
        rw [← oth_same fts k n e]
        exact ⟨T.out.up hb', R.out.up hb'⟩
      have HN2 : Hid (¬ (fts[k].ix < 0 ∨ (P : Int) ≤ fts[k].ix ∨ earl fts k fts[k].ix = true) → ordW D1.pend [] (fts.take (k + 1)) = ordW D1.pend [] (fts.take k) ++ meetW D1.pend fts[k]) := fun hc => by
        have e := ordW_next D1.pend fts k hkl
        rw [if_neg (by rw [← HPP.out]; exact hc)] at e
        exact e
      have HEA : Hid (∀ w', Below wr.heap.size wr w' → Calls Tryd.prog 31 #[.slice (some ⟨tg, toff, none⟩) L tc, .int .i64 (k : Int)] w' fun e w'' => e = .returned (.bool (earl fts k fts[k].ix)) ∧ Below w'.heap.size w' w'') := fun w' hb' =>
        earlier_any fts _ k w' (by rw [← HTV.out]; exact (HFT.out.keep T.out.one.bel).keep hb') hkl
      have HLT : Hid (∀ (D : ByteArray) w', D.size = 512 → Calls Tryd.prog 32 #[.string D, .agg #[.int .i64 fts[k].ix, .int .i64 fts[k].kind, .int .i64 fts[k].cut, .string fts[k].junk]] w' fun e w'' => e = .returned (.string (tornB D fts[k])) ∧ Below w'.heap.size w' w'') := fun D w' hD => ltorn_any D fts[k] w' hD (HFJ.out k hkl)
      have HMK : Hid (∀ h : fts[k].ix.toNat < D1.pend.length, fts[k].kind = 2 → meetW D1.pend fts[k] = [⟨D1.pend[fts[k].ix.toNat].ix, D1.pend[fts[k].ix.toNat].dat⟩]) := fun h hk => meetW_keep h hk
      have HMT : Hid (∀ h : fts[k].ix.toNat < D1.pend.length, fts[k].kind = 3 → meetW D1.pend fts[k] = [⟨D1.pend[fts[k].ix.toNat].ix, tornB D1.pend[fts[k].ix.toNat].dat fts[k]⟩]) := fun h hk => meetW_tear h hk
      have HMN : Hid (fts[k].kind ≠ 2 → fts[k].kind ≠ 3 → meetW D1.pend fts[k] = []) := fun h2 h3 => meetW_no h2 h3
      have HTS : Hid (∀ D, (tornB D fts[k]).size = 512) := fun D => tornB_size D _
      generalize meetW D1.pend fts[k] = MW at *
      generalize (fun D => tornB D fts[k]) = TN at *
      generalize earl fts k fts[k].ix = E at *
      have hbx := boxed_new wr #[.int .i64 fts[k].ix, .int .i64 fts[k].kind, .int .i64 fts[k].cut, .string fts[k].junk] 61
      have hbn := below_new wr (.cells #[.int .i64 fts[k].ix, .int .i64 fts[k].kind, .int .i64 fts[k].cut, .string fts[k].junk] 61)
      generalize fts[k].ix = yi at *
      generalize fts[k].kind = yk at *
      generalize fts[k].cut = yc at *
      generalize fts[k].junk = yj at *
      obtain ⟨wa, hwa⟩ : ∃ wa, wa = wr.alloc (.cells #[.int .i64 yi, .int .i64 yk, .int .i64 yc, .string yj] 61) := ⟨_, rfl⟩
      have HWA : Hid (wa = wr.alloc (.cells #[.int .i64 yi, .int .i64 yk, .int .i64 yc, .string yj] 61)) := hwa
      rw [← hwa] at hbx hbn
      have HBX : Hid (Boxed wr.heap.size [.int .i64 yi, .int .i64 yk, .int .i64 yc, .string yj] wa) := hbx
      have HBN : Hid (Below wr.heap.size wr wa) := hbn
      clear hbx hbn hwa
      rcases (show yi < 0 ∨ 0 ≤ yi by omega) with h1 | h1
      · have HR : Hid (Two A W wa b F8 D2 c G2 (othDev D1 fts (k + 1) n) ∧ RowAt wa G2 w5.heap.size 27 2 (.slice pa P pc) D1.pend.length (secCells D1.pend)) := HNO.out (.inl h1) wa HBN.out
        clear HNO HN2 HEA HLT HMK HMT HMN
        go_wp2_with fail
        rw [← HWA.out]
        go_roundw
        case rel => exact ⟨k + 1, n, G2, by omega, by go_num, HR.out.1, HR.out.2⟩
        case measure => simp [intOf]; omega
      · rcases (show (P : Int) ≤ yi ∨ yi < (P : Int) by omega) with h2 | h2
        · have HR : Hid (Two A W wa b F8 D2 c G2 (othDev D1 fts (k + 1) n) ∧ RowAt wa G2 w5.heap.size 27 2 (.slice pa P pc) D1.pend.length (secCells D1.pend)) := HNO.out (.inr (.inl h2)) wa HBN.out
          clear HNO HN2 HEA HLT HMK HMT HMN
          go_wp2_with fail
          rw [← HWA.out]
          go_roundw
          case rel => exact ⟨k + 1, n, G2, by omega, by go_num, HR.out.1, HR.out.2⟩
          case measure => simp [intOf]; omega
        · have a3 : wa.cell? ⟨w.heap.size, 3, none⟩ = some (.slice (some ⟨tg, toff, none⟩) L tc) := cell_below HBN.out c3
          rw [HWA.out] at a3
          have hnw : ¬ w.heap.size = wr.heap.size := by have := T.out.one.bel.size; have := HWS.out; omega
          have h3 : ¬ yi < 0 := by omega
          have h4 : ¬ (P : Int) ≤ yi := by omega
          go_wp2_with fail
          rw [← HWA.out]
          refine (HEA.out wa HBN.out).mono ?_
          rintro e w9 ⟨rfl, hb9⟩
          have HB9 : Hid (Below wr.heap.size wr w9) := Below.next HBN.out hb9
          have BX9 : Hid (Boxed wr.heap.size [.int .i64 yi, .int .i64 yk, .int .i64 yc, .string yj] w9) := HBX.out.below hb9
          cases E
          · obtain ⟨j, hj⟩ : ∃ j : Nat, yi = (j : Int) := ⟨yi.toNat, by omega⟩
            have hjP : j < D1.pend.length := by rw [← HPP.out]; omega
            have HN3 : Hid (ordW D1.pend [] (fts.take (k + 1)) = ordW D1.pend [] (fts.take k) ++ MW) := HN2.out (fun hc => by rcases hc with h | h | h <;> first | omega | cases h)
            subst hj
            obtain ⟨pg, rfl⟩ := hpa (by omega)
            have R9 := R.out.up HB9.out
            obtain ⟨y0, y1⟩ := secCells_get D1.pend j hjP
            have x0 : w9.cell? ⟨pg, j * 2, none⟩ = some (.int .i64 D1.pend[j].ix) := owns_cell (cap := pc) R9.1 (by rw [HPP.out]) (j * 2) _ y0
            have x1 : w9.cell? ⟨pg, j * 2 + 1, none⟩ = some (.string D1.pend[j].dat) := owns_cell (cap := pc) R9.1 (by rw [HPP.out]) (j * 2 + 1) _ y1
            have hxo := HOK.out.pend _ (List.getElem_mem hjP)
            have HK2 : Hid (yk = 2 → MW = [⟨D1.pend[j].ix, D1.pend[j].dat⟩]) := fun h => by have := HMK.out (by simpa using hjP) h; simpa using this
            have HK3 : Hid (yk = 3 → MW = [⟨D1.pend[j].ix, tornB D1.pend[j].dat fts[k]⟩]) := fun h => by have := HMT.out (by simpa using hjP) h; simpa using this
            have HXO : Hid (∀ t : ByteArray, t.size = 512 → SecOk D1.size ⟨D1.pend[j].ix, t⟩) := fun t ht => ⟨hxo.lo, hxo.hi, ht⟩
            have hds : D1.pend[j].dat.size = 512 := hxo.len
            have HTX : Hid (∀ w', Calls Tryd.prog 32 #[.string D1.pend[j].dat, .agg #[.int .i64 (j : Int), .int .i64 yk, .int .i64 yc, .string yj]] w' fun e w'' => e = .returned (.string (tornB D1.pend[j].dat fts[k])) ∧ Below w'.heap.size w' w'') := fun w' => HLT.out _ w' hds
            have hts : (tornB D1.pend[j].dat fts[k]).size = 512 := tornB_size _ _
            have HWR : Hid (∀ t : ByteArray, t.size = 512 → MW = [⟨D1.pend[j].ix, t⟩] → ∀ w' v n0, Below wr.heap.size wr w' → wr.heap.size ≤ n0 → w'.ownsRow n0 5 1 v 512 (u8s t.data.toList) → Calls Tryd.prog 33 #[.pointer (some ⟨c, 0, none⟩), .int .i64 D1.pend[j].ix, v] w' fun e w'' => e = .returned .nilIface ∧ ∃ G' n', Two A W w'' b F8 D2 c G' (othDev D1 fts (k + 1) n') ∧ RowAt w'' G' w5.heap.size 27 2 (.slice (some ⟨pg, 0, none⟩) P pc) D1.pend.length (secCells D1.pend) ∧ Step G2 G' w' w'') := fun t ht hm w' v n0 hb' hn0 hv =>
              oth_writes HOK.out T.out R.out ⟨D1.pend[j].ix, t⟩ (HXO.out t ht) (by rw [HN3.out, hm]) (by omega) w' v n0 hb' hn0 (by show w'.ownsRow n0 5 1 v t.size (u8s t.data.toList); rw [ht]; exact hv)
            generalize tornB D1.pend[j].dat fts[k] = TB at *
            generalize D1.pend[j].ix = xi at *
            generalize D1.pend[j].dat = xd at *
            have hnG : ¬ G2 w9.heap.size := fun h => by have := T.out.two.dev.lt _ h; have := HB9.out.size; omega
            have j1 : (j : Int) < (P : Int) := by omega
            have j0 : (0 : Int) ≤ (j : Int) := Int.natCast_nonneg _
            have g0 : w9.cell? ⟨wr.heap.size, 0, none⟩ = some (.int .i64 (j : Int)) := BX9.out.2 0 (by simp)
            have g1 : w9.cell? ⟨wr.heap.size, 1, none⟩ = some (.int .i64 yk) := BX9.out.2 1 (by simp)
            have g2 : w9.cell? ⟨wr.heap.size, 2, none⟩ = some (.int .i64 yc) := BX9.out.2 2 (by simp)
            have g3 : w9.cell? ⟨wr.heap.size, 3, none⟩ = some (.string yj) := BX9.out.2 3 (by simp)
            have hn9 : ¬ wr.heap.size = w9.heap.size := by have := BX9.out.1; omega
            obtain ⟨wb, hwb⟩ : ∃ wb, wb = w9.alloc (.cells #[.int .i64 xi, .string xd] 27) := ⟨_, rfl⟩
            have HWBD : Hid (wb = w9.alloc (.cells #[.int .i64 xi, .string xd] 27)) := hwb
            have HBB : Hid (Below w9.heap.size w9 wb) := by rw [hwb]; exact below_new _ _
            have BXB : Hid (Boxed w9.heap.size [.int .i64 xi, .string xd] wb) := by rw [hwb]; exact boxed_new w9 #[.int .i64 xi, .string xd] 27
            have HBK : Hid (wb.heap[w9.heap.size]? = some (.cells #[.int .i64 xi, .string xd] 27 (0, 0))) := by rw [hwb]; exact Array.getElem?_push_size
            have u0x : (w9.alloc (.cells #[.int .i64 xi, .string xd] 27)).cell? ⟨wr.heap.size, 0, none⟩ = some (.int .i64 (j : Int)) := by rw [← HWBD.out]; exact cell_below HBB.out g0
            have u1x : (w9.alloc (.cells #[.int .i64 xi, .string xd] 27)).cell? ⟨wr.heap.size, 1, none⟩ = some (.int .i64 yk) := by rw [← HWBD.out]; exact cell_below HBB.out g1
            have u2x : (w9.alloc (.cells #[.int .i64 xi, .string xd] 27)).cell? ⟨wr.heap.size, 2, none⟩ = some (.int .i64 yc) := by rw [← HWBD.out]; exact cell_below HBB.out g2
            have u3x : (w9.alloc (.cells #[.int .i64 xi, .string xd] 27)).cell? ⟨wr.heap.size, 3, none⟩ = some (.string yj) := by rw [← HWBD.out]; exact cell_below HBB.out g3
            clear hwb hxo y0 y1 R9 HMK HMT HLT HEA HN2 HNO hb9 HTS f0 f1 f2 f3
            by_cases hk3 : yk = 3
            · have HW3 := Hid.mk' (HWR.out TB hts (HK3.out hk3))
              subst hk3
              clear HWR HK2 HK3 HMN HN3 HXO
              go_wp2_with fail
              rw [← HWBD.out]
              refine (HTX.out wb).mono ?_
              rintro e w11 ⟨rfl, hb11⟩
              have m1 : w11.cell? ⟨wr.heap.size, 1, none⟩ = some (.int .i64 3) := cell_below hb11 (cell_below HBB.out g1)
              have m2 : w11.cell? ⟨w9.heap.size, 0, none⟩ = some (.int .i64 xi) := (BXB.out.below hb11).2 0 (by simp)
              have m3 : w11.cell? ⟨w9.heap.size, 1, none⟩ = some (.string xd) := (BXB.out.below hb11).2 1 (by simp)
              have HR11 : Hid (w11.heap[w9.heap.size]? = some (.cells #[.int .i64 xi, .string xd] 27 (0, 0))) := (hb11.block _ BXB.out.1).trans HBK.out
              have hfz : w11.frozen? ⟨w9.heap.size, 1, none⟩ = false := frozen_row HR11.out
              obtain ⟨w12, hw12⟩ : ∃ w12, w12 = w11.setCell ⟨w9.heap.size, 1, none⟩ (.string TB) := ⟨_, rfl⟩
              have HW12 : Hid (w12 = w11.setCell ⟨w9.heap.size, 1, none⟩ (.string TB)) := hw12
              have HB12 : Hid (Below wr.heap.size wr w12) := by rw [hw12]; exact below_set (Below.next HB9.out (Below.next HBB.out hb11)) HB9.out.size
              have p0 : w12.cell? ⟨w9.heap.size, 0, none⟩ = some (.int .i64 xi) := by rw [hw12, cell_of_row _ _ _ _ _ _ (set_row HR11.out)]; rfl
              have p1 : w12.cell? ⟨w9.heap.size, 1, none⟩ = some (.string TB) := by rw [hw12, cell_of_row _ _ _ _ _ _ (set_row HR11.out)]; rfl
              clear hw12 HTX BXB HBK hb11
              go_wp2_with fail
              rw [← HW12.out]
              go_region_held (fun w' => w'.cell? ⟨w9.heap.size, 0, none⟩ = some (.int .i64 xi) ∧ w'.cell? ⟨w9.heap.size, 1, none⟩ = some (.string TB)) (go_keep)
                (first
                  | (go_at_call 34; refine (bytes_any TB _ (by omega)).mono ?_; rintro e w13 ⟨vb, rfl, hvb, hbd⟩; have hvb' : w13.ownsRow w12.heap.size 5 1 vb 512 (u8s TB.data.toList) := (by rw [← hts]; exact hvb); have hb13 : Below w12.heap.size w12 w13 := undrew hbd; clear hvb hbd; have hbA : Below wr.heap.size wr w13 := Below.next HB12.out hb13; obtain ⟨ba, bc, rfl, -⟩ := owns_form hvb'; have HVB := Hid.mk' hvb'; clear hvb'; have k0 := cell_below hb13 p0; have k1 := cell_below hb13 p1)
                  | (go_at_call 33; refine (HW3.out _ _ w12.heap.size ?_ HB12.out.size ?_).mono ?_; (first | exact hbA | exact bdrew hbA); (first | exact HVB.out | exact owns_drewN HVB.out 1); rintro e w14 ⟨rfl, G4, n4, T4, R4, s4⟩; have l0 := s4.cell (v := .int .i64 xi) (a := ⟨w9.heap.size, 0, none⟩) k0 hnG; have l1 := s4.cell (v := .string TB) (a := ⟨w9.heap.size, 1, none⟩) k1 hnG; have HR := Hid.mk' (And.intro T4 R4); clear T4 R4 s4))
              clear l0 l1 k0 k1 p0 p1 hb13 hbA HVB
              go_wp2_with fail
              go_roundw
              case rel => exact ⟨k + 1, n4, G4, by omega, by go_num, HR.out.1, HR.out.2⟩
              case measure => simp [intOf]; omega
            · by_cases hk2 : yk = 2
              · have HW3 := Hid.mk' (HWR.out xd hds (HK2.out hk2))
                subst hk2
                have HB12 : Hid (Below wr.heap.size wr wb) := Below.next HB9.out HBB.out
                have p0 : wb.cell? ⟨w9.heap.size, 0, none⟩ = some (.int .i64 xi) := BXB.out.2 0 (by simp)
                have p1 : wb.cell? ⟨w9.heap.size, 1, none⟩ = some (.string xd) := BXB.out.2 1 (by simp)
                clear HWR HK2 HK3 HMN HN3 HXO HTX BXB HBK
                go_wp2_with fail
                rw [← HWBD.out]
                go_region_held (fun w' => w'.cell? ⟨w9.heap.size, 0, none⟩ = some (.int .i64 xi) ∧ w'.cell? ⟨w9.heap.size, 1, none⟩ = some (.string xd)) (go_keep)
                  (first
                    | (go_at_call 34; refine (bytes_any xd _ (by omega)).mono ?_; rintro e w13 ⟨vb, rfl, hvb, hbd⟩; have hvb' : w13.ownsRow wb.heap.size 5 1 vb 512 (u8s xd.data.toList) := (by rw [← hds]; exact hvb); have hb13 : Below wb.heap.size wb w13 := undrew hbd; clear hvb hbd; have hbA : Below wr.heap.size wr w13 := Below.next HB12.out hb13; obtain ⟨ba, bc, rfl, -⟩ := owns_form hvb'; have HVB := Hid.mk' hvb'; clear hvb'; have k0 := cell_below hb13 p0; have k1 := cell_below hb13 p1)
                    | (go_at_call 33; refine (HW3.out _ _ wb.heap.size ?_ HB12.out.size ?_).mono ?_; (first | exact hbA | exact bdrew hbA); (first | exact HVB.out | exact owns_drewN HVB.out 1); rintro e w14 ⟨rfl, G4, n4, T4, R4, s4⟩; have l0 := s4.cell (v := .int .i64 xi) (a := ⟨w9.heap.size, 0, none⟩) k0 hnG; have l1 := s4.cell (v := .string xd) (a := ⟨w9.heap.size, 1, none⟩) k1 hnG; have HR := Hid.mk' (And.intro T4 R4); clear T4 R4 s4))
                clear l0 l1 k0 k1 p0 p1 hb13 hbA HVB
                go_wp2_with fail
                go_roundw
                case rel => exact ⟨k + 1, n4, G4, by omega, by go_num, HR.out.1, HR.out.2⟩
                case measure => simp [intOf]; omega
              · have HM0 : MW = [] := HMN.out hk2 hk3
                have HR : Hid (Two A W wb b F8 D2 c G2 (othDev D1 fts (k + 1) n) ∧ RowAt wb G2 w5.heap.size 27 2 (.slice (some ⟨pg, 0, none⟩) P pc) D1.pend.length (secCells D1.pend)) := by
                  have e := HN3.out
                  rw [HM0, List.append_nil] at e
                  rw [← oth_same fts k n e]
                  exact ⟨T.out.up (Below.next HB9.out HBB.out), R.out.up (Below.next HB9.out HBB.out)⟩
                have t2 : (yk == 2) = false := by simp [hk2]
                have t3 : (yk == 3) = false := by simp [hk3]
                have t4 : decide (yk = 2) = false := decide_eq_false hk2
                have t5 : decide (yk = 3) = false := decide_eq_false hk3
                clear HWR HK2 HK3 HMN HN3 HXO HTX BXB HBK HM0
                go_wp2_with fail
                rw [← HWBD.out]
                go_roundw
                case rel => exact ⟨k + 1, n, G2, by omega, by go_num, HR.out.1, HR.out.2⟩
                case measure => simp [intOf]; omega
          · have HR : Hid (Two A W w9 b F8 D2 c G2 (othDev D1 fts (k + 1) n) ∧ RowAt w9 G2 w5.heap.size 27 2 (.slice pa P pc) D1.pend.length (secCells D1.pend)) := HNO.out (.inr (.inr rfl)) w9 HB9.out
            clear HNO HN2 HEA HLT HMK HMT HMN hb9
            go_wp2_with fail
            go_roundw
            case rel => exact ⟨k + 1, n, G2, by omega, by go_num, HR.out.1, HR.out.2⟩
            case measure => simp [intOf]; omega
    · have hkL : k = fts.length := by rw [← HLL.out]; omega
      have i1 : ¬ (k : Int) < (L : Int) := by omega
      have T' := T.out
      rw [hkL] at T'
      obtain ⟨e1, e2⟩ := HEND.out n
      have SY := T'.two.sync2 rfl (by show (ordW D1.pend [] (fts.take fts.length)).length ≤ _; exact Nat.le_trans (ordW_len _ _ _) (by rw [List.length_take, ← HLL.out]; omega))
      rw [e1] at SY
      have e0 : errV A 0 = .nilIface := rfl
      rw [e0] at SY
      have T2 : Hid (Two A W wr b F8 D2 c G2 (othDev D1 fts fts.length n)) := T'
      have hdl2 : D2.dur.length ≤ 5864062014805 := Nat.le_trans T'.one.dev.ok.dur_len (by omega)
      have hdl3 : (othDev D1 fts fts.length n).sync.1.dur.length ≤ 5864062014805 := by rw [e2]; exact hdl2
      generalize (othDev D1 fts fts.length n).sync.1 = O2 at *
      have HSY : Hid (Calls Tryd.prog 21 #[.pointer (some ⟨c, 0, none⟩)] wr fun e w'' => e = .returned .nilIface ∧ ∃ F', Bg A W w'' c F' O2 ∧ Step G2 F' wr w'') := SY
      have HE2 : Hid (O2.dur = D2.dur) := e2
      clear SY e0 T' T R e2 e1 hdl3
      go_wp2_with fail
      refine HSY.out.mono ?_
      rintro e w9 ⟨rfl, G9, B9, s9⟩
      have T9 := T2.out.go2 B9 s9
      have HD1 : Hid (Calls Tryd.prog 27 #[.pointer (some ⟨c, 0, none⟩)] w9 fun e w'' => ∃ v, e = .returned v ∧ w''.ownsRow w9.heap.size 27 2 v D2.dur.length (secCells D2.dur) ∧ Below w9.heap.size w9 w'') := by
        have := T9.two.durable
        rw [HE2.out] at this
        exact this
      have HT9 : Hid (Two A W w9 b F8 D2 c G9 O2) := T9
      clear HSY B9 s9 T9 T2
      go_wp2_with fail
      refine HD1.out.mono ?_
      rintro e w10 ⟨v1, rfl, hv1, hb10⟩
      have T10 := HT9.out.up hb10
      have HD2 : Hid (Calls Tryd.prog 27 #[.pointer (some ⟨b, 0, none⟩)] w10 fun e w'' => ∃ v, e = .returned v ∧ w''.ownsRow w10.heap.size 27 2 v D2.dur.length (secCells D2.dur) ∧ Below w10.heap.size w10 w'') := T10.one.durable
      have HS1 : Hid (SecsIn w10 v1 D2.dur) := secsIn_own hv1 hdl2
      have HB10 : Hid (Below w.heap.size w w10) := Below.next HB0.out T10.one.bel
      obtain ⟨a1, x1, rfl, -⟩ := owns_form hv1
      clear HD1 hv1 hb10 T10 HT9
      go_wp2_with fail
      refine HD2.out.mono ?_
      rintro e w11 ⟨v2, rfl, hv2, hb11⟩
      have HSA := Hid.mk' (sames_any D2.dur _ v2 w11 (HS1.out.keep hb11) (secsIn_own hv2 hdl2))
      obtain ⟨a2, x2, rfl, -⟩ := owns_form hv2
      have HB11 : Hid (Below w.heap.size w w11) := Below.next HB10.out hb11
      clear HD2 hv2 hb11 HS1
      go_wp2_with fail
      refine HSA.out.mono ?_
      rintro e w12 ⟨rfl, hb12⟩
      have HR : Hid (Below w.heap.size w w12) := Below.next HB11.out hb12
      clear HSA hb12
      go_wp2_with fail
      go_ret
      exact ⟨rfl, HR.out⟩

end Go.Proofs.YtdieacdkomiooaaDoor
