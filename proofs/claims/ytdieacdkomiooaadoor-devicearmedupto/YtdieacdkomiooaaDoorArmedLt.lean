import Derived.Test.YtdieacdkomiooaaDoorArmedA
namespace Go.Proofs.YtdieacdkomiooaaDoor
open Go.RowKit Go.Maps


set_option maxRecDepth 100000 in
set_option maxHeartbeats 6400000 in
theorem armed_lt (base : Nat) (A : Nat → Addr) (X : Int) (fv sv afv ffv : Value) (first : List Sec) (steps : List Stp) (afs : List Int) (fss : List (List Fate)) (w : World) (hE : ErrsB base A w) (hfv : SecsIn w fv first) (hfl : first.length ≤ 1048576) (hsv : StepsIn w sv steps) (haf : IntsIn w afv afs) (hff : FatessIn w ffv fss) (hcase : fss.length < afs.length) :
    Calls Tryd.prog 7 #[.agg #[.int .i64 X, fv, sv, afv, ffv]] w fun e w' => e = .returned (.bool true) ∧ Below w.heap.size w w' := by
  obtain ⟨fa, fc, hfve⟩ : ∃ a c, fv = .slice a first.length c := by obtain ⟨a, c, _, _, h, _⟩ := hfv; exact ⟨a, c, h⟩
  obtain ⟨sa, sc, hsve⟩ : ∃ a c, sv = .slice a steps.length c := by obtain ⟨a, c, _, _, _, h, _⟩ := hsv; exact ⟨a, c, h⟩
  obtain ⟨aa, ac, hafe⟩ : ∃ a c, afv = .slice a afs.length c := by obtain ⟨a, c, _, _, h, _⟩ := haf; exact ⟨a, c, h⟩
  obtain ⟨ga, gc, hffe⟩ : ∃ a c, ffv = .slice a fss.length c := by obtain ⟨a, c, _, _, _, h, _⟩ := hff; exact ⟨a, c, h⟩
  obtain ⟨NI, hNI⟩ : ∃ n, n = first.length := ⟨_, rfl⟩
  obtain ⟨M, hM⟩ : ∃ n, n = steps.length := ⟨_, rfl⟩
  obtain ⟨NA, hNA⟩ : ∃ n, n = afs.length := ⟨_, rfl⟩
  obtain ⟨N, hNF⟩ : ∃ n, n = fss.length := ⟨_, rfl⟩
  rw [← hNI] at hfve
  rw [← hM] at hsve
  rw [← hNA] at hafe
  rw [← hNF] at hffe
  subst hfve hsve hafe hffe
  have HM := Hid.mk2 hM
  have HNA := Hid.mk2 hNA
  have HNF := Hid.mk2 hNF
  have h7 : (N : Int) < (NA : Int) := by omega
  have h7n : N < NA := by omega
  have HML : Hid (M ≤ 1048576) := by obtain ⟨_, _, _, _, _, _, h, _⟩ := hsv; show _ ≤ _; omega
  have HNL : Hid (N ≤ 1048576 ∧ N ≤ NA ∧ N ≤ N) := by
    obtain ⟨_, _, _, _, _, h1, _⟩ := haf
    obtain ⟨_, _, _, _, _, _, h2, _⟩ := hff
    exact ⟨by omega, by omega, by omega⟩
  clear hcase hNI hM hNA hNF
  obtain ⟨W, hW⟩ : ∃ W, W = w.alloc (.cells #[.int .i64 X, (.slice fa NI fc), (.slice sa M sc), (.slice aa NA ac), (.slice ga N gc)] 69) := ⟨_, rfl⟩
  obtain ⟨W2, hW2⟩ : ∃ W2, W2 = W.alloc (.cells #[.int .i64 X, (.slice fa NI fc), .slice none 0 0] 25) := ⟨_, rfl⟩
  have hbA : Below w.heap.size w W := by rw [hW]; exact below_new _ _
  have hbB : Below W.heap.size W W2 := by rw [hW2]; exact below_new _ _
  have hb0 := Below.next hbA hbB
  have hws : W.heap.size = w.heap.size + 1 := by rw [hW]; simp
  have hbx : Boxed w.heap.size [.int .i64 X, (.slice fa NI fc), (.slice sa M sc), (.slice aa NA ac), (.slice ga N gc)] W2 := by
    have : Boxed w.heap.size [.int .i64 X, (.slice fa NI fc), (.slice sa M sc), (.slice aa NA ac), (.slice ga N gc)] W := by rw [hW]; exact boxed_new w #[.int .i64 X, (.slice fa NI fc), (.slice sa M sc), (.slice aa NA ac), (.slice ga N gc)] 69
    exact this.below hbB
  have hby : Boxed (w.heap.size + 1) [.int .i64 X, (.slice fa NI fc), .slice none 0 0] W2 := by
    have := boxed_new W #[.int .i64 X, (.slice fa NI fc), .slice none 0 0] 25
    rw [← hW2, hws] at this; exact this
  have HE : Hid (ErrsB base A W2) := hE.up hb0
  obtain ⟨D, hD⟩ : ∃ D, D = smallDev (pickI X) first := ⟨_, rfl⟩
  have HSM : Hid (∀ w', Below W2.heap.size W2 w' → Calls Tryd.prog 17 #[.agg #[.int .i64 X, (.slice fa NI fc), .slice none 0 0], .bool false] w' fun e w'' => ∃ b F, e = .returned (.pointer (some ⟨b, 0, none⟩)) ∧ DevAt w'' b F D ∧ Below w'.heap.size w' w'' ∧ ∀ k, F k → w'.heap.size ≤ k) := fun w' hb' => by
    rw [hD]
    exact small_any base A X (.slice fa NI fc) (.slice none 0 0) first [] w' (HE.out.up hb') ((hfv.keep hb0).keep hb') hfl (stepsIn_nil _)
  have HDP : Hid (D.pend = [] ∧ D.arms = []) := by rw [hD]; exact ⟨rfl, rfl⟩
  have HSV : Hid (StepsIn W2 (.slice sa M sc) steps) := hsv.keep hb0
  have HAF : Hid (IntsIn W2 (.slice aa NA ac) afs) := haf.keep hb0
  have HFF : Hid (FatessIn W2 (.slice ga N gc) fss) := hff.keep hb0
  have HB0 := Hid.mk2 hb0
  have HWD : Hid (W = w.alloc (.cells #[.int .i64 X, (.slice fa NI fc), (.slice sa M sc), (.slice aa NA ac), (.slice ga N gc)] 69)) := hW
  have HWD2 : Hid (W2 = W.alloc (.cells #[.int .i64 X, (.slice fa NI fc), .slice none 0 0] 25)) := hW2
  have HBX := Hid.mk2 hbx
  have HBY := Hid.mk2 hby
  have HWS : Hid (w.heap.size < W2.heap.size) := hbx.1
  clear hfv hsv hE hfl hb0 hbx hby hW hW2 haf hff hbA hbB hD hws
  go_enter Tryd.func7, Tryd.ntmps7
  go_wp2_with fail
  rw [← HWD.out, ← HWD2.out]
  refine (HSM.out W2 (Below.refl _ _)).mono ?_
  rintro e w1 ⟨b, F1, rfl, hd1, hb1, hF1⟩
  have HB1 := Hid.mk2 hb1
  have HBG1 : Hid (Bg A W2 w1 b F1 D) := ⟨hd1, hb1, hF1, HE.out.here.up hb1⟩
  have HSM2 := Hid.mk2 (HSM.out w1 hb1)
  have y0 : w1.cell? ⟨w.heap.size + 1, 0, none⟩ = some (.int .i64 X) := (HBY.out.below hb1).2 0 (by simp)
  have y1 : w1.cell? ⟨w.heap.size + 1, 1, none⟩ = some (.slice fa NI fc) := (HBY.out.below hb1).2 1 (by simp)
  have y2 : w1.cell? ⟨w.heap.size + 1, 2, none⟩ = some (.slice none 0 0) := (HBY.out.below hb1).2 2 (by simp)
  clear hd1 hb1 hF1 HSM
  go_wp2_with fail
  refine HSM2.out.mono ?_
  rintro e w2 ⟨c, G1, rfl, hd2, hb2, hG2⟩
  have HT2 : Hid (Two A W2 w2 b F1 D c G1 D) := ⟨HBG1.out.up hb2, ⟨hd2, Below.next HB1.out hb2, fun k hk => by have := hG2 k hk; have := HB1.out.size; omega, HBG1.out.err.up hb2⟩, fun k hf hg => by have := HBG1.out.dev.lt k hf; have := hG2 k hg; omega⟩
  have HBG := Hid.mk2 (begun_any base A w2 (HE.out.up (Below.next HB1.out hb2)))
  have hne1 := run_eql_pointer_nil (P := Tryd.prog) w2 29 (some ⟨b, 0, none⟩) Tryd.underlying29
  have hne2 := run_eql_pointer_nil (P := Tryd.prog) w2 29 (some ⟨c, 0, none⟩) Tryd.underlying29
  clear HSM2 HBG1 HB1 hd2 hb2 hG2 y0 y1 y2
  go_wp2_with fail
  refine HBG.out.mono ?_
  rintro e w3 ⟨rfl, hb3⟩
  have HT3 := Hid.mk2 (HT2.out.up hb3)
  have c3 : w3.cell? ⟨w.heap.size, 3, none⟩ = some (.slice aa NA ac) := (HBX.out.below HT3.out.one.bel).2 3 (by simp)
  have c4 : w3.cell? ⟨w.heap.size, 4, none⟩ = some (.slice ga N gc) := (HBX.out.below HT3.out.one.bel).2 4 (by simp)
  clear HBG HT2 hb3 hne1 hne2
  obtain ⟨al, hal⟩ : ∃ al, al = afs.zip fss := ⟨_, rfl⟩
  have HAL := Hid.mk2 hal
  have HLN : Hid (al.length = N) := by show _ = _; rw [hal, List.length_zip, ← HNA.out, ← HNF.out]; have := HNL.out; omega
  clear hal
  go_wp2_with fail
  go_loopw [7] (fun i wr => ∃ (k : Nat) (F' : Nat → Prop), k ≤ N ∧ i = .int .i64 (k : Int) ∧ Two A W2 wr b F' (withArms D ((al.take k).map armOf)) c G1 D) (fun i _ => N - (intOf i).toNat)
  case atStart => exact ⟨0, F1, Nat.zero_le _, rfl, by rw [show withArms D ((al.take 0).map armOf) = D from with_same D HDP.out.2]; exact HT3.out⟩
  case round =>
    obtain ⟨k, F2, hk, rfl, T⟩ := hrel
    have HT := Hid.mk2 T
    have c3' : wr.cell? ⟨w.heap.size, 3, none⟩ = some (.slice aa NA ac) := (HBX.out.below T.one.bel).2 3 (by simp)
    have c4' : wr.cell? ⟨w.heap.size, 4, none⟩ = some (.slice ga N gc) := (HBX.out.below T.one.bel).2 4 (by simp)
    clear HT3 c3 c4
    by_cases hlt : k < N
    · have hkA : k < afs.length := by rw [← HNA.out]; have := HNL.out; omega
      have hkF : k < fss.length := by rw [← HNF.out]; have := HNL.out; omega
      obtain ⟨a1, cap1, ag, aoff, p1, p2, p3, p4⟩ := HAF.out
      simp only [Value.slice.injEq] at p1
      obtain ⟨rfl, -, -⟩ := p1
      obtain rfl := p3 (by omega)
      obtain ⟨x1, hx1⟩ := p4 k hkA
      obtain ⟨a2, cap2, fg, foff, fvs, r1, r2, r3, r4, r5⟩ := HFF.out
      simp only [Value.slice.injEq] at r1
      obtain ⟨rfl, -, -⟩ := r1
      obtain rfl := r3 (by omega)
      obtain ⟨x2, hx2⟩ := r5 k hkF (by omega)
      have HAGB : Hid (ag < W2.heap.size ∧ fg < W2.heap.size) := ⟨World.block_lt_of_cell? W2 _ x1, World.block_lt_of_cell? W2 _ x2⟩
      replace x1 := cell_below T.one.bel x1
      replace x2 := cell_below T.one.bel x2
      have hNb := HNL.out.1
      have HFI : Hid (∀ w', Below W2.heap.size W2 w' → Calls Tryd.prog 24 #[fvs[k]'(by omega)] w' fun e w'' => ∃ v', e = .returned v' ∧ w''.ownsRow w'.heap.size 61 4 v' fss[k].length (fateCells fss[k]) ∧ Below w'.heap.size w' w'') := fun w' hb' => fates_any _ _ w' (hx2.keep hb')
      have HFL : Hid (fss[k].length ≤ 3518437208883) := by obtain ⟨_, _, _, _, _, h, _⟩ := hx2; exact h
      have HNX : Hid (withArms D ((al.take (k + 1)).map armOf) = (withArms D ((al.take k).map armOf)).arm afs[k] fss[k]) := by
        show _ = _
        rw [show afs[k] = (afs[k], fss[k]).1 from rfl, show fss[k] = (afs[k], fss[k]).2 from rfl, arm_with, List.take_succ_eq_append_getElem (by rw [HLN.out]; exact hlt), List.map_append]
        congr 2
        simp [HAL.out]
      have HTL : Hid (((withArms D ((al.take k).map armOf)).arms.length + 1) * 32 ≤ 140737488355328) := by
        show ((List.map armOf (al.take k)).length + 1) * 32 ≤ _
        rw [List.length_map, List.length_take]; have := HNL.out; omega
      obtain ⟨fka, fkc, hfk⟩ : ∃ a c, fvs[k]'(by omega) = .slice a fss[k].length c := by obtain ⟨a, c, _, _, h, _⟩ := hx2; exact ⟨a, c, h⟩
      rw [hfk] at x2 HFI
      have k0 : (0 : Int) ≤ (k : Int) := Int.natCast_nonneg _
      have k1 : (k : Int) < (N : Int) := by omega
      have k2 : (k : Int) < (NA : Int) := by have := HNL.out; omega
      have k3 : (k : Int) < (N : Int) := by have := HNL.out; omega
      generalize afs[k] = af at *
      generalize fss[k] = fl at *
      clear p2 p3 p4 r2 r3 r4 r5 hx2 hfk hkA hkF T
      have HLTB : Hid (∀ q, q < W2.heap.size → ¬ F2 q) := fun q hq hf => by have := HT.out.one.far q hf; omega
      have HARM : Hid (∀ w' v, Below wr.heap.size wr w' → w'.ownsRow wr.heap.size 61 4 v fl.length (fateCells fl) → Calls Tryd.prog 35 #[.pointer (some ⟨b, 0, none⟩), .int .i64 af, v] w' fun e w'' => e = .returned (.tuple #[]) ∧ ∃ F', Two A W2 w'' b F' (withArms D ((al.take (k + 1)).map armOf)) c G1 D ∧ ∀ q j u, q < W2.heap.size → wr.cell? ⟨q, j, none⟩ = some u → w''.cell? ⟨q, j, none⟩ = some u) := fun w' v hb' hr' => by
        rw [HNX.out]
        exact ((HT.out.up hb').arm1 af fl v _ hr' HFL.out hx1 HTL.out).mono fun e w'' ⟨he, F', h1, h2⟩ => ⟨he, F', h1, fun q j u hq hu => h2.cell (cell_below hb' hu) (HLTB.out q hq)⟩
      go_wp2_with fail
      go_region_held (fun w' => w'.cell? ⟨w.heap.size, 3, none⟩ = some (.slice (some ⟨ag, aoff, none⟩) NA ac) ∧ w'.cell? ⟨w.heap.size, 4, none⟩ = some (.slice (some ⟨fg, foff, none⟩) N gc) ∧ w'.cell? ⟨ag, aoff + k, none⟩ = some (.int .i64 af) ∧ w'.cell? ⟨fg, foff + k, none⟩ = some (.slice fka fl.length fkc)) (go_keep)
        (first
          | (go_at_call 24; refine (HFI.out _ ?_).mono ?_; (first | exact bdrew HT.out.one.bel | exact HT.out.one.bel); rintro e w4 ⟨v4, rfl, hv4, hbd4⟩; have hb4 : Below wr.heap.size wr w4 := (by first | exact hbd4 | exact undrew hbd4); have HAR := Hid.mk2 (HARM.out w4 v4 hb4 hv4); obtain ⟨va4, vc4, rfl, -⟩ := owns_form hv4; have u3 := cell_below hb4 c3'; have u4 := cell_below hb4 c4'; have u1 := cell_below hb4 x1; have u2 := cell_below hb4 x2; clear hbd4 hb4 hv4)
          | (go_at_call 35; refine HAR.out.mono ?_; rintro e w5 ⟨rfl, F5, T5, hc5⟩; have HT5 := Hid.mk2 T5; have s3 := hc5 _ _ _ HWS.out c3'; have s4 := hc5 _ _ _ HWS.out c4'; have s1 := hc5 _ _ _ HAGB.out.1 x1; have s2 := hc5 _ _ _ HAGB.out.2 x2; clear T5 hc5))
      go_wp2_with fail
      go_roundw
      case rel => exact ⟨k + 1, F5, by omega, by go_num, HT5.out⟩
      case measure => simp [intOf]; omega
    · have hkN : k = N := by omega
      have k1 : ¬ (k : Int) < (N : Int) := by omega
      have HTT : Hid (Two A W2 wr b F2 (withArms D (lapse al 0)) c G1 D) := by
        show Two _ _ _ _ _ _ _ _ _
        rw [lapse_zero]
        have h := HT.out
        rw [List.take_of_length_le (by rw [HLN.out]; omega)] at h
        exact h
      clear HT T c3' c4' hkN
      go_wp2_with fail
      go_wp2_with fail
      go_loopw [8, 9, 10] (fun nx gn i wr => ∃ (j k : Nat) (g : Int) (F' G' : Nat → Prop) (d : Dev), k ≤ M ∧ j ≤ N ∧ i = .int .i64 (k : Int) ∧ nx = .int .i64 (j : Int) ∧ gn = .int .i64 g ∧ 0 ≤ g ∧ g ≤ (k : Int) ∧ d.arms = [] ∧ Two A W2 wr b F' (withArms d (lapse (al.drop j) g)) c G' d ∧ d.pend.length ≤ k * 2048) (fun _ _ i _ => M - (intOf i).toNat)
      case atStart => exact ⟨0, 0, 0, F2, G1, D, Nat.zero_le _, Nat.zero_le _, rfl, rfl, rfl, by omega, by omega, HDP.out.2, by rw [List.drop_zero]; exact HTT.out, by rw [HDP.out.1]; simp⟩
      case round =>
        rename_i wr0
        obtain ⟨j, k, g, F5, G5, d, hk, hj, rfl, rfl, rfl, hg0, hgk, hda, T, hpe⟩ := hrel
        have HT := Hid.mk2 T
        have HDA := Hid.mk2 hda
        have b2 : wr.cell? ⟨w.heap.size, 2, none⟩ = some (.slice sa M sc) := (HBX.out.below T.one.bel).2 2 (by simp)
        have hMb := HML.out
        clear HTT
        by_cases hlt : k < M
        · obtain ⟨a', cap', sg, soff, fvs, h1, h2, h3, h4, h5⟩ := HSV.out
          simp only [Value.slice.injEq] at h1
          obtain ⟨rfl, -, -⟩ := h1
          have hkl : k < steps.length := by rw [← HM.out]; exact hlt
          obtain rfl := h3 (by omega)
          obtain ⟨⟨x0, x1, x2, x3, x4⟩, hfx, hnx, hdx⟩ := h5 k hkl (by omega)
          replace x0 := cell_below T.one.bel x0
          replace x1 := cell_below T.one.bel x1
          replace x2 := cell_below T.one.bel x2
          replace x3 := cell_below T.one.bel x3
          replace x4 := cell_below T.one.bel x4
          have k0 : (0 : Int) ≤ (k : Int) := Int.natCast_nonneg _
          have k1 : (k : Int) < (M : Int) := by omega
          generalize steps[k] = sk at *
          generalize fvs[k]'(by omega) = fk at *
          obtain ⟨K, S, n, Dt, fl⟩ := sk
          simp only [] at x0 x1 x2 x3 x4 hfx hnx hdx
          obtain ⟨fka, fkc, rfl⟩ : ∃ a c, fk = .slice a fl.length c := by obtain ⟨a, c, _, _, h, _⟩ := hfx; exact ⟨a, c, h⟩
          obtain ⟨W1, hW1⟩ : ∃ W1, W1 = wr.alloc (.cells #[.int .i64 K, .int .i64 S, .int .i64 n, .string Dt, .slice fka fl.length fkc] 72) := ⟨_, rfl⟩
          have hbw : Below wr.heap.size wr W1 := by rw [hW1]; exact below_new _ _
          have HBX1 : Hid (Boxed wr.heap.size [.int .i64 K, .int .i64 S, .int .i64 n, .string Dt, .slice fka fl.length fkc] W1) := by rw [hW1]; exact boxed_new wr #[.int .i64 K, .int .i64 S, .int .i64 n, .string Dt, .slice fka fl.length fkc] 72
          have T1 := T.up hbw
          have HWW := Hid.mk2 hW1
          have HPF : Hid (¬ F5 wr.heap.size ∧ ¬ G5 wr.heap.size) := ⟨fun h => by have := T.one.dev.lt _ h; omega, fun h => by have := T.two.dev.lt _ h; omega⟩
          clear h2 h3 h4 h5
          by_cases h5 : K = 5
          · have e5 : (K == 5) = true := by rw [h5]; decide
            have HEN : Hid (Two A W2 W1 b F5 (withArms d (lapse (al.drop j) g)) c G5 d) := T1
            rw [hW1] at HEN
            clear T T1 hbw hW1 h5
            go_wp2_with fail
            go_roundw
            case rel => exact ⟨j, k + 1, g, F5, G5, d, by omega, hj, by go_num, rfl, rfl, hg0, by omega, HDA.out, HEN.out, by omega⟩
            case measure => simp [intOf]; omega
          · have e5 : (K == 5) = false := by simpa using h5
            have HA1 : Hid (Calls Tryd.prog 36 #[.pointer (some ⟨b, 0, none⟩), .agg #[.int .i64 K, .int .i64 S, .int .i64 n, .string Dt, .slice fka fl.length fkc]] W1 fun e w' => ∃ vb vs F', ActT A W2 W1 b F5 c G5 d ((withArms d (lapse (al.drop j) g)).act ⟨K, S, n, Dt, fl⟩) e w' vb vs F') := T1.act1 ⟨K, S, n, Dt, fl⟩ (.slice fka fl.length fkc) (hfx.keep T1.one.bel) (stpOk_of hnx hdx hpe (by omega)) (by
              show ((lapse (al.drop j) g).length + 1) * 32 ≤ _
              rw [lapse_len, List.length_drop, HLN.out]; have := HNL.out; omega)
            have HSO := Hid.mk2 (stpOk_of (d := d) (s := ⟨K, S, n, Dt, fl⟩) hnx hdx hpe (by omega))
            have HFX := Hid.mk2 hfx
            have hac := armed_act (d := d) hda (lapse (al.drop j) g) ⟨K, S, n, Dt, fl⟩ h5
            have hlen := act_lens d ⟨K, S, n, Dt, fl⟩ T.two.dev.ok (by omega)
            have hpn := act_pend d ⟨K, S, n, Dt, fl⟩
            have HAN := Hid.mk2 (act_arms d ⟨K, S, n, Dt, fl⟩ hda h5)
            have HCT : Hid (counted d ⟨K, S, n, Dt, fl⟩ = ((decide (K = 1) || decide (K = 2)) && decide ((d.act ⟨K, S, n, Dt, fl⟩).2.err = 0))) := (rfl : counted d ⟨K, S, n, Dt, fl⟩ = _)
            have HAL2 : Hid (counted d ⟨K, S, n, Dt, fl⟩ = true → (d.act ⟨K, S, n, Dt, fl⟩).1.dead = false) := fun h => counted_alive hda h
            have HEE : Hid ((d.act ⟨K, S, n, Dt, fl⟩).2.err ≤ 8) := act_err d _
            generalize counted d ⟨K, S, n, Dt, fl⟩ = ct at *
            have HPN : Hid ((d.act ⟨K, S, n, Dt, fl⟩).1.pend.length ≤ (k + 1) * 2048) := by show _ ≤ _; simp only [] at hpn; omega
            have HA2 : Hid (∀ F6 R w', Two A W2 w' b F6 R c G5 d → Calls Tryd.prog 36 #[.pointer (some ⟨c, 0, none⟩), .agg #[.int .i64 K, .int .i64 S, .int .i64 n, .string Dt, .slice fka fl.length fkc]] w' fun e w'' => ∃ vb vs G', ActT A W2 w' c G5 b F6 R (d.act ⟨K, S, n, Dt, fl⟩) e w'' vb vs G') := fun F6 R w' h => h.act2 ⟨K, S, n, Dt, fl⟩ (.slice fka fl.length fkc) (HFX.out.keep h.one.bel) HSO.out (by rw [hda]; simp)
            generalize d.act ⟨K, S, n, Dt, fl⟩ = R at *
            obtain ⟨R1, re, rby, rse, ra, rb, rc⟩ := R
            simp only [] at hlen HPN HAN HCT HAL2 HA2 HEE hac
            have HLEN := Hid.mk2 hlen
            obtain ⟨Q, hQ⟩ : ∃ Q, Q = (withArms d (lapse (al.drop j) g)).act ⟨K, S, n, Dt, fl⟩ := ⟨_, rfl⟩
            rw [← hQ] at HA1 hac
            have HAC := Hid.mk2 hac
            -- what the armed one answers differs in its error alone
            obtain ⟨Q1, qe, qby, qse, qa, qb, qc⟩ := Q
            obtain ⟨rfl, rfl, rfl, rfl, rfl⟩ : qby = rby ∧ qse = rse ∧ qa = ra ∧ qb = rb ∧ qc = rc := by
              cases ct
              · simp only [Bool.false_eq_true, if_false, Prod.mk.injEq, SaidD.mk.injEq] at hac
                exact ⟨hac.2.2.1, hac.2.2.2.1, hac.2.2.2.2.1, hac.2.2.2.2.2.1, hac.2.2.2.2.2.2⟩
              · simp only [if_true, Prod.mk.injEq, SaidD.mk.injEq] at hac
                exact ⟨hac.2.2.1, hac.2.2.2.1, hac.2.2.2.2.1, hac.2.2.2.2.2.1, hac.2.2.2.2.2.2⟩
            clear T T1 hbw hW1 hfx hnx hdx hac hlen hpn hQ hda
            go_wp2_with fail
            rw [← HWW.out]
            refine HA1.out.mono ?_
            rintro e w2' ⟨vb, vs, F6, P⟩
            obtain rfl := P.ret
            have HP := Hid.mk2 P
            obtain ⟨va, vc, rfl, -⟩ := owns_form P.rb.1
            obtain ⟨sa', sc', rfl, -⟩ := owns_form P.rs.1
            clear HA1
            simp only [] at P HP
            obtain ⟨W3, hW3⟩ : ∃ W3, W3 = w2'.alloc (.cells #[.int .i64 (qe : Int), .slice va qby.length vc, .slice sa' qse.length sc', .int .i64 qa, .int .i64 qb, .int .i64 qc] 74) := ⟨_, rfl⟩
            have hb3 : Below w2'.heap.size w2' W3 := by rw [hW3]; exact below_new _ _
            have HX3 : Hid (Boxed w2'.heap.size [.int .i64 (qe : Int), .slice va qby.length vc, .slice sa' qse.length sc', .int .i64 qa, .int .i64 qb, .int .i64 qc] W3) := by rw [hW3]; exact boxed_new w2' #[.int .i64 (qe : Int), .slice va qby.length vc, .slice sa' qse.length sc', .int .i64 qa, .int .i64 qb, .int .i64 qc] 74
            have HS3 : Hid (Boxed wr.heap.size [.int .i64 K, .int .i64 S, .int .i64 n, .string Dt, .slice fka fl.length fkc] W3) := (HBX1.out.step P.step HPF.out.1).below hb3
            have HT3 : Hid (Two A W2 W3 b F6 Q1 c G5 d) := P.two.up hb3
            have z0 : W3.cell? ⟨wr.heap.size, 0, none⟩ = some (.int .i64 K) := HS3.out.2 0 (by simp)
            have z1 : W3.cell? ⟨wr.heap.size, 1, none⟩ = some (.int .i64 S) := HS3.out.2 1 (by simp)
            have z2 : W3.cell? ⟨wr.heap.size, 2, none⟩ = some (.int .i64 n) := HS3.out.2 2 (by simp)
            have z3 : W3.cell? ⟨wr.heap.size, 3, none⟩ = some (.string Dt) := HS3.out.2 3 (by simp)
            have z4 : W3.cell? ⟨wr.heap.size, 4, none⟩ = some (.slice fka fl.length fkc) := HS3.out.2 4 (by simp)
            have HR1 : Hid (RowAt W3 G5 W1.heap.size 5 1 (.slice va qby.length vc) qby.length (u8s qby) ∧ RowAt W3 G5 W1.heap.size 27 2 (.slice sa' qse.length sc') qse.length (secCells qse)) := ⟨(P.rb.imp (fun k hk => .inr hk)).up hb3, (P.rs.imp (fun k hk => .inr hk)).up hb3⟩
            have HA3 := Hid.mk2 (HA2.out F6 Q1 W3 HT3.out)
            have HW3 := Hid.mk2 hW3
            have HGL : Hid (¬ G5 w2'.heap.size) := fun h => by have := P.two.two.dev.lt _ h; omega
            rw [hW3] at z0 z1 z2 z3 z4
            clear P hb3 hW3 HA2
            go_wp2_with fail
            rw [← HW3.out]
            refine HA3.out.mono ?_
            rintro e w4 ⟨vb2, vs2, G6, P2⟩
            obtain rfl := P2.ret
            obtain ⟨ua, uc, rfl, -⟩ := owns_form P2.rb.1
            obtain ⟨ta, tc, rfl, -⟩ := owns_form P2.rs.1
            clear HA3 z0 z1 z2 z3 z4
            simp only [] at P2
            obtain ⟨W5, hW5⟩ : ∃ W5, W5 = w4.alloc (.cells #[.int .i64 (re : Int), .slice ua qby.length uc, .slice ta qse.length tc, .int .i64 qa, .int .i64 qb, .int .i64 qc] 74) := ⟨_, rfl⟩
            have hb5 : Below w4.heap.size w4 W5 := by rw [hW5]; exact below_new _ _
            have HX5 : Hid (Boxed w4.heap.size [.int .i64 (re : Int), .slice ua qby.length uc, .slice ta qse.length tc, .int .i64 qa, .int .i64 qb, .int .i64 qc] W5 ∧ W5.heap[w4.heap.size]? = some (.cells #[.int .i64 (re : Int), .slice ua qby.length uc, .slice ta qse.length tc, .int .i64 qa, .int .i64 qb, .int .i64 qc] 74 (0, 0))) := by
              refine ⟨?_, ?_⟩
              · rw [hW5]; exact boxed_new w4 #[.int .i64 (re : Int), .slice ua qby.length uc, .slice ta qse.length tc, .int .i64 qa, .int .i64 qb, .int .i64 qc] 74
              · rw [hW5]; exact heap_alloc_new w4 _
            have HG5 : Hid (Boxed w2'.heap.size [.int .i64 (qe : Int), .slice va qby.length vc, .slice sa' qse.length sc', .int .i64 qa, .int .i64 qb, .int .i64 qc] W5) := (HX3.out.step P2.step HGL.out).below hb5
            have HS5 : Hid (Boxed wr.heap.size [.int .i64 K, .int .i64 S, .int .i64 n, .string Dt, .slice fka fl.length fkc] W5) := (HS3.out.step P2.step HPF.out.2).below hb5
            have HT5 : Hid (Two A W2 W5 b F6 Q1 c G6 R1) := P2.two.swap.up hb5
            have HR5 : Hid (RowAt W5 G6 W1.heap.size 5 1 (.slice va qby.length vc) qby.length (u8s qby) ∧ RowAt W5 G6 W1.heap.size 27 2 (.slice sa' qse.length sc') qse.length (secCells qse) ∧ RowAt W5 G6 W3.heap.size 5 1 (.slice ua qby.length uc) qby.length (u8s qby) ∧ RowAt W5 G6 W3.heap.size 27 2 (.slice ta qse.length tc) qse.length (secCells qse)) :=
              ⟨(HR1.out.1.step P2.step).up hb5, (HR1.out.2.step P2.step).up hb5, (P2.rb.imp (fun k hk => .inl hk)).up hb5, (P2.rs.imp (fun k hk => .inl hk)).up hb5⟩
            have HGN : Hid (¬ G6 w2'.heap.size ∧ ¬ G6 w4.heap.size ∧ w2'.heap.size < w4.heap.size) := by
              have h1 := HX3.out.1
              have h2 := P2.step.size
              refine ⟨fun h => (P2.step.sub _ h).elim HGL.out (fun h' => by omega), fun h => by have := P2.two.one.dev.lt _ h; omega, by omega⟩
            have HW2L : Hid (W2.heap.size ≤ w4.heap.size) := by have h1 := HX3.out.1; have h2 := P2.step.size; have h3 := HT3.out.one.bel.size; exact Nat.le_trans h3 h2
            have HF6 : Hid (∀ q, F6 q → q < w4.heap.size) := fun q hq => P2.two.two.dev.lt q hq
            have z0 : W5.cell? ⟨wr.heap.size, 0, none⟩ = some (.int .i64 K) := HS5.out.2 0 (by simp)
            have HW5 := Hid.mk2 hW5
            rw [hW5] at z0
            -- what the last words of a round do
            have HSAME : Hid (∀ w' E, BytesIn w' (.slice va qby.length vc) qby → SecsIn w' (.slice sa' qse.length sc') qse → BytesIn w' (.slice ua qby.length uc) qby → SecsIn w' (.slice ta qse.length tc) qse → Calls Tryd.prog 37 #[.agg #[.int .i64 ((E : Nat) : Int), .slice va qby.length vc, .slice sa' qse.length sc', .int .i64 qa, .int .i64 qb, .int .i64 qc], .agg #[.int .i64 ((E : Nat) : Int), .slice ua qby.length uc, .slice ta qse.length tc, .int .i64 qa, .int .i64 qb, .int .i64 qc]] w' fun e w'' => e = .returned (.bool true) ∧ Below w'.heap.size w' w'') := fun w' E h1 h2 h3 h4 => same_any ⟨E, qby, qse, qa, qb, qc⟩ _ _ _ _ w' h1 h2 h3 h4
            have HROWS : Hid (∀ w' G7, RowAt w' G7 W1.heap.size 5 1 (.slice va qby.length vc) qby.length (u8s qby) → RowAt w' G7 W1.heap.size 27 2 (.slice sa' qse.length sc') qse.length (secCells qse) → RowAt w' G7 W3.heap.size 5 1 (.slice ua qby.length uc) qby.length (u8s qby) → RowAt w' G7 W3.heap.size 27 2 (.slice ta qse.length tc) qse.length (secCells qse) → BytesIn w' (.slice va qby.length vc) qby ∧ SecsIn w' (.slice sa' qse.length sc') qse ∧ BytesIn w' (.slice ua qby.length uc) qby ∧ SecsIn w' (.slice ta qse.length tc) qse) := fun w' G7 h1 h2 h3 h4 => ⟨bytesIn_own h1.1 HLEN.out.1, secsIn_own h2.1 HLEN.out.2, bytesIn_own h3.1 HLEN.out.1, secsIn_own h4.1 HLEN.out.2⟩
            clear P2 hb5 hW5 HX3 HS3 HT3 HR1 HGL HP
            have g0 : W5.cell? ⟨w2'.heap.size, 0, none⟩ = some (.int .i64 (qe : Int)) := HG5.out.2 0 (by simp)
            have g1 : W5.cell? ⟨w2'.heap.size, 1, none⟩ = some (.slice va qby.length vc) := HG5.out.2 1 (by simp)
            have g2 : W5.cell? ⟨w2'.heap.size, 2, none⟩ = some (.slice sa' qse.length sc') := HG5.out.2 2 (by simp)
            have g3 : W5.cell? ⟨w2'.heap.size, 3, none⟩ = some (.int .i64 qa) := HG5.out.2 3 (by simp)
            have g4 : W5.cell? ⟨w2'.heap.size, 4, none⟩ = some (.int .i64 qb) := HG5.out.2 4 (by simp)
            have g5 : W5.cell? ⟨w2'.heap.size, 5, none⟩ = some (.int .i64 qc) := HG5.out.2 5 (by simp)
            rw [HW5.out] at g0 g1 g2 g3 g4 g5
            have HRW := Hid.mk2 (HROWS.out W5 G6 HR5.out.1 HR5.out.2.1 HR5.out.2.2.1 HR5.out.2.2.2)
            by_cases hcnd : ct = true ∧ j < N
            · obtain ⟨hct, hjn⟩ := hcnd
              have hcc := HCT.out
              rw [hct] at hcc
              have hre : re = 0 := by simpa using (show (decide (re = 0)) = true by revert hcc; cases (decide (re = 0)) <;> simp)
              have hkk : K = 1 ∨ K = 2 := by
                by_cases h1 : K = 1
                · exact .inl h1
                · by_cases h2 : K = 2
                  · exact .inr h2
                  · simp [h1, h2] at hcc
              have hjA : j < afs.length := by rw [← HNA.out]; have := HNL.out; omega
              have hjF : j < fss.length := by rw [← HNF.out]; have := HNL.out; omega
              have hjl : j < al.length := by rw [HLN.out]; exact hjn
              have hdr : al.drop j = (afs[j], fss[j]) :: al.drop (j + 1) := by
                rw [List.drop_eq_getElem_cons hjl]
                congr 1
                simp [HAL.out]
              have hq := HAC.out
              rw [hct, if_pos rfl, hdr, done_lapse R1 _ _ g hg0] at hq
              obtain ⟨a1, cap1, ag, aoff, p1, p2, p3, p4⟩ := HAF.out
              simp only [Value.slice.injEq] at p1
              obtain ⟨rfl, -, -⟩ := p1
              obtain rfl := p3 (by omega)
              obtain ⟨xa, -⟩ := p4 j hjA
              have m3 : W5.cell? ⟨w.heap.size, 3, none⟩ = some (.slice (some ⟨ag, aoff, none⟩) NA ac) := (HBX.out.below HT5.out.one.bel).2 3 (by simp)
              have m5 : W5.cell? ⟨ag, aoff + j, none⟩ = some (.int .i64 afs[j]) := cell_below HT5.out.one.bel xa
              rw [HW5.out] at m3 m5
              have j0 : (0 : Int) ≤ (j : Int) := Int.natCast_nonneg _
              have j1 : (j : Int) < (N : Int) := by omega
              have j2 : (j : Int) < (NA : Int) := by have := HNL.out; omega
              have er : ((re : Int) == 0) = true := by rw [hre]; rfl
              have hNb := HNL.out.1
              by_cases hfire : afs[j] ≤ g
              · rw [if_pos hfire] at hq
                simp only [Prod.mk.injEq, SaidD.mk.injEq] at hq
                obtain ⟨hq1, hqe, -⟩ := hq
                obtain ⟨a2, cap2, fg, foff, fvs2, r1, r2, r3, r4, r5⟩ := HFF.out
                simp only [Value.slice.injEq] at r1
                obtain ⟨rfl, -, -⟩ := r1
                obtain rfl := r3 (by omega)
                obtain ⟨xf, hxf⟩ := r5 j hjF (by omega)
                have m4 : W5.cell? ⟨w.heap.size, 4, none⟩ = some (.slice (some ⟨fg, foff, none⟩) N gc) := (HBX.out.below HT5.out.one.bel).2 4 (by simp)
                have m6 := cell_below HT5.out.one.bel xf
                obtain ⟨fja, fjc, hfj⟩ : ∃ a c, fvs2[j]'(by omega) = .slice a fss[j].length c := by obtain ⟨a, c, _, _, h, _⟩ := hxf; exact ⟨a, c, h⟩
                have HFI : Hid (Calls Tryd.prog 24 #[fvs2[j]'(by omega)] W5 fun e w'' => ∃ v', e = .returned v' ∧ w''.ownsRow W5.heap.size 61 4 v' fss[j].length (fateCells fss[j]) ∧ Below W5.heap.size W5 w'') := fates_any _ _ W5 (hxf.keep HT5.out.one.bel)
                rw [hfj] at m6 HFI
                have hcr : R1.crash fss[j] = R1.kill fss[j] := crash_of (HAL2.out hct) _
                have HREL : Hid (Q1 = withArms (R1.kill fss[j]) (lapse (al.drop (j + 1)) 0)) := hq1
                have HCR : Hid (∀ w6 v, Below W5.heap.size W5 w6 → w6.ownsRow W5.heap.size 61 4 v fss[j].length (fateCells fss[j]) → Calls Tryd.prog 23 #[.pointer (some ⟨c, 0, none⟩), v] w6 fun e w' => e = .returned (.tuple #[]) ∧ ∃ G', Two A W2 w' b F6 Q1 c G' (R1.kill fss[j]) ∧ Step G6 G' w6 w') := fun w6 v hb6 hv6 => by
                  have := (HT5.out.up hb6).crash2 fss[j] v _ hv6 (by have := HPN.out; omega)
                  rw [hcr] at this
                  exact this
                have HEQ : Hid (LikeR Q1 (R1.kill fss[j])) := by rw [hq1]; exact ⟨rfl, rfl, rfl, rfl, by show ([] : List Sec).length ≤ _; simp⟩
                have HAN2 : Hid ((R1.kill fss[j]).arms = [] ∧ (R1.kill fss[j]).pend.length = 0) := ⟨HAN.out, rfl⟩
                rw [HW5.out] at m4 m6
                have j3 : (j : Int) < (N : Int) := by have := HNL.out; omega
                generalize fss[j] = fj at *
                generalize R1.kill fj = RK at *
                generalize afs[j] = af at *
                have hff : g ≥ af := hfire
                subst hqe
                have HNE : Hid (¬ w2'.heap.size = w4.heap.size) := by have := HGN.out.2.2; exact fun h => by omega
                clear hq1 hre hcc hct hdr p2 p3 p4 xa hjA hjF hjl r2 r3 r4 r5 xf hxf hfj hcr hfire
                rcases hkk with h1 | h2
                · have e1 : (K == 1) = true := by rw [h1]; decide
                  clear h1
                  go_wp2_with fail
                  rw [← HW5.out]
                  refine HFI.out.mono ?_
                  rintro e w6 ⟨v6, rfl, hv6, hb6⟩
                  have HC6 := Hid.mk2 (HCR.out w6 v6 hb6 hv6)
                  have HB6 := Hid.mk2 hb6
                  obtain ⟨va6, vc6, rfl, -⟩ := owns_form hv6
                  clear hv6 hb6 HFI HCR
                  go_wp2_with fail
                  refine HC6.out.mono ?_
                  rintro e w7 ⟨rfl, G7, T7, S7⟩
                  have hbx7 : w7.heap[w4.heap.size]? = _ := (S7.block _ (Nat.lt_of_lt_of_le HX5.out.1.1 HB6.out.size) HGN.out.2.1).trans ((HB6.out.block _ HX5.out.1.1).trans HX5.out.2)
                  have t0 : w7.cell? ⟨w4.heap.size, 0, none⟩ = some (.int .i64 (re : Int)) := cell_of_row _ _ _ _ _ _ hbx7
                  have t1 : w7.cell? ⟨w4.heap.size, 1, none⟩ = some (.slice ua qby.length uc) := cell_of_row _ _ _ _ _ _ hbx7
                  have t2 : w7.cell? ⟨w4.heap.size, 2, none⟩ = some (.slice ta qse.length tc) := cell_of_row _ _ _ _ _ _ hbx7
                  have t3 : w7.cell? ⟨w4.heap.size, 3, none⟩ = some (.int .i64 qa) := cell_of_row _ _ _ _ _ _ hbx7
                  have t4 : w7.cell? ⟨w4.heap.size, 4, none⟩ = some (.int .i64 qb) := cell_of_row _ _ _ _ _ _ hbx7
                  have t5 : w7.cell? ⟨w4.heap.size, 5, none⟩ = some (.int .i64 qc) := cell_of_row _ _ _ _ _ _ hbx7
                  have tf : w7.frozen? ⟨w4.heap.size, 0, none⟩ = false := frozen_cells hbx7
                  have hg7 := (HG5.out.below HB6.out).step S7 HGN.out.1
                  have v0 : w7.cell? ⟨w2'.heap.size, 0, none⟩ = some (.int .i64 8) := hg7.2 0 (by simp)
                  have v1 : w7.cell? ⟨w2'.heap.size, 1, none⟩ = some (.slice va qby.length vc) := hg7.2 1 (by simp)
                  have v2 : w7.cell? ⟨w2'.heap.size, 2, none⟩ = some (.slice sa' qse.length sc') := hg7.2 2 (by simp)
                  have v3 : w7.cell? ⟨w2'.heap.size, 3, none⟩ = some (.int .i64 qa) := hg7.2 3 (by simp)
                  have v4 : w7.cell? ⟨w2'.heap.size, 4, none⟩ = some (.int .i64 qb) := hg7.2 4 (by simp)
                  have v5 : w7.cell? ⟨w2'.heap.size, 5, none⟩ = some (.int .i64 qc) := hg7.2 5 (by simp)
                  have HT8 : Hid (Two A W2 (w7.setCell ⟨w4.heap.size, 0, none⟩ (.int .i64 8)) b F6 Q1 c G7 RK) := T7.poke _ 0 _ (by have := HT5.out.one.bel.size; have := HX5.out.1.1; have h3 := HGN.out.2.2; have := HG5.out.1; have := HS5.out.1; have := HW2L.out; omega) (fun h => by have := HF6.out _ h; omega) (fun h => (S7.sub _ h).elim HGN.out.2.1 (fun h' => by have := HB6.out.size; have := HX5.out.1.1; omega))
                  have HR8 := Hid.mk2 (HROWS.out (w7.setCell ⟨w4.heap.size, 0, none⟩ (.int .i64 8)) G7 (((HR5.out.1.up HB6.out).step S7).poke hbx7 (by decide)) (((HR5.out.2.1.up HB6.out).step S7).poke hbx7 (by decide)) (((HR5.out.2.2.1.up HB6.out).step S7).poke hbx7 (by decide)) (((HR5.out.2.2.2.up HB6.out).step S7).poke hbx7 (by decide)))
                  have HSA8 : Hid (Calls Tryd.prog 37 #[.agg #[.int .i64 8, .slice va qby.length vc, .slice sa' qse.length sc', .int .i64 qa, .int .i64 qb, .int .i64 qc], .agg #[.int .i64 8, .slice ua qby.length uc, .slice ta qse.length tc, .int .i64 qa, .int .i64 qb, .int .i64 qc]] (w7.setCell ⟨w4.heap.size, 0, none⟩ (.int .i64 8)) fun e w'' => e = .returned (.bool true) ∧ Below (w7.setCell ⟨w4.heap.size, 0, none⟩ (.int .i64 8)).heap.size (w7.setCell ⟨w4.heap.size, 0, none⟩ (.int .i64 8)) w'') := HSAME.out _ 8 HR8.out.1 HR8.out.2.1 HR8.out.2.2.1 HR8.out.2.2.2
                  have hne1 := HNE.out
                  have hne2 : ¬ w4.heap.size = w2'.heap.size := fun h => hne1 h.symm
                  clear T7 S7 hbx7 hg7 HC6 HR8 HRW g0 g1 g2 g3 g4 g5
                  go_wp2_with fail
                  refine HSA8.out.mono ?_
                  rintro e w8 ⟨rfl, hb8⟩
                  have HT9 := Hid.mk2 (HT8.out.up hb8)
                  have HSH := Hid.mk2 (shown_any b c F6 G7 Q1 RK w8 HT9.out.one.dev HT9.out.two.dev HEQ.out.size HEQ.out.dur HEQ.out.pend HEQ.out.dead HEQ.out.room)
                  clear hb8 HSA8 HT8
                  go_wp2_with fail
                  refine HSH.out.mono ?_
                  rintro e w9 ⟨rfl, hb9⟩
                  have HT10 := Hid.mk2 (HT9.out.up hb9)
                  clear hb9 HSH HT9
                  go_wp2_with fail
                  refine ⟨⟨j + 1, k + 1, 0, F6, G7, RK, by omega, by omega, by simp, by simp, rfl, by omega, by omega, HAN2.out.1, by rw [← HREL.out]; exact HT10.out, by rw [HAN2.out.2]; omega⟩, ?_⟩
                  simp only [intOf]
                  omega
                · have e1 : (K == 1) = false := by rw [h2]; decide
                  have e2 : (K == 2) = true := by rw [h2]; decide
                  clear h2
                  go_wp2_with fail
                  rw [← HW5.out]
                  refine HFI.out.mono ?_
                  rintro e w6 ⟨v6, rfl, hv6, hb6⟩
                  have HC6 := Hid.mk2 (HCR.out w6 v6 hb6 hv6)
                  have HB6 := Hid.mk2 hb6
                  obtain ⟨va6, vc6, rfl, -⟩ := owns_form hv6
                  clear hv6 hb6 HFI HCR
                  go_wp2_with fail
                  refine HC6.out.mono ?_
                  rintro e w7 ⟨rfl, G7, T7, S7⟩
                  have hbx7 : w7.heap[w4.heap.size]? = _ := (S7.block _ (Nat.lt_of_lt_of_le HX5.out.1.1 HB6.out.size) HGN.out.2.1).trans ((HB6.out.block _ HX5.out.1.1).trans HX5.out.2)
                  have t0 : w7.cell? ⟨w4.heap.size, 0, none⟩ = some (.int .i64 (re : Int)) := cell_of_row _ _ _ _ _ _ hbx7
                  have t1 : w7.cell? ⟨w4.heap.size, 1, none⟩ = some (.slice ua qby.length uc) := cell_of_row _ _ _ _ _ _ hbx7
                  have t2 : w7.cell? ⟨w4.heap.size, 2, none⟩ = some (.slice ta qse.length tc) := cell_of_row _ _ _ _ _ _ hbx7
                  have t3 : w7.cell? ⟨w4.heap.size, 3, none⟩ = some (.int .i64 qa) := cell_of_row _ _ _ _ _ _ hbx7
                  have t4 : w7.cell? ⟨w4.heap.size, 4, none⟩ = some (.int .i64 qb) := cell_of_row _ _ _ _ _ _ hbx7
                  have t5 : w7.cell? ⟨w4.heap.size, 5, none⟩ = some (.int .i64 qc) := cell_of_row _ _ _ _ _ _ hbx7
                  have tf : w7.frozen? ⟨w4.heap.size, 0, none⟩ = false := frozen_cells hbx7
                  have hg7 := (HG5.out.below HB6.out).step S7 HGN.out.1
                  have v0 : w7.cell? ⟨w2'.heap.size, 0, none⟩ = some (.int .i64 8) := hg7.2 0 (by simp)
                  have v1 : w7.cell? ⟨w2'.heap.size, 1, none⟩ = some (.slice va qby.length vc) := hg7.2 1 (by simp)
                  have v2 : w7.cell? ⟨w2'.heap.size, 2, none⟩ = some (.slice sa' qse.length sc') := hg7.2 2 (by simp)
                  have v3 : w7.cell? ⟨w2'.heap.size, 3, none⟩ = some (.int .i64 qa) := hg7.2 3 (by simp)
                  have v4 : w7.cell? ⟨w2'.heap.size, 4, none⟩ = some (.int .i64 qb) := hg7.2 4 (by simp)
                  have v5 : w7.cell? ⟨w2'.heap.size, 5, none⟩ = some (.int .i64 qc) := hg7.2 5 (by simp)
                  have HT8 : Hid (Two A W2 (w7.setCell ⟨w4.heap.size, 0, none⟩ (.int .i64 8)) b F6 Q1 c G7 RK) := T7.poke _ 0 _ (by have := HT5.out.one.bel.size; have := HX5.out.1.1; have h3 := HGN.out.2.2; have := HG5.out.1; have := HS5.out.1; have := HW2L.out; omega) (fun h => by have := HF6.out _ h; omega) (fun h => (S7.sub _ h).elim HGN.out.2.1 (fun h' => by have := HB6.out.size; have := HX5.out.1.1; omega))
                  have HR8 := Hid.mk2 (HROWS.out (w7.setCell ⟨w4.heap.size, 0, none⟩ (.int .i64 8)) G7 (((HR5.out.1.up HB6.out).step S7).poke hbx7 (by decide)) (((HR5.out.2.1.up HB6.out).step S7).poke hbx7 (by decide)) (((HR5.out.2.2.1.up HB6.out).step S7).poke hbx7 (by decide)) (((HR5.out.2.2.2.up HB6.out).step S7).poke hbx7 (by decide)))
                  have HSA8 : Hid (Calls Tryd.prog 37 #[.agg #[.int .i64 8, .slice va qby.length vc, .slice sa' qse.length sc', .int .i64 qa, .int .i64 qb, .int .i64 qc], .agg #[.int .i64 8, .slice ua qby.length uc, .slice ta qse.length tc, .int .i64 qa, .int .i64 qb, .int .i64 qc]] (w7.setCell ⟨w4.heap.size, 0, none⟩ (.int .i64 8)) fun e w'' => e = .returned (.bool true) ∧ Below (w7.setCell ⟨w4.heap.size, 0, none⟩ (.int .i64 8)).heap.size (w7.setCell ⟨w4.heap.size, 0, none⟩ (.int .i64 8)) w'') := HSAME.out _ 8 HR8.out.1 HR8.out.2.1 HR8.out.2.2.1 HR8.out.2.2.2
                  have hne1 := HNE.out
                  have hne2 : ¬ w4.heap.size = w2'.heap.size := fun h => hne1 h.symm
                  clear T7 S7 hbx7 hg7 HC6 HR8 HRW g0 g1 g2 g3 g4 g5
                  go_wp2_with fail
                  refine HSA8.out.mono ?_
                  rintro e w8 ⟨rfl, hb8⟩
                  have HT9 := Hid.mk2 (HT8.out.up hb8)
                  have HSH := Hid.mk2 (shown_any b c F6 G7 Q1 RK w8 HT9.out.one.dev HT9.out.two.dev HEQ.out.size HEQ.out.dur HEQ.out.pend HEQ.out.dead HEQ.out.room)
                  clear hb8 HSA8 HT8
                  go_wp2_with fail
                  refine HSH.out.mono ?_
                  rintro e w9 ⟨rfl, hb9⟩
                  have HT10 := Hid.mk2 (HT9.out.up hb9)
                  clear hb9 HSH HT9
                  go_wp2_with fail
                  refine ⟨⟨j + 1, k + 1, 0, F6, G7, RK, by omega, by omega, by simp, by simp, rfl, by omega, by omega, HAN2.out.1, by rw [← HREL.out]; exact HT10.out, by rw [HAN2.out.2]; omega⟩, ?_⟩
                  simp only [intOf]
                  omega
              · rw [if_neg hfire] at hq
                simp only [Prod.mk.injEq, SaidD.mk.injEq] at hq
                obtain ⟨hq1, hqe, -⟩ := hq
                rw [← hdr] at hq1
                have hee : qe = re := by rw [hqe, hre]
                have HEQ : Hid (LikeR Q1 R1) := by rw [hq1]; exact ⟨rfl, rfl, rfl, rfl, by show R1.pend.length ≤ _; have := HPN.out; omega⟩
                have HREL : Hid (Q1 = withArms R1 (lapse (al.drop j) (g + 1))) := hq1
                generalize afs[j] = af at *
                subst hee
                have hff : ¬ g ≥ af := hfire
                clear hq1 hqe hre hcc hct hdr p2 p3 p4 xa hjA hjF hjl
                rcases hkk with h1 | h2
                · have e1 : (K == 1) = true := by rw [h1]; decide
                  clear h1
                  go_wp2_with fail
                  rw [← HW5.out]
                  refine (HSAME.out W5 qe HRW.out.1 HRW.out.2.1 HRW.out.2.2.1 HRW.out.2.2.2).mono ?_
                  rintro e w6 ⟨rfl, hb6⟩
                  have HT6 := Hid.mk2 (HT5.out.up hb6)
                  have HSH := Hid.mk2 (shown_any b c F6 G6 Q1 R1 w6 HT6.out.one.dev HT6.out.two.dev HEQ.out.size HEQ.out.dur HEQ.out.pend HEQ.out.dead HEQ.out.room)
                  clear hb6
                  go_wp2_with fail
                  refine HSH.out.mono ?_
                  rintro e w7 ⟨rfl, hb7⟩
                  have HT7 := Hid.mk2 (HT6.out.up hb7)
                  clear hb7 HSH HT6
                  go_wp2_with fail
                  refine ⟨⟨j, k + 1, g + 1, F6, G6, R1, by omega, by omega, by simp, rfl, rfl, by omega, by omega, HAN.out, by rw [← HREL.out]; exact HT7.out, HPN.out⟩, ?_⟩
                  simp only [intOf]
                  omega
                · have e1 : (K == 1) = false := by rw [h2]; decide
                  have e2 : (K == 2) = true := by rw [h2]; decide
                  clear h2
                  go_wp2_with fail
                  rw [← HW5.out]
                  refine (HSAME.out W5 qe HRW.out.1 HRW.out.2.1 HRW.out.2.2.1 HRW.out.2.2.2).mono ?_
                  rintro e w6 ⟨rfl, hb6⟩
                  have HT6 := Hid.mk2 (HT5.out.up hb6)
                  have HSH := Hid.mk2 (shown_any b c F6 G6 Q1 R1 w6 HT6.out.one.dev HT6.out.two.dev HEQ.out.size HEQ.out.dur HEQ.out.pend HEQ.out.dead HEQ.out.room)
                  clear hb6
                  go_wp2_with fail
                  refine HSH.out.mono ?_
                  rintro e w7 ⟨rfl, hb7⟩
                  have HT7 := Hid.mk2 (HT6.out.up hb7)
                  clear hb7 HSH HT6
                  go_wp2_with fail
                  refine ⟨⟨j, k + 1, g + 1, F6, G6, R1, by omega, by omega, by simp, rfl, rfl, by omega, by omega, HAN.out, by rw [← HREL.out]; exact HT7.out, HPN.out⟩, ?_⟩
                  simp only [intOf]
                  omega
            · have hq := HAC.out
              have hF : Q1 = withArms R1 (lapse (al.drop j) g) ∧ qe = re := by
                cases hct : ct
                · rw [hct] at hq
                  simp only [Bool.false_eq_true, if_false, Prod.mk.injEq, SaidD.mk.injEq] at hq
                  exact ⟨hq.1, hq.2.1⟩
                · have hjN : al.drop j = [] := List.drop_eq_nil_of_le (by rw [HLN.out]; have : ¬ j < N := fun h => hcnd ⟨hct, h⟩; omega)
                  have hcc := HCT.out
                  rw [hct] at hcc
                  have hre : re = 0 := by simpa using (show (decide (re = 0)) = true by revert hcc; cases (decide (re = 0)) <;> simp)
                  rw [hct, if_pos rfl, hjN] at hq
                  have hdn : (withArms R1 (lapse [] g)).done = (withArms R1 (lapse [] g), 0) := done_nil rfl
                  rw [hdn] at hq
                  simp only [Prod.mk.injEq, SaidD.mk.injEq] at hq
                  rw [hjN]
                  exact ⟨hq.1, by rw [hq.2.1, hre]⟩
              obtain ⟨hq1, hee⟩ := hF
              have HEQ : Hid (LikeR Q1 R1) := by rw [hq1]; exact ⟨rfl, rfl, rfl, rfl, by show R1.pend.length ≤ _; have := HPN.out; omega⟩
              have HREL : Hid (Q1 = withArms R1 (lapse (al.drop j) g)) := hq1
              have HJN : Hid ((K = 1 ∨ K = 2) → re = 0 → ¬ (j : Int) < (N : Int)) := fun hkk hre hjn => hcnd ⟨by rw [HCT.out]; rcases hkk with h | h <;> simp [h, hre], by omega⟩
              subst hee
              clear hq1 hq hcnd
              by_cases h1 : K = 1
              · have e1 : (K == 1) = true := by rw [h1]; decide
                by_cases h0 : qe = 0
                · have er : ((qe : Int) == 0) = true := by rw [h0]; rfl
                  have jn := HJN.out (.inl h1) h0
                  clear h0 h1
                  go_wp2_with fail
                  rw [← HW5.out]
                  refine (HSAME.out W5 qe HRW.out.1 HRW.out.2.1 HRW.out.2.2.1 HRW.out.2.2.2).mono ?_
                  rintro e w6 ⟨rfl, hb6⟩
                  have HT6 := Hid.mk2 (HT5.out.up hb6)
                  have HSH := Hid.mk2 (shown_any b c F6 G6 Q1 R1 w6 HT6.out.one.dev HT6.out.two.dev HEQ.out.size HEQ.out.dur HEQ.out.pend HEQ.out.dead HEQ.out.room)
                  clear hb6
                  go_wp2_with fail
                  refine HSH.out.mono ?_
                  rintro e w7 ⟨rfl, hb7⟩
                  have HT7 := Hid.mk2 (HT6.out.up hb7)
                  clear hb7 HSH HT6
                  go_wp2_with fail
                  refine ⟨⟨j, k + 1, g, F6, G6, R1, by omega, hj, by simp, rfl, rfl, hg0, by omega, HAN.out, by rw [← HREL.out]; exact HT7.out, HPN.out⟩, ?_⟩
                  simp only [intOf]
                  omega
                · have er : ((qe : Int) == 0) = false := by simp; exact h0
                  clear h1
                  go_wp2_with fail
                  rw [← HW5.out]
                  refine (HSAME.out W5 qe HRW.out.1 HRW.out.2.1 HRW.out.2.2.1 HRW.out.2.2.2).mono ?_
                  rintro e w6 ⟨rfl, hb6⟩
                  have HT6 := Hid.mk2 (HT5.out.up hb6)
                  have HSH := Hid.mk2 (shown_any b c F6 G6 Q1 R1 w6 HT6.out.one.dev HT6.out.two.dev HEQ.out.size HEQ.out.dur HEQ.out.pend HEQ.out.dead HEQ.out.room)
                  clear hb6
                  go_wp2_with fail
                  refine HSH.out.mono ?_
                  rintro e w7 ⟨rfl, hb7⟩
                  have HT7 := Hid.mk2 (HT6.out.up hb7)
                  clear hb7 HSH HT6
                  go_wp2_with fail
                  refine ⟨⟨j, k + 1, g, F6, G6, R1, by omega, hj, by simp, rfl, rfl, hg0, by omega, HAN.out, by rw [← HREL.out]; exact HT7.out, HPN.out⟩, ?_⟩
                  simp only [intOf]
                  omega
              · have e1 : (K == 1) = false := by simpa using h1
                by_cases h2 : K = 2
                · have e2 : (K == 2) = true := by rw [h2]; decide
                  by_cases h0 : qe = 0
                  · have er : ((qe : Int) == 0) = true := by rw [h0]; rfl
                    have jn := HJN.out (.inr h2) h0
                    clear h0 h2
                    go_wp2_with fail
                    rw [← HW5.out]
                    refine (HSAME.out W5 qe HRW.out.1 HRW.out.2.1 HRW.out.2.2.1 HRW.out.2.2.2).mono ?_
                    rintro e w6 ⟨rfl, hb6⟩
                    have HT6 := Hid.mk2 (HT5.out.up hb6)
                    have HSH := Hid.mk2 (shown_any b c F6 G6 Q1 R1 w6 HT6.out.one.dev HT6.out.two.dev HEQ.out.size HEQ.out.dur HEQ.out.pend HEQ.out.dead HEQ.out.room)
                    clear hb6
                    go_wp2_with fail
                    refine HSH.out.mono ?_
                    rintro e w7 ⟨rfl, hb7⟩
                    have HT7 := Hid.mk2 (HT6.out.up hb7)
                    clear hb7 HSH HT6
                    go_wp2_with fail
                    refine ⟨⟨j, k + 1, g, F6, G6, R1, by omega, hj, by simp, rfl, rfl, hg0, by omega, HAN.out, by rw [← HREL.out]; exact HT7.out, HPN.out⟩, ?_⟩
                    simp only [intOf]
                    omega
                  · have er : ((qe : Int) == 0) = false := by simp; exact h0
                    clear h2
                    go_wp2_with fail
                    rw [← HW5.out]
                    refine (HSAME.out W5 qe HRW.out.1 HRW.out.2.1 HRW.out.2.2.1 HRW.out.2.2.2).mono ?_
                    rintro e w6 ⟨rfl, hb6⟩
                    have HT6 := Hid.mk2 (HT5.out.up hb6)
                    have HSH := Hid.mk2 (shown_any b c F6 G6 Q1 R1 w6 HT6.out.one.dev HT6.out.two.dev HEQ.out.size HEQ.out.dur HEQ.out.pend HEQ.out.dead HEQ.out.room)
                    clear hb6
                    go_wp2_with fail
                    refine HSH.out.mono ?_
                    rintro e w7 ⟨rfl, hb7⟩
                    have HT7 := Hid.mk2 (HT6.out.up hb7)
                    clear hb7 HSH HT6
                    go_wp2_with fail
                    refine ⟨⟨j, k + 1, g, F6, G6, R1, by omega, hj, by simp, rfl, rfl, hg0, by omega, HAN.out, by rw [← HREL.out]; exact HT7.out, HPN.out⟩, ?_⟩
                    simp only [intOf]
                    omega
                · have e2 : (K == 2) = false := by simpa using h2
                  go_wp2_with fail
                  rw [← HW5.out]
                  refine (HSAME.out W5 qe HRW.out.1 HRW.out.2.1 HRW.out.2.2.1 HRW.out.2.2.2).mono ?_
                  rintro e w6 ⟨rfl, hb6⟩
                  have HT6 := Hid.mk2 (HT5.out.up hb6)
                  have HSH := Hid.mk2 (shown_any b c F6 G6 Q1 R1 w6 HT6.out.one.dev HT6.out.two.dev HEQ.out.size HEQ.out.dur HEQ.out.pend HEQ.out.dead HEQ.out.room)
                  clear hb6
                  go_wp2_with fail
                  refine HSH.out.mono ?_
                  rintro e w7 ⟨rfl, hb7⟩
                  have HT7 := Hid.mk2 (HT6.out.up hb7)
                  clear hb7 HSH HT6
                  go_wp2_with fail
                  refine ⟨⟨j, k + 1, g, F6, G6, R1, by omega, hj, by simp, rfl, rfl, hg0, by omega, HAN.out, by rw [← HREL.out]; exact HT7.out, HPN.out⟩, ?_⟩
                  simp only [intOf]
                  omega
        · have k2 : ¬ (k : Int) < (M : Int) := by omega
          have HBT := Hid.mk2 (Below.next HB0.out T.one.bel)
          clear T
          go_wp2_with fail
          go_wp2_with fail
          go_ret
          exact ⟨rfl, HBT.out⟩

end Go.Proofs.YtdieacdkomiooaaDoor
