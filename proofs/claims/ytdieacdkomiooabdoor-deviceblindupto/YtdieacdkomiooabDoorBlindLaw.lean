import Derived.Test.YtdieacdkomiooabDoorLike2B
namespace Go.Proofs.YtdieacdkomiooabDoor
open Go.RowKit Go.Maps

theorem dead_act {d : Dev} (h : d.dead = true) (s : Stp) (hk : s.kind ≤ 3) : (d.act s).1 = d ∧ (d.act s).2.bytes = [] ∧ (1 ≤ s.kind → (d.act s).2.err = 8) := by
  unfold Dev.act
  split
  · unfold Dev.write; rw [if_pos h]; exact ⟨rfl, rfl, fun _ => rfl⟩
  · split
    · unfold Dev.sync; rw [if_pos h]; exact ⟨rfl, rfl, fun _ => rfl⟩
    · split
      · unfold Dev.read; rw [if_pos h]; exact ⟨rfl, rfl, fun _ => rfl⟩
      · rw [if_neg (by omega), if_neg (by omega), if_neg (by omega), if_neg (by omega), if_neg (by omega), if_neg (by omega)]
        exact ⟨rfl, rfl, fun h1 => by omega⟩
theorem Two.crash2 {A : Nat → Addr} {W wr : World} {b c : Nat} {F G : Nat → Prop} {d o : Dev} (h : Two A W wr b F d c G o) (l : List Fate) (fv : Value) (m : Nat) (hl : wr.ownsRow m 92 4 fv l.length (fateCells l)) (hp : o.pend.length ≤ 140737488355328) :
    Calls Tryd.prog 9 #[.pointer (some ⟨c, 0, none⟩), fv] wr fun e w' => e = .returned (.tuple #[]) ∧ ∃ G', Two A W w' b F d c G' (o.crash l) ∧ Step G G' wr w' := by
  refine (h.two.crash2 hp l fv m hl).mono ?_
  rintro e w' ⟨he, G', hb, hs⟩
  exact ⟨he, G', h.go2 hb hs, hs⟩
theorem Boxed.step {b : Nat} {cs : List Value} {w w' : World} {G G' : Nat → Prop} (h : Boxed b cs w) (hs : Step G G' w w') (hn : ¬ G b) : Boxed b cs w' :=
  ⟨Nat.lt_of_lt_of_le h.1 hs.size, fun j hj => hs.cell (h.2 j hj) hn⟩
theorem Like.trans {a b c : Dev} (h : Like a b) (k : Like b c) : Like a c := ⟨k.size.trans h.size, k.dur.trans h.dur, k.pend.trans h.pend, k.arms.trans h.arms, k.dead.trans h.dead⟩
theorem like_read (d : Dev) (s n : Int) : Like d (d.read s n).1 := by
  unfold Dev.read
  repeat' split
  all_goals exact ⟨rfl, rfl, rfl, rfl, rfl⟩
theorem Two.revive2 {A : Nat → Addr} {W wr : World} {b c : Nat} {F G : Nat → Prop} {d o : Dev} (h : Two A W wr b F d c G o) : Calls Tryd.prog 12 #[.pointer (some ⟨c, 0, none⟩)] wr fun e w' => e = .returned (.tuple #[]) ∧ Two A W w' b F d c G o.revive :=
  h.two.revive2.mono fun _ _ ⟨he, hb, hs⟩ => ⟨he, h.go2 hb hs⟩
theorem Two.read2 {A : Nat → Addr} {W wr : World} {b c : Nat} {F G : Nat → Prop} {d o : Dev} (h : Two A W wr b F d c G o) (s n : Int) (hn : n < 9223372036854775808) : Calls Tryd.prog 13 #[.pointer (some ⟨c, 0, none⟩), .int .i64 s, .int .i64 n] wr fun e w' => ∃ v, e = .returned v ∧ Two A W w' b F d c G (o.read s n).1 ∧ Step G G wr w' :=
  (h.two.read s n hn).mono fun _ _ ⟨_, he, _, hb, hs⟩ => ⟨_, he, h.go2 hb hs, hs⟩
theorem Like.refl (d : Dev) : Like d d := ⟨rfl, rfl, rfl, rfl, rfl⟩

set_option maxRecDepth 100000 in
set_option maxHeartbeats 3200000 in
theorem blind_any (base : Nat) (A : Nat → Addr) (X : Int) (fv sv ftv thv : Value) (first : List Sec) (steps : List Stp) (fts : List Fate) (thn : List Stp) (w : World) (hE : ErrsB base A w) (hfv : SecsIn w fv first) (hfl : first.length ≤ 1048576) (hsv : StepsIn w sv steps) (hft : FatesIn w ftv fts) (hth : StepsIn w thv thn) :
    Calls Tryd.prog 3 #[.agg #[.int .i64 X, fv, sv, ftv, thv]] w fun e w' => e = .returned (.bool true) ∧ Below w.heap.size w w' := by
  obtain ⟨W, hW⟩ : ∃ W, W = w.alloc (.cells #[.int .i64 X, fv, sv, ftv, thv] 28) := ⟨_, rfl⟩
  have hb0 : Below w.heap.size w W := by rw [hW]; exact below_new _ _
  have hbx : Boxed w.heap.size [.int .i64 X, fv, sv, ftv, thv] W := by rw [hW]; exact boxed_new w #[.int .i64 X, fv, sv, ftv, thv] 28
  have HE : Hid (ErrsB base A W) := hE.up hb0
  have HSM : Hid (∀ w', Below W.heap.size W w' → Calls Tryd.prog 7 #[.agg #[.int .i64 X, fv, sv], .bool true] w' fun e w'' => ∃ b F, e = .returned (.pointer (some ⟨b, 0, none⟩)) ∧ DevAt w'' b F (playsA (smallDev (pickI X) first) steps) ∧ Below w'.heap.size w' w'' ∧ ∀ k, F k → w'.heap.size ≤ k) := fun w' hb' => smallT_any base A X fv sv first steps w' (HE.out.up hb') ((hfv.keep hb0).keep hb') hfl ((hsv.keep hb0).keep hb')
  have HSL : Hid (steps.length ≤ 1048576) := by obtain ⟨_, _, _, _, _, _, h, _⟩ := hsv; exact h
  have HPL : Hid ((playsA (smallDev (pickI X) first) steps).pend.length ≤ 2147483648) := by
    obtain ⟨a, cap, g, off, fvs, _, h2, _, h4, h5⟩ := hsv
    refine Nat.le_trans (playsA_pend 2048 _ _ fun s hs => ?_) (by simp [smallDev, newDev]; omega)
    obtain ⟨i, hi, rfl⟩ := List.getElem_of_mem hs
    have := (h5 i hi (by omega)).2.2.2
    omega
  have HAR : Hid ((playsA (smallDev (pickI X) first) steps).arms.length ≤ 1048576) := Nat.le_trans (playsA_arms _ _) (by have := HSL.out; simp [smallDev, newDev]; omega)
  have HDO : Hid (DeadOk (playsA (smallDev (pickI X) first) steps)) := playsA_deadOk _ _ (fun h => by cases h)
  generalize playsA (smallDev (pickI X) first) steps = D0 at *
  have HFT : Hid (FatesIn W ftv fts) := hft.keep hb0
  have HTH : Hid (StepsIn W thv thn) := hth.keep hb0
  have o1 : fv.oneCell' = true := by obtain ⟨_, _, _, _, h, _⟩ := hfv; rw [h]; rfl
  have o2 : sv.oneCell' = true := by obtain ⟨_, _, _, _, _, h, _⟩ := hsv; rw [h]; rfl
  have o3 : ftv.oneCell' = true := by obtain ⟨_, _, _, _, h, _⟩ := hft; rw [h]; rfl
  have o4 : thv.oneCell' = true := by obtain ⟨_, _, _, _, _, h, _⟩ := hth; rw [h]; rfl
  have HBX := Hid.mk2 hbx
  have HB0 : Hid (Below w.heap.size w W) := hb0
  have HWD : Hid (W = w.alloc (.cells #[.int .i64 X, fv, sv, ftv, thv] 28)) := hW
  have HWS : Hid (w.heap.size < W.heap.size) := hbx.1
  clear hfv hsv hft hE hfl hb0 hbx hW hth HSL
  go_enter Tryd.func3, Tryd.ntmps3
  go_wp2_with fail
  rw [← HWD.out]
  refine (HSM.out W (Below.refl _ _)).mono ?_
  rintro e w1 ⟨b, F1, rfl, hd1, hb1, hF1⟩
  have HB1 := Hid.mk2 hb1
  have HBG1 : Hid (Bg A W w1 b F1 D0) := ⟨hd1, hb1, hF1, HE.out.here.up hb1⟩
  have HSM2 := Hid.mk2 (HSM.out w1 hb1)
  have y0 : w1.cell? ⟨w.heap.size, 0, none⟩ = some (.int .i64 X) := (HBX.out.below hb1).2 0 (by simp)
  have y1 : w1.cell? ⟨w.heap.size, 1, none⟩ = some fv := (HBX.out.below hb1).2 1 (by simp)
  have y2 : w1.cell? ⟨w.heap.size, 2, none⟩ = some sv := (HBX.out.below hb1).2 2 (by simp)
  clear hd1 hb1 hF1 HSM
  go_wp2_with fail
  refine HSM2.out.mono ?_
  rintro e w2 ⟨c, G1, rfl, hd2, hb2, hG2⟩
  have HT2 : Hid (Two A W w2 b F1 D0 c G1 D0) := ⟨HBG1.out.up hb2, ⟨hd2, Below.next HB1.out hb2, fun k hk => by have := hG2 k hk; have := HB1.out.size; omega, HBG1.out.err.up hb2⟩, fun k hf hg => by have := HBG1.out.dev.lt k hf; have := hG2 k hg; omega⟩
  have HBG := Hid.mk2 (begun_any base A w2 (HE.out.up (Below.next HB1.out hb2)))
  have hne1 := run_eql_pointer_nil (P := Tryd.prog) w2 29 (some ⟨b, 0, none⟩) Tryd.underlying29
  have hne2 := run_eql_pointer_nil (P := Tryd.prog) w2 29 (some ⟨c, 0, none⟩) Tryd.underlying29
  clear HSM2 HBG1 HB1 hd2 hb2 hG2 y0 y1 y2
  go_wp2_with fail
  refine HBG.out.mono ?_
  rintro e w3 ⟨rfl, hb3⟩
  have HT3 := Hid.mk2 (HT2.out.up hb3)
  have k3 : w3.cell? ⟨w.heap.size, 3, none⟩ = some ftv := (HBX.out.below HT3.out.one.bel).2 3 (by simp)
  have HFA := Hid.mk2 (fates_any fts ftv w3 (HFT.out.keep HT3.out.one.bel))
  clear HBG HT2 hb3 hne1 hne2
  go_wp2_with fail
  refine HFA.out.mono ?_
  rintro e w4 ⟨vf, rfl, hvf, hb4⟩
  have HCR := Hid.mk2 ((HT3.out.up hb4).swap.crash2 fts vf _ hvf (by have := HPL.out; omega))
  obtain ⟨fa, fc, rfl, -⟩ := owns_form hvf
  clear HFA hvf hb4 HT3 k3
  go_wp2_with fail
  refine HCR.out.mono ?_
  rintro e w5 ⟨rfl, F2, T5, -⟩
  have HT5 := Hid.mk2 T5.swap
  have k3 : w5.cell? ⟨w.heap.size, 3, none⟩ = some ftv := (HBX.out.below HT5.out.one.bel).2 3 (by simp)
  have HFA := Hid.mk2 (fates_any fts ftv w5 (HFT.out.keep HT5.out.one.bel))
  clear HCR T5
  go_wp2_with fail
  refine HFA.out.mono ?_
  rintro e w6 ⟨vf, rfl, hvf, hb6⟩
  have HCR := Hid.mk2 ((HT5.out.up hb6).crash2 fts vf _ hvf (by have := HPL.out; omega))
  obtain ⟨fa6, fc6, rfl, -⟩ := owns_form hvf
  have HPE : Hid ((D0.crash fts).pend = []) := crash_pend HDO.out fts
  have HARM : Hid ((D0.crash fts).arms.length ≤ 1048576) := by rw [crash_arms]; exact HAR.out
  have HDD : Hid ((D0.crash fts).dead = true) := crash_dead D0 fts
  clear HFA hvf hb6 HT5 k3 HFT HDO HPL HAR
  generalize D0.crash fts = D1 at *
  go_wp2_with fail
  refine HCR.out.mono ?_
  rintro e w7 ⟨rfl, G2, T7, -⟩
  have HT7 := Hid.mk2 T7
  clear HCR T7
  obtain ⟨N, ta, tc, hthv, hN, HNL⟩ : ∃ N ta tc, thv = .slice ta N tc ∧ N = thn.length ∧ Hid (N ≤ 1048576) := by
    obtain ⟨a, c, _, _, _, h1, h2, _⟩ := HTH.out
    exact ⟨_, a, c, h1, rfl, h2⟩
  have HN := Hid.mk2 hN
  clear hN
  subst hthv
  go_wp2_with fail
  go_loopw [5] (fun i wr => ∃ (k : Nat) (F' : Nat → Prop), k ≤ N ∧ i = .int .i64 (k : Int) ∧ Two A W wr b F' D1 c G2 D1) (fun i _ => N - (intOf i).toNat)
  case atStart => exact ⟨0, F2, Nat.zero_le _, rfl, HT7.out⟩
  case round =>
    obtain ⟨k, F5, hk, rfl, T⟩ := hrel
    have HT := Hid.mk2 T
    have b4 : wr.cell? ⟨w.heap.size, 4, none⟩ = some (.slice ta N tc) := (HBX.out.below T.one.bel).2 4 (by simp)
    have hNb := HNL.out
    clear HT7
    by_cases hlt : k < N
    · obtain ⟨a', cap', sg, soff, fvs, h1, h2, h3, h4, h5⟩ := HTH.out
      simp only [Value.slice.injEq] at h1
      obtain ⟨rfl, -, -⟩ := h1
      have hkl : k < thn.length := by rw [← HN.out]; exact hlt
      obtain rfl := h3 (by omega)
      obtain ⟨⟨x0, x1, x2, x3, x4⟩, hfx, hnx, hdx⟩ := h5 k hkl (by omega)
      replace x0 := cell_below T.one.bel x0
      replace x1 := cell_below T.one.bel x1
      replace x2 := cell_below T.one.bel x2
      replace x3 := cell_below T.one.bel x3
      replace x4 := cell_below T.one.bel x4
      have k0 : (0 : Int) ≤ (k : Int) := Int.natCast_nonneg _
      have k1 : (k : Int) < (N : Int) := by omega
      generalize thn[k] = sk at *
      generalize fvs[k]'(by omega) = fk at *
      obtain ⟨K, S, n, Dt, fl⟩ := sk
      simp only [] at x0 x1 x2 x3 x4 hfx hnx hdx
      obtain ⟨fka, fkc, rfl⟩ : ∃ a c, fk = .slice a fl.length c := by obtain ⟨a, c, _, _, h, _⟩ := hfx; exact ⟨a, c, h⟩
      obtain ⟨W1, hW1⟩ : ∃ W1, W1 = wr.alloc (.cells #[.int .i64 K, .int .i64 S, .int .i64 n, .string Dt, .slice fka fl.length fkc] 35) := ⟨_, rfl⟩
      have hbw : Below wr.heap.size wr W1 := by rw [hW1]; exact below_new _ _
      have HBX1 : Hid (Boxed wr.heap.size [.int .i64 K, .int .i64 S, .int .i64 n, .string Dt, .slice fka fl.length fkc] W1) := by rw [hW1]; exact boxed_new wr #[.int .i64 K, .int .i64 S, .int .i64 n, .string Dt, .slice fka fl.length fkc] 35
      have T1 := T.up hbw
      have HWW := Hid.mk2 hW1
      have HPF : Hid (¬ F5 wr.heap.size ∧ ¬ G2 wr.heap.size) := ⟨fun h => by have := T.one.dev.lt _ h; omega, fun h => by have := T.two.dev.lt _ h; omega⟩
      clear h2 h3 h4 h5
      by_cases hk3 : K ≤ 3
      · have e3 : ¬ K > 3 := by omega
        have HA1 : Hid (Calls Tryd.prog 11 #[.pointer (some ⟨b, 0, none⟩), .agg #[.int .i64 K, .int .i64 S, .int .i64 n, .string Dt, .slice fka fl.length fkc]] W1 fun e w' => ∃ vb vs F', ActT A W W1 b F5 c G2 D1 (D1.act ⟨K, S, n, Dt, fl⟩) e w' vb vs F') := T1.act1 ⟨K, S, n, Dt, fl⟩ (.slice fka fl.length fkc) (hfx.keep T1.one.bel) (stpOk_of (k := 0) hnx hdx (by rw [HPE.out]; simp) (by omega)) (by have := HARM.out; omega)
        obtain ⟨hd1, hd2, hd3⟩ := dead_act HDD.out ⟨K, S, n, Dt, fl⟩ hk3
        generalize D1.act ⟨K, S, n, Dt, fl⟩ = R at *
        obtain ⟨R1, re, rby, rse, ra, rb, rc⟩ := R
        simp only [] at hd1 hd2 hd3
        subst hd1 hd2
        clear T T1 hbw hW1 hfx hnx hdx
        go_wp2_with fail
        rw [← HWW.out]
        refine HA1.out.mono ?_
        rintro e w2 ⟨vb, vs, F6, P⟩
        obtain rfl := P.ret
        obtain ⟨va, vc, rfl, -⟩ := owns_form P.rb.1
        obtain ⟨sa, sc, rfl, -⟩ := owns_form P.rs.1
        simp only [] at P
        obtain ⟨W3, hW3⟩ : ∃ W3, W3 = w2.alloc (.cells #[.int .i64 (re : Int), .slice va 0 vc, .slice sa rse.length sc, .int .i64 ra, .int .i64 rb, .int .i64 rc] 38) := ⟨_, rfl⟩
        have hb3 : Below w2.heap.size w2 W3 := by rw [hW3]; exact below_new _ _
        have z0 : W3.cell? ⟨wr.heap.size, 0, none⟩ = some (.int .i64 K) := cell_below hb3 (P.step.cell (HBX1.out.2 0 (by simp)) HPF.out.1)
        have HT3 : Hid (Two A W W3 b F6 R1 c G2 R1) := P.two.up hb3
        rw [hW3] at z0 HT3
        clear P hb3 hW3 HA1
        by_cases h1 : 1 ≤ K
        · have h1' : K ≥ 1 := h1
          obtain rfl := hd3 h1
          rw [show ((8 : Nat) : Int) = 8 from rfl] at z0 HT3
          go_wp2_with fail
          refine ⟨⟨k + 1, F6, by omega, by simp, HT3.out⟩, ?_⟩
          simp only [intOf]
          omega
        · have h1' : ¬ K ≥ 1 := h1
          go_wp2_with fail
          refine ⟨⟨k + 1, F6, by omega, by simp, HT3.out⟩, ?_⟩
          simp only [intOf]
          omega
      · have e3 : K > 3 := by omega
        have HEN : Hid (Two A W W1 b F5 D1 c G2 D1) := T1
        rw [hW1] at HEN
        clear T T1 hbw hW1
        go_wp2_with fail
        go_roundw
        case rel => exact ⟨k + 1, F5, by omega, by go_num, HEN.out⟩
        case measure => simp [intOf]; omega
    · have k1 : ¬ (k : Int) < (N : Int) := by omega
      have HR1 := Hid.mk2 HT.out.swap.revive2
      clear T
      go_wp2_with fail
      go_wp2_with fail
      refine HR1.out.mono ?_
      rintro e w8 ⟨rfl, T8⟩
      have HR2 := Hid.mk2 T8.swap.revive2
      clear HR1 T8
      go_wp2_with fail
      refine HR2.out.mono ?_
      rintro e w9 ⟨rfl, T9⟩
      have HT9 := Hid.mk2 T9
      have HP9 : Hid (D1.revive.pend.length = 0 ∧ D1.revive.arms.length ≤ 1048576) := ⟨by show D1.pend.length = 0; rw [HPE.out]; rfl, HARM.out⟩
      clear HR2 T9 HT b4
      generalize D1.revive = D2 at *
      go_wp2_with fail
      go_loopw [8] (fun i wr => ∃ (k : Nat) (F' G' : Nat → Prop) (a o : Dev), k ≤ N ∧ i = .int .i64 (k : Int) ∧ Two A W wr b F' a c G' o ∧ Like a o ∧ a.pend.length ≤ k * 2048 ∧ a.arms.length ≤ 1048576 + k) (fun i _ => N - (intOf i).toNat)
      case atStart => exact ⟨0, F5, G2, D2, D2, Nat.zero_le _, rfl, HT9.out, Like.refl _, by rw [HP9.out.1]; simp, by have := HP9.out.2; omega⟩
      case round =>
        clear k1 hlt hk
        obtain ⟨k, F5, G5, a, o, hk, rfl, T, L, hpe, har⟩ := hrel
        have HT := Hid.mk2 T
        have HL := Hid.mk2 L
        have b4 : wr.cell? ⟨w.heap.size, 4, none⟩ = some (.slice ta N tc) := (HBX.out.below T.one.bel).2 4 (by simp)
        clear HT9
        by_cases hlt : k < N
        · obtain ⟨a', cap', sg, soff, fvs, h1, h2, h3, h4, h5⟩ := HTH.out
          simp only [Value.slice.injEq] at h1
          obtain ⟨rfl, -, -⟩ := h1
          have hkl : k < thn.length := by rw [← HN.out]; exact hlt
          obtain rfl := h3 (by omega)
          obtain ⟨⟨x0, x1, x2, x3, x4⟩, hfx, hnx, hdx⟩ := h5 k hkl (by omega)
          replace x0 := cell_below T.one.bel x0
          replace x1 := cell_below T.one.bel x1
          replace x2 := cell_below T.one.bel x2
          replace x3 := cell_below T.one.bel x3
          replace x4 := cell_below T.one.bel x4
          have k0 : (0 : Int) ≤ (k : Int) := Int.natCast_nonneg _
          have k1 : (k : Int) < (N : Int) := by omega
          generalize thn[k] = sk at *
          generalize fvs[k]'(by omega) = fk at *
          obtain ⟨K, S, n, Dt, fl⟩ := sk
          simp only [] at x0 x1 x2 x3 x4 hfx hnx hdx
          obtain ⟨fka, fkc, rfl⟩ : ∃ a c, fk = .slice a fl.length c := by obtain ⟨a, c, _, _, h, _⟩ := hfx; exact ⟨a, c, h⟩
          obtain ⟨W1, hW1⟩ : ∃ W1, W1 = wr.alloc (.cells #[.int .i64 K, .int .i64 S, .int .i64 n, .string Dt, .slice fka fl.length fkc] 35) := ⟨_, rfl⟩
          have hbw : Below wr.heap.size wr W1 := by rw [hW1]; exact below_new _ _
          have HBX1 : Hid (Boxed wr.heap.size [.int .i64 K, .int .i64 S, .int .i64 n, .string Dt, .slice fka fl.length fkc] W1) := by rw [hW1]; exact boxed_new wr #[.int .i64 K, .int .i64 S, .int .i64 n, .string Dt, .slice fka fl.length fkc] 35
          have T1 := T.up hbw
          have HWW := Hid.mk2 hW1
          have HPF : Hid (¬ F5 wr.heap.size ∧ ¬ G5 wr.heap.size) := ⟨fun h => by have := T.one.dev.lt _ h; omega, fun h => by have := T.two.dev.lt _ h; omega⟩
          clear h2 h3 h4 h5
          have HA1 : Hid (Calls Tryd.prog 11 #[.pointer (some ⟨b, 0, none⟩), .agg #[.int .i64 K, .int .i64 S, .int .i64 n, .string Dt, .slice fka fl.length fkc]] W1 fun e w' => ∃ vb vs F', ActT A W W1 b F5 c G5 o (a.act ⟨K, S, n, Dt, fl⟩) e w' vb vs F') := T1.act1 ⟨K, S, n, Dt, fl⟩ (.slice fka fl.length fkc) (hfx.keep T1.one.bel) (stpOk_of hnx hdx hpe (by omega)) (by omega)
          have LR := L.trans (like_read o 0 1)
          have HSO := Hid.mk2 (stpOk_of (d := (o.read 0 1).1) (s := ⟨K, S, n, Dt, fl⟩) hnx hdx (by rw [LR.pend]; exact hpe) (by omega))
          have HFX : Hid (FatesIn W (.slice fka fl.length fkc) fl) := hfx
          have HLA := Hid.mk2 (LR.act ⟨K, S, n, Dt, fl⟩)
          have HPA : Hid ((o.read 0 1).1.pend.length ≤ 5864062014805 ∧ (((o.read 0 1).1.arms.length + 1) * 32 ≤ 140737488355328)) := ⟨by rw [LR.pend]; omega, by rw [LR.arms]; omega⟩
          have hln := act_lens a ⟨K, S, n, Dt, fl⟩ T.one.dev.ok (by omega)
          have hpn := act_pend a ⟨K, S, n, Dt, fl⟩
          have han := act_armsN a ⟨K, S, n, Dt, fl⟩
          have HFINE : Hid ((a.act ⟨K, S, n, Dt, fl⟩).1.pend.length ≤ (k + 1) * 2048 ∧ (a.act ⟨K, S, n, Dt, fl⟩).1.arms.length ≤ 1048576 + (k + 1)) := ⟨by simp only [] at hpn; omega, by omega⟩
          generalize a.act ⟨K, S, n, Dt, fl⟩ = R at *
          obtain ⟨R1, re, rby, rse, ra, rb, rc⟩ := R
          simp only [] at hln HFINE HLA
          have HLN := Hid.mk2 hln
          clear T L T1 hbw hW1 hfx hnx hdx hpe har LR hln hpn han
          go_wp2_with fail
          rw [← HWW.out]
          refine HA1.out.mono ?_
          rintro e w2 ⟨vb, vs, F6, P⟩
          obtain rfl := P.ret
          obtain ⟨va, vc, rfl, -⟩ := owns_form P.rb.1
          obtain ⟨sa, sc, rfl, -⟩ := owns_form P.rs.1
          simp only [] at P
          obtain ⟨W3, hW3⟩ : ∃ W3, W3 = w2.alloc (.cells #[.int .i64 (re : Int), .slice va rby.length vc, .slice sa rse.length sc, .int .i64 ra, .int .i64 rb, .int .i64 rc] 38) := ⟨_, rfl⟩
          have hb3 : Below w2.heap.size w2 W3 := by rw [hW3]; exact below_new _ _
          have HX3 : Hid (Boxed w2.heap.size [.int .i64 (re : Int), .slice va rby.length vc, .slice sa rse.length sc, .int .i64 ra, .int .i64 rb, .int .i64 rc] W3) := by rw [hW3]; exact boxed_new w2 #[.int .i64 (re : Int), .slice va rby.length vc, .slice sa rse.length sc, .int .i64 ra, .int .i64 rb, .int .i64 rc] 38
          have HS3 : Hid (Boxed wr.heap.size [.int .i64 K, .int .i64 S, .int .i64 n, .string Dt, .slice fka fl.length fkc] W3) := (HBX1.out.step P.step HPF.out.1).below hb3
          have HT3 : Hid (Two A W W3 b F6 R1 c G5 o) := P.two.up hb3
          have HR3 : Hid (RowAt W3 G5 W1.heap.size 5 1 (.slice va rby.length vc) rby.length (u8s rby) ∧ RowAt W3 G5 W1.heap.size 68 2 (.slice sa rse.length sc) rse.length (secCells rse)) := ⟨(P.rb.imp (fun k hk => .inr hk)).up hb3, (P.rs.imp (fun k hk => .inr hk)).up hb3⟩
          have HGL : Hid (¬ G5 w2.heap.size) := fun h => by have := P.two.two.dev.lt _ h; omega
          have HRD := Hid.mk2 (HT3.out.read2 0 1 (by omega))
          have HW3 := Hid.mk2 hW3
          clear P hb3 hW3 HA1
          go_wp2_with fail
          rw [← HW3.out]
          refine HRD.out.mono ?_
          rintro e w4 ⟨v4, rfl, T4, S4⟩
          have HT4 := Hid.mk2 T4
          have HX4 := Hid.mk2 (HX3.out.step S4 HGL.out)
          have HS4 := Hid.mk2 (HS3.out.step S4 HPF.out.2)
          have HR4 := Hid.mk2 (And.intro (HR3.out.1.step S4) (HR3.out.2.step S4))
          have HDU := Hid.mk2 T4.two.durable
          clear HRD T4 S4 HX3 HS3 HR3 HT3
          go_wp2_with fail
          refine HDU.out.mono ?_
          rintro e w5 ⟨v5, rfl, -, hb5⟩
          have HB5 := Hid.mk2 hb5
          have HPD := Hid.mk2 ((HT4.out.up hb5).two.pending HPA.out.1)
          clear HDU hb5
          go_wp2_with fail
          refine HPD.out.mono ?_
          rintro e w6 ⟨v6, rfl, -, hb6⟩
          have HB6 := Hid.mk2 (Below.next HB5.out hb6)
          have HCO := Hid.mk2 (counts_any c G5 _ w6 (HT4.out.up HB6.out).two.dev)
          clear HPD hb6 HB5
          go_wp2_with fail
          refine HCO.out.mono ?_
          rintro e w7 ⟨rfl, hb7⟩
          have HB7 := Hid.mk2 (Below.next HB6.out hb7)
          have HT7 := Hid.mk2 (HT4.out.up HB7.out)
          have HX7 := Hid.mk2 (HX4.out.below HB7.out)
          have HS7 := Hid.mk2 (HS4.out.below HB7.out)
          have HR7 := Hid.mk2 (And.intro (HR4.out.1.up HB7.out) (HR4.out.2.up HB7.out))
          have HA2 := Hid.mk2 (HT7.out.act2 ⟨K, S, n, Dt, fl⟩ (.slice fka fl.length fkc) (HFX.out.keep HT7.out.one.bel) HSO.out HPA.out.2)
          have z0 : w7.cell? ⟨wr.heap.size, 0, none⟩ = some (.int .i64 K) := HS7.out.2 0 (by simp)
          have z1 : w7.cell? ⟨wr.heap.size, 1, none⟩ = some (.int .i64 S) := HS7.out.2 1 (by simp)
          have z2 : w7.cell? ⟨wr.heap.size, 2, none⟩ = some (.int .i64 n) := HS7.out.2 2 (by simp)
          have z3 : w7.cell? ⟨wr.heap.size, 3, none⟩ = some (.string Dt) := HS7.out.2 3 (by simp)
          have z4 : w7.cell? ⟨wr.heap.size, 4, none⟩ = some (.slice fka fl.length fkc) := HS7.out.2 4 (by simp)
          clear HCO hb7 HB6 HB7 HT4 HX4 HS4 HR4
          generalize (o.read 0 1).1.act ⟨K, S, n, Dt, fl⟩ = Q at HA2 HLA
          obtain ⟨Q1, qe, qby, qse, qa, qb, qc⟩ := Q
          simp only [] at HLA
          go_wp2_with fail
          refine HA2.out.mono ?_
          rintro e w8 ⟨vb2, vs2, G6, P2⟩
          obtain rfl := P2.ret
          obtain ⟨ua, uc, rfl, -⟩ := owns_form P2.rb.1
          obtain ⟨ta2, tc2, rfl, -⟩ := owns_form P2.rs.1
          simp only [] at P2
          obtain ⟨W9, hW9⟩ : ∃ W9, W9 = w8.alloc (.cells #[.int .i64 (qe : Int), .slice ua qby.length uc, .slice ta2 qse.length tc2, .int .i64 qa, .int .i64 qb, .int .i64 qc] 38) := ⟨_, rfl⟩
          have hb9 : Below w8.heap.size w8 W9 := by rw [hW9]; exact below_new _ _
          have HX9 := Hid.mk2 ((HX7.out.step P2.step HGL.out).below hb9)
          have y0 : W9.cell? ⟨wr.heap.size, 0, none⟩ = some (.int .i64 K) := cell_below hb9 (P2.step.cell z0 HPF.out.2)
          have HT9 : Hid (Two A W W9 b F6 R1 c G6 Q1) := P2.two.swap.up hb9
          have HR9 : Hid (RowAt W9 G6 W1.heap.size 5 1 (.slice va rby.length vc) rby.length (u8s rby) ∧ RowAt W9 G6 W1.heap.size 68 2 (.slice sa rse.length sc) rse.length (secCells rse) ∧ RowAt W9 G6 w7.heap.size 5 1 (.slice ua qby.length uc) qby.length (u8s qby) ∧ RowAt W9 G6 w7.heap.size 68 2 (.slice ta2 qse.length tc2) qse.length (secCells qse)) :=
            ⟨(HR7.out.1.step P2.step).up hb9, (HR7.out.2.step P2.step).up hb9, (P2.rb.imp (fun k hk => .inl hk)).up hb9, (P2.rs.imp (fun k hk => .inl hk)).up hb9⟩
          have HW9 := Hid.mk2 hW9
          rw [hW9] at y0
          clear z0 z1 z2 z3 z4 P2 hb9 HA2 HX7 HS7 HR7 HT7
          by_cases h9 : K = 9
          · have e9 : (K != 9) = false := by simp [h9]
            rw [hW9] at HT9
            clear h9 hW9
            go_wp2_with fail
            refine ⟨⟨k + 1, F6, G6, R1, Q1, by omega, by simp, HT9.out, HLA.out.1, HFINE.out.1, HFINE.out.2⟩, ?_⟩
            simp only [intOf]
            omega
          · have e9 : (K != 9) = true := by simp [h9]
            have hq := HLA.out.2 h9
            simp only [SaidD.mk.injEq] at hq
            obtain ⟨rfl, rfl, rfl, rfl, rfl, rfl⟩ := hq
            have HSAME := Hid.mk2 (same_any ⟨qe, qby, qse, qa, qb, qc⟩ (.slice va qby.length vc) (.slice sa qse.length sc) (.slice ua qby.length uc) (.slice ta2 qse.length tc2) W9 (bytesIn_own HR9.out.1.1 HLN.out.1) (secsIn_own HR9.out.2.1.1 HLN.out.2) (bytesIn_own HR9.out.2.2.1.1 HLN.out.1) (secsIn_own HR9.out.2.2.2.1 HLN.out.2))
            have g0 : W9.cell? ⟨w2.heap.size, 0, none⟩ = some (.int .i64 (qe : Int)) := HX9.out.2 0 (by simp)
            have g1 : W9.cell? ⟨w2.heap.size, 1, none⟩ = some (.slice va qby.length vc) := HX9.out.2 1 (by simp)
            have g2 : W9.cell? ⟨w2.heap.size, 2, none⟩ = some (.slice sa qse.length sc) := HX9.out.2 2 (by simp)
            have g3 : W9.cell? ⟨w2.heap.size, 3, none⟩ = some (.int .i64 qa) := HX9.out.2 3 (by simp)
            have g4 : W9.cell? ⟨w2.heap.size, 4, none⟩ = some (.int .i64 qb) := HX9.out.2 4 (by simp)
            have g5 : W9.cell? ⟨w2.heap.size, 5, none⟩ = some (.int .i64 qc) := HX9.out.2 5 (by simp)
            rw [hW9] at g0 g1 g2 g3 g4 g5
            clear hW9 HR9
            go_wp2_with fail
            rw [← HW9.out]
            refine HSAME.out.mono ?_
            rintro e w10 ⟨rfl, hb10⟩
            have HT10 := Hid.mk2 (HT9.out.up hb10)
            clear hb10 HSAME g0 g1 g2 g3 g4 g5 y0
            go_wp2_with fail
            refine ⟨⟨k + 1, F6, G6, R1, Q1, by omega, by simp, HT10.out, HLA.out.1, HFINE.out.1, HFINE.out.2⟩, ?_⟩
            simp only [intOf]
            omega
        · have k2 : ¬ (k : Int) < (N : Int) := by omega
          have HSH := Hid.mk2 (shown_any b c F5 G5 a o wr T.one.dev T.two.dev L.size L.dur L.pend L.dead (by omega))
          have HBT := Hid.mk2 (Below.next HB0.out T.one.bel)
          clear T L
          go_wp2_with fail
          go_wp2_with fail
          refine HSH.out.mono ?_
          rintro e w8 ⟨rfl, hb8⟩
          have HB8 := Hid.mk2 (Below.next HBT.out hb8)
          clear hb8 HSH
          go_wp2_with fail
          go_ret
          exact ⟨rfl, HB8.out⟩

end Go.Proofs.YtdieacdkomiooabDoor
