import Derived.Test.YtnaedmmfiiebaaaGreatDoorG42
namespace Go.Proofs.YtnaedmmfiiebaaaGreatDoor.T
open Go.RowKit

section
variable {base : Nat} {A : Nat → Addr} {db : Nat} {F : Nat → Prop} {d : S.V.Dev} {W0 : World}
/-- lastOf of what a way answered. -/
theorem lastof_any {Pk : SN → Nat → Prop} {rv : Value} {bs : Nat} {a : Option Addr} {n c : Nat} {v : Value} {w : World} (h : WayA A d Pk rv bs (.returned (.tuple #[.slice a n c, v])) w) :
    Calls Tryz.prog 53 #[.slice a n c, v] w fun e w' => (∃ k x b ev, e = .returned (.tuple #[.agg #[.string k, .string x], .bool b, ev]) ∧ ErrV A ev) ∧ Below w.heap.size w w' := by
  rcases h with ⟨_, he⟩ | ⟨_, he⟩ | ⟨ss, s, a', c', pv, lv, cv, _, he, ho, _, hs, _, _, _, hl⟩
  · cases he
    exact (lastof_none _ (.inr ⟨_, rfl⟩) w).mono fun e w' ⟨he, hb⟩ => ⟨⟨_, _, _, _, he, .inr (.inr rfl)⟩, hb⟩
  · cases he
    exact (lastof_none _ (.inl rfl) w).mono fun e w' ⟨he, hb⟩ => ⟨⟨_, _, _, _, he, .inl rfl⟩, hb⟩
  · cases he
    refine (lastof_some a ss.length c (ss.map Stp.lk) s.lk s.n pv lv cv w (by rw [List.length_map]) (by omega) ho.1.at hs).mono fun e w' ⟨⟨k, x, b, he⟩, hb⟩ => ⟨⟨k, x, b, _, he, .inl rfl⟩, hb⟩
theorem lastof_ahead {a : Option Addr} {n c : Nat} {v : Value} {w : World} (h : AheadA A (.returned (.tuple #[.slice a n c, v])) w) :
    Calls Tryz.prog 53 #[.slice a n c, v] w fun e w' => (∃ k x b ev, e = .returned (.tuple #[.agg #[.string k, .string x], .bool b, ev]) ∧ ErrV A ev) ∧ Below w.heap.size w w' := by
  rcases h with he | he | ⟨m, a', c', l, q, sn, pv, lv, cv, he, hm, hm2, hr, hs⟩
  · cases he
    exact (lastof_none _ (.inr ⟨_, rfl⟩) w).mono fun e w' ⟨he, hb⟩ => ⟨⟨_, _, _, _, he, .inr (.inr rfl)⟩, hb⟩
  · cases he
    exact (lastof_none _ (.inl rfl) w).mono fun e w' ⟨he, hb⟩ => ⟨⟨_, _, _, _, he, .inl rfl⟩, hb⟩
  · cases he
    refine (lastof_some a m c l q sn pv lv cv w hm hm2 hr hs).mono fun e w' ⟨⟨k, x, b, he⟩, hb⟩ => ⟨⟨k, x, b, _, he, .inl rfl⟩, hb⟩
theorem AheadA.form {e : Ending} {w' : World} (h : AheadA A e w') : ∃ a n c v, e = .returned (.tuple #[.slice a n c, v]) ∧ (v = .nilIface ∨ v = .iface 360 (.pointer (some (A 8)))) := by
  rcases h with rfl | rfl | ⟨m, a, c, l, q, sn, pv, lv, cv, rfl, _⟩
  · exact ⟨_, _, _, _, rfl, .inr rfl⟩
  · exact ⟨_, _, _, _, rfl, .inl rfl⟩
  · exact ⟨_, _, _, _, rfl, .inl rfl⟩
theorem Tc.boxed {w w1 : World} {tb : Nat} (h : Tc base A db F d W0 w tb) (hm : Mv db F w w1) (hv : Dv base A db F d w1) (x y : Value) : Tc base A db F d W0 ((w1.setCell ⟨w.heap.size, 0, none⟩ x).setCell ⟨w.heap.size, 1, none⟩ y) tb := by
  have hf : ¬ F w.heap.size := fun hf => by
    obtain ⟨d', _, hd⟩ := h.dv.dev
    have := hd.lt _ hf
    omega
  have hb := h.dv.env.errs.size
  have hs := (S.Sole.set w.heap.size 0 w1 x).trans (S.Sole.set w.heap.size 1 _ y)
  refine h.mv ⟨⟨hs.os.trans hm.step.os, hs.tape.trans hm.step.tape, hs.output.trans hm.step.output, Nat.le_trans hm.size hs.size, fun k hk hn => (hs.block k (Nat.lt_of_lt_of_le hk hm.size) (by omega)).trans (hm.step.block k hk hn), fun _ h => .inl h⟩, ⟨hs.os.trans hm.step.os, hs.tape.trans hm.step.tape, hs.output.trans hm.step.output, Nat.le_trans hm.size hs.size, fun k hk hn => (hs.block k (Nat.lt_of_lt_of_le hk hm.size) (by omega)).trans (hm.one.block k hk hn), fun _ h => .inl h⟩⟩ ((hv.tree hb hf 0 x).tree hb hf 1 y)
theorem wayahead_none (tb : Nat) (w : World) : Calls Tryz.prog 56 #[.pointer (some ⟨tb, 0, none⟩), .slice none 0 0] w fun e w' => e = .returned (.tuple #[.slice none 0 0, .nilIface]) ∧ w = w' := by
  go_enter Tryz.func56, Tryz.ntmps56
  go_wp2
  go_loopw [6] (fun iv wr => iv = .int .i64 (-1) ∧ w = wr) (fun _ _ => 0)
  case atStart => exact ⟨rfl, rfl⟩
  case round =>
    obtain ⟨rfl, rfl⟩ := hrel
    go_wp2
    go_ret2
    exact ⟨rfl, rfl⟩
set_option maxRecDepth 100000 in
set_option maxHeartbeats 4000000 in
theorem below_any {w : World} {tb : Nat} (key : ByteArray) (hc : Tc base A db F d W0 w tb) :
    Calls Tryz.prog 18 #[.pointer (some ⟨tb, 0, none⟩), .string key] w fun e w' => (∃ k x b ev, e = .returned (.tuple #[.agg #[.string k, .string x], .bool b, ev]) ∧ ErrV A ev) ∧ Tc base A db F d W0 w' tb := by
  obtain ⟨rv, ht, hrv⟩ := hc.tr
  have q0 := below_new w (.cells #[.string ⟨#[]⟩, .string ⟨#[]⟩] 52)
  have x0 := B.RowAt.new w #[.string ⟨#[]⟩, .string ⟨#[]⟩] 52
  have HX : Hid (∀ w1, Mv db F (w.alloc (.cells #[.string ⟨#[]⟩, .string ⟨#[]⟩] 52)) w1 → B.RowAt w1 w.heap.size #[.string ⟨#[]⟩, .string ⟨#[]⟩] 52) := fun w1 hm => row_mv hm x0 (by have := hc.dv.dblt; omega)
  have HQ := hide q0
  have HC := hide hc
  have HRV : Hid (rv = .nilIface ∨ ∃ p : C.Ch, rv = p.val ∧ Any (w.alloc (.cells #[.string ⟨#[]⟩, .string ⟨#[]⟩] 52)) p) := by
    rcases hrv with h | ⟨p, h1, h2⟩
    · exact .inl h
    · exact .inr ⟨p, h1, h2.away (Away.of q0)⟩
  have HT := hide (ht.below q0)
  have HDV := hide (hc.dv.below q0)
  clear hc ht hrv x0 q0
  by_cases hk : key = ⟨#[]⟩
  · subst hk
    have HW := hide (waylast_any HDV.out (Mv.refl _ _ _) HDV.out HT.out HRV.out)
    go_enter Tryz.func18, Tryz.ntmps18
    go_wp2_with fail
    refine HW.out.mono ?_
    rintro e w1 ⟨hwa, hv1, hm1⟩
    obtain ⟨a, n, c, v, he, hvv⟩ := hwa.form
    subst he
    have HL := hide (lastof_any hwa)
    have HV1 := hide hv1
    have HM1 := hide hm1
    clear hwa hv1 hm1 HW
    go_wp2_with fail
    refine HL.out.mono ?_
    rintro e w2 ⟨⟨k, x, b, ev, rfl, hev⟩, hb2⟩
    have HM2 := hide (HM1.out.trans (Mv.of hb2))
    have HV2 := hide (HV1.out.below hb2)
    have HX2 := hide (HX.out w2 HM2.out)
    have z0 := HX2.out.c0
    have z1 := HX2.out.c1
    have y0 := HX2.out.free 0
    have y1 := HX2.out.free 1
    have HEV := hide hev
    clear hb2 hev HL HM1 HV1
    go_wp2_with fail
    (try simp only [Exit.inBlock, Exit.then])
    exact bodyPost_ret (results_row_3 rfl _ _ w.heap.size 52 _ (0, 0) _ rfl (HX2.out.two _ _) Tryz.underlying52 rfl (by kernel_rfl)) rfl ⟨⟨_, _, _, _, rfl, HEV.out⟩, HC.out.boxed ((Mv.of HQ.out).trans HM2.out) HV2.out _ _⟩
  · have hkn : key.toList.isEmpty = false := by
      cases h : key.toList with
      | nil => exact absurd (ba_ext' (by rw [← ByteArray.toList_eq, h])) hk
      | cons _ _ => rfl
    have HW := hide (wayto_any key HDV.out (Mv.refl _ _ _) HDV.out HT.out HRV.out)
    clear hk
    go_enter Tryz.func18, Tryz.ntmps18
    go_wp2_with fail
    refine HW.out.mono ?_
    rintro e w1 ⟨hwa, hv1, hm1⟩
    have HV1 := hide hv1
    have HM1 := hide hm1
    have HX1 := hide (HX.out w1 hm1)
    rcases hwa with ⟨_, rfl⟩ | ⟨hrn, rfl⟩ | ⟨ss, s, a, c, pv, lv, cv, _, rfl, ho, hway, hs, h0, hsz, hat, hl⟩
    · have z0 := HX1.out.c0
      have z1 := HX1.out.c1
      have y0 := HX1.out.free 0
      have y1 := HX1.out.free 1
      clear hv1 hm1 HW
      go_wp2_with fail
      (try simp only [Exit.inBlock, Exit.then])
      exact bodyPost_ret (results_row_3 rfl _ _ w.heap.size 52 _ (0, 0) _ rfl (HX1.out.two _ _) Tryz.underlying52 rfl (by kernel_rfl)) rfl ⟨⟨_, _, _, _, rfl, .inr (.inr rfl)⟩, HC.out.boxed ((Mv.of HQ.out).trans HM1.out) HV1.out _ _⟩
    · clear hv1 hm1 HW
      go_wp2_with fail
      refine (pairsat_none w1).mono ?_
      rintro e w1' ⟨rfl, rfl⟩
      go_wp2_with fail
      refine (lfind_any (.slice none 0 0) [] key w1 (by simp) (PrR.nil _)).mono ?_
      rintro e w2 ⟨rfl, hb2⟩
      rw [show foundB [] key = false from rfl, show findN [] key = 0 from rfl]
      have HM2 := hide (HM1.out.trans (Mv.of hb2))
      have HV2 := hide (HV1.out.below hb2)
      clear hb2
      go_wp2_with fail
      refine (wayahead_none tb w2).mono ?_
      rintro e w2' ⟨rfl, rfl⟩
      go_wp2_with fail
      refine (lastof_none .nilIface (.inl rfl) w2).mono ?_
      rintro e w3 ⟨rfl, hb3⟩
      have HM3 := hide (HM2.out.trans (Mv.of hb3))
      have HV3 := hide (HV2.out.below hb3)
      have HX3 := hide (HX.out w3 HM3.out)
      have z0 := HX3.out.c0
      have z1 := HX3.out.c1
      have y0 := HX3.out.free 0
      have y1 := HX3.out.free 1
      clear hb3
      go_wp2_with fail
      (try simp only [Exit.inBlock, Exit.then])
      exact bodyPost_ret (results_row_3 rfl _ _ w.heap.size 52 _ (0, 0) _ rfl (HX3.out.two _ _) Tryz.underlying52 rfl (by kernel_rfl)) rfl ⟨⟨_, _, _, _, rfl, .inl rfl⟩, HC.out.boxed ((Mv.of HQ.out).trans HM3.out) HV3.out _ _⟩
    · have HO := hide ho
      have HWY := hide hway
      have HSZ := hide hsz
      have HL := hide hl
      have HAT := hide hat
      have HPA := hide (pairsat_some a ss.length c (ss.map Stp.lk) s.lk s.n pv lv cv w1 (by rw [List.length_map]) (by omega) ho.1.at hs)
      have HPR := hide hs.prs
      obtain ⟨m, hmm⟩ : ∃ m, m = ss.length := ⟨_, rfl⟩
      have HMM := hide hmm
      rw [← hmm] at HPA HO ⊢
      obtain ⟨xa, xc, hpf⟩ := hs.prs.form
      subst hpf
      clear ho hway hs h0 hsz hat hl hv1 hm1 HW hmm
      go_wp2_with fail
      refine HPA.out.mono ?_
      rintro e w1' ⟨rfl, rfl⟩
      go_wp2_with fail
      refine (lfind_any _ s.n.ps key w1 (by have := szL_len s.n.ps; have := HSZ.out; omega) HPR.out).mono ?_
      rintro e w2 ⟨rfl, hb2⟩
      have HM2 := hide (HM1.out.trans (Mv.of hb2))
      have HV2 := hide (HV1.out.below hb2)
      have HX2 := hide (HX.out w2 HM2.out)
      have HPR2 := hide (HPR.out.below hb2)
      have HO2 := hide (HO.out.below hb2)
      have HWY2 := hide (HWY.out.away (Away.of hb2))
      have HT2 := hide (tree_away (HM2.out.away HDV.out) HT.out)
      have hfl := findN_le s.n.ps key
      clear hb2
      generalize findN s.n.ps key = fq at *
      by_cases hp : 0 < fq
      · obtain ⟨j, rfl⟩ : ∃ j, fq = j + 1 := ⟨fq - 1, by omega⟩
        obtain ⟨_, _, hvf, _, _, hcell⟩ := HPR2.out
        simp only [Value.slice.injEq] at hvf
        obtain ⟨rfl, -, rfl⟩ := hvf
        obtain ⟨g, o, rfl, c1, c2⟩ := hcell j (by omega)
        generalize (s.n.ps[j]'(by omega)).1 = s1 at c1
        generalize (s.n.ps[j]'(by omega)).2 = s2 at c2
        have hj0 : (0 : Int) ≤ (j : Int) := by omega
        have hj1 : (j : Int) < (s.n.ps.length : Int) := by omega
        have hj2 : (s.n.ps.length : Int) ≤ 4072 := by have := szL_len s.n.ps; have := HSZ.out; omega
        have hj3 : (0 : Int) < ((j + 1 : Nat) : Int) := by omega
        have z0 := HX2.out.c0
        have z1 := HX2.out.c1
        have y0 := HX2.out.free 0
        have y1 := HX2.out.free 1
        clear hcell hfl hp
        go_wp2_with fail
        (try simp only [Exit.inBlock, Exit.then])
        exact bodyPost_ret (results_row_3 rfl _ _ w.heap.size 52 _ (0, 0) _ rfl (HX2.out.two _ _) Tryz.underlying52 rfl (by kernel_rfl)) rfl ⟨⟨_, _, _, _, rfl, .inl rfl⟩, HC.out.boxed ((Mv.of HQ.out).trans HM2.out) HV2.out _ _⟩
      · have hz : fq = 0 := by omega
        subst hz
        have hwa := wayahead_any a c ss s HDV.out HM2.out HV2.out HT2.out (by rw [← HMM.out]; exact HO2.out.1.at) HWY2.out HAT.out HL.out
        rw [← HMM.out] at hwa
        have HWA := hide hwa
        clear hwa hfl hp
        go_wp2_with fail
        refine HWA.out.mono ?_
        rintro e w3 ⟨hah, hv3, hm3⟩
        obtain ⟨a3, n3, c3, v3, he, hvv⟩ := hah.form
        subst he
        have HLA := hide (lastof_ahead hah)
        have HV3 := hide hv3
        have HM3 := hide hm3
        clear hah hv3 hm3 HWA hvv
        go_wp2_with fail
        refine HLA.out.mono ?_
        rintro e w4 ⟨⟨k4, x4, b4, ev, rfl, hev⟩, hb4⟩
        have HM4 := hide (HM3.out.trans (Mv.of hb4))
        have HV4 := hide (HV3.out.below hb4)
        have HX4 := hide (HX.out w4 HM4.out)
        have z0 := HX4.out.c0
        have z1 := HX4.out.c1
        have y0 := HX4.out.free 0
        have y1 := HX4.out.free 1
        have HEV := hide hev
        clear hb4 hev HLA
        go_wp2_with fail
        (try simp only [Exit.inBlock, Exit.then])
        exact bodyPost_ret (results_row_3 rfl _ _ w.heap.size 52 _ (0, 0) _ rfl (HX4.out.two _ _) Tryz.underlying52 rfl (by kernel_rfl)) rfl ⟨⟨_, _, _, _, rfl, HEV.out⟩, HC.out.boxed ((Mv.of HQ.out).trans HM4.out) HV4.out _ _⟩
end

end Go.Proofs.YtnaedmmfiiebaaaGreatDoor.T
