import Derived.Test.YtnaedmmfiiebaaaGreatDoorG39
import Derived.Deep.RegionLaw
namespace Go.Proofs.YtnaedmmfiiebaaaGreatDoor.T
open Go.RowKit

section
variable {base : Nat} {A : Nat → Addr} {db : Nat} {F : Nat → Prop} {d : S.V.Dev} {W0 : World}

set_option maxRecDepth 100000 in
set_option maxHeartbeats 4000000 in
theorem del_any {w : World} {tb : Nat} (key : ByteArray) (hc : Tc base A db F d W0 w tb) (hkl : key.size ≤ 140737488355328) :
    Calls Tryz.prog 16 #[.pointer (some ⟨tb, 0, none⟩), .string key] w fun e w' => (∃ b ev, e = .returned (.tuple #[.bool b, ev]) ∧ ErrV A ev) ∧ Tc base A db F d W0 w' tb := by
  have HPF := hide (pfault_any A key ⟨#[]⟩ w hkl (by simp [ByteArray.size]) hc.dv.errC)
  obtain ⟨rv, ht, hrv⟩ := hc.tr
  have HC := hide hc
  have HT := hide ht
  have HRV := hide hrv
  clear hc ht hrv
  by_cases hm : mayP (key, ⟨#[]⟩) = true
  · rw [if_pos hm] at HPF
    have HM := hide hm
    clear hkl hm
    go_enter Tryz.func16, Tryz.ntmps16
    go_wp2_with fail
    refine HPF.out.mono ?_
    rintro e w1 ⟨rfl, hb1⟩
    have HB1 := hide hb1
    have HWT := hide (wayto_any key HC.out.dv (Mv.of hb1) (HC.out.dv.below hb1) (HT.out.below hb1) (by
      rcases HRV.out with h | ⟨p, h, hp⟩
      · exact .inl h
      · exact .inr ⟨p, h, hp.away (Away.of hb1)⟩))
    clear hb1 HPF
    go_wp2_with fail
    refine HWT.out.mono ?_
    rintro e w2 ⟨hwa, hv2, hm2⟩
    have HV2 := hide hv2
    have HM2 := hide hm2
    have HTC2 := hide (HC.out.mv hm2 hv2)
    have HT2 := hide (tree_away (hm2.away HC.out.dv) HT.out)
    rcases hwa with ⟨⟨rt, rx, hrr⟩, rfl⟩ | ⟨hrn, rfl⟩ | ⟨ss, s, a, c, pv, lv, cv, ⟨rt, rx, hrr⟩, rfl, ho, hway, hs, h0, hsz, hat, hl⟩
    · clear hrr hv2 hm2 HWT
      go_wp2
      go_ret2
      exact ⟨⟨_, _, rfl, .inr (.inr rfl)⟩, HTC2.out⟩
    · subst hrn
      clear hv2 hm2 HWT
      go_wp2_with fail
      refine (pairsat_none w2).mono ?_
      rintro e w2' ⟨rfl, rfl⟩
      go_wp2_with fail
      refine (ldrop_any (.slice none 0 0) [] key w2 (by simp) (PrR.nil _)).mono ?_
      rintro e w5 ⟨u, rfl, hu, hb5⟩
      rw [show foundB [] key = false from rfl]
      have HTC := hide (HTC2.out.below hb5)
      obtain ⟨ua, uc, huf⟩ := hu.form
      subst huf
      clear hu hb5
      go_wp2
      go_ret2
      exact ⟨⟨_, _, rfl, .inl rfl⟩, HTC.out⟩
    · have HNN : Hid (rv = .nilIface ∨ ∃ t x, rv = .iface t x) := rv_form HRV.out
      have HO := hide ho
      have HW := hide hway
      have HS := hide hs
      have HSZ := hide hsz
      have HL := hide hl
      have HPA := hide (pairsat_some a ss.length c (ss.map Stp.lk) s.lk s.n pv lv cv w2 (by rw [List.length_map]) (by omega) ho.1.at hs)
      have HPR := hide hs.prs
      have HPM := hide hs.fine.1
      obtain ⟨m, hmm⟩ : ∃ m, m = ss.length := ⟨_, rfl⟩
      have HMM := hide hmm
      rw [← hmm] at HPA HO HL ⊢
      obtain ⟨xa, xc, hpf⟩ := hs.prs.form
      subst hpf
      clear ho hway hs h0 hsz hat hl hv2 hm2 HWT hmm hrr
      go_wp2_with fail
      refine HPA.out.mono ?_
      rintro e w2' ⟨rfl, rfl⟩
      go_wp2_with fail
      refine (ldrop_any _ s.n.ps key w2 (by have := szL_len s.n.ps; have := HSZ.out; omega) HPR.out).mono ?_
      rintro e w5 ⟨u, rfl, hu, hb5⟩
      have HB5 := hide hb5
      have hch := change_any (s := s) HC.out (HM2.out.trans (Mv.of HB5.out)) (HV2.out.below HB5.out) (HT2.out.below HB5.out) HNN.out (by have := HL.out; have := HMM.out; omega) (by rw [← HMM.out]; exact HO.out.below HB5.out) (HW.out.away (Away.of HB5.out)) hu.at (dropL_may HPM.out) (by
        have := dropL_sz s.n.ps key
        have := HSZ.out
        omega)
      rw [← HMM.out] at hch
      have HCH := hide hch
      have HTC := hide (HTC2.out.below hb5)
      obtain ⟨ua, uc, huf⟩ := hu.form
      subst huf
      clear hu hb5 hch
      cases hfb : foundB s.n.ps key with
      | false =>
        go_wp2
        go_ret2
        exact ⟨⟨_, _, rfl, .inl rfl⟩, HTC.out⟩
      | true =>
        go_wp2_with fail
        refine HCH.out.mono ?_
        rintro e w6 ⟨⟨ev, rfl, hev⟩, htc⟩
        have HTC6 := hide htc
        have HEV := hide hev
        have hef := hev.form
        clear htc HCH hev
        rcases hef with rfl | ⟨q, rfl⟩
        · go_wp2
          go_ret2
          exact ⟨⟨_, _, rfl, HEV.out⟩, HTC6.out⟩
        · go_wp2
          go_ret2
          exact ⟨⟨_, _, rfl, HEV.out⟩, HTC6.out⟩
  · rw [if_neg hm] at HPF
    have HM := hide hm
    clear hkl hm
    go_enter Tryz.func16, Tryz.ntmps16
    go_wp2_with fail
    refine HPF.out.mono ?_
    rintro e w1 ⟨rfl, hb1⟩
    have HTC := hide (HC.out.below hb1)
    clear hb1 HPF
    go_wp2
    go_ret2
    exact ⟨⟨_, _, rfl, .inr (.inl rfl)⟩, HTC.out⟩

set_option maxRecDepth 100000 in
set_option maxHeartbeats 4000000 in
theorem get_any {w : World} {tb : Nat} (key : ByteArray) (hc : Tc base A db F d W0 w tb) (hkl : key.size ≤ 140737488355328) :
    Calls Tryz.prog 17 #[.pointer (some ⟨tb, 0, none⟩), .string key] w fun e w' => (∃ v b ev, e = .returned (.tuple #[.string v, .bool b, ev]) ∧ ErrV A ev) ∧ Tc base A db F d W0 w' tb := by
  have HPF := hide (pfault_any A key ⟨#[]⟩ w hkl (by simp [ByteArray.size]) hc.dv.errC)
  obtain ⟨rv, ht, hrv⟩ := hc.tr
  have HC := hide hc
  have HT := hide ht
  have HRV := hide hrv
  clear hc ht hrv
  by_cases hm : mayP (key, ⟨#[]⟩) = true
  · rw [if_pos hm] at HPF
    have HM := hide hm
    clear hkl hm
    go_enter Tryz.func17, Tryz.ntmps17
    go_wp2_with fail
    refine HPF.out.mono ?_
    rintro e w1 ⟨rfl, hb1⟩
    have HB1 := hide hb1
    have HWT := hide (wayto_any key HC.out.dv (Mv.of hb1) (HC.out.dv.below hb1) (HT.out.below hb1) (by
      rcases HRV.out with h | ⟨p, h, hp⟩
      · exact .inl h
      · exact .inr ⟨p, h, hp.away (Away.of hb1)⟩))
    clear hb1 HPF
    go_wp2_with fail
    refine HWT.out.mono ?_
    rintro e w2 ⟨hwa, hv2, hm2⟩
    have HV2 := hide hv2
    have HM2 := hide hm2
    have HTC2 := hide (HC.out.mv hm2 hv2)
    have HT2 := hide (tree_away (hm2.away HC.out.dv) HT.out)
    rcases hwa with ⟨⟨rt, rx, hrr⟩, rfl⟩ | ⟨hrn, rfl⟩ | ⟨ss, s, a, c, pv, lv, cv, ⟨rt, rx, hrr⟩, rfl, ho, hway, hs, h0, hsz, hat, hl⟩
    · clear hrr hv2 hm2 HWT
      go_wp2
      go_ret3
      exact ⟨⟨_, _, _, rfl, .inr (.inr rfl)⟩, HTC2.out⟩
    · subst hrn
      clear hv2 hm2 HWT
      go_wp2_with fail
      refine (pairsat_none w2).mono ?_
      rintro e w2' ⟨rfl, rfl⟩
      go_wp2_with fail
      refine (lfind_any (.slice none 0 0) [] key w2 (by simp) (PrR.nil _)).mono ?_
      rintro e w5 ⟨rfl, hb5⟩
      rw [show foundB [] key = false from rfl, show findN [] key = 0 from rfl]
      have HTC := hide (HTC2.out.below hb5)
      clear hb5
      go_wp2
      go_ret3
      exact ⟨⟨_, _, _, rfl, .inl rfl⟩, HTC.out⟩
    · have HNN : Hid (rv = .nilIface ∨ ∃ t x, rv = .iface t x) := rv_form HRV.out
      have HO := hide ho
      have HW := hide hway
      have HS := hide hs
      have HSZ := hide hsz
      have HL := hide hl
      have HPA := hide (pairsat_some a ss.length c (ss.map Stp.lk) s.lk s.n pv lv cv w2 (by rw [List.length_map]) (by omega) ho.1.at hs)
      have HPR := hide hs.prs
      have HPM := hide hs.fine.1
      obtain ⟨m, hmm⟩ : ∃ m, m = ss.length := ⟨_, rfl⟩
      have HMM := hide hmm
      rw [← hmm] at HPA HO HL ⊢
      obtain ⟨xa, xc, hpf⟩ := hs.prs.form
      subst hpf
      clear ho hway hs h0 hsz hat hl hv2 hm2 HWT hmm hrr
      go_wp2_with fail
      refine HPA.out.mono ?_
      rintro e w2' ⟨rfl, rfl⟩
      go_wp2_with fail
      refine (lfind_any _ s.n.ps key w2 (by have := szL_len s.n.ps; have := HSZ.out; omega) HPR.out).mono ?_
      rintro e w5 ⟨rfl, hb5⟩
      have HTC := hide (HTC2.out.below hb5)
      have HPR5 := hide (HPR.out.below hb5)
      clear hb5
      cases hfb : foundB s.n.ps key with
      | false =>
        go_wp2
        go_ret3
        exact ⟨⟨_, _, _, rfl, .inl rfl⟩, HTC.out⟩
      | true =>
        have hlt := foundB_lt hfb
        obtain ⟨_, _, hvf, _, _, hcell⟩ := HPR5.out
        simp only [Value.slice.injEq] at hvf
        obtain ⟨rfl, -, rfl⟩ := hvf
        obtain ⟨g, o, rfl, c1, c2⟩ := hcell (findN s.n.ps key) hlt
        have hq0 : (0 : Int) ≤ (findN s.n.ps key : Int) := by omega
        have hq1 : (findN s.n.ps key : Int) < (s.n.ps.length : Int) := by omega
        generalize (s.n.ps[findN s.n.ps key]).2 = val at c2
        generalize findN s.n.ps key = fq at *
        clear hcell hlt c1
        go_wp2
        go_ret3
        exact ⟨⟨_, _, _, rfl, .inl rfl⟩, HTC.out⟩
  · rw [if_neg hm] at HPF
    have HM := hide hm
    clear hkl hm
    go_enter Tryz.func17, Tryz.ntmps17
    go_wp2_with fail
    refine HPF.out.mono ?_
    rintro e w1 ⟨rfl, hb1⟩
    have HTC := hide (HC.out.below hb1)
    clear hb1 HPF
    go_wp2
    go_ret3
    exact ⟨⟨_, _, _, rfl, .inr (.inl rfl)⟩, HTC.out⟩
end

end Go.Proofs.YtnaedmmfiiebaaaGreatDoor.T

namespace Go.Proofs.YtnaedmmfiiebaaaGreatDoor.T
open Go.RowKit

section
variable {base : Nat} {A : Nat → Addr} {db : Nat} {F : Nat → Prop} {d : S.V.Dev} {W0 : World}
theorem wayfirst_any {w w1 : World} {tb : Nat} {rv : Value} (hv0 : Dv base A db F d w) (hm : Mv db F w w1) (hv : Dv base A db F d w1) (ht : B.RowAt w1 tb #[.pointer (some ⟨db, 0, none⟩), rv] 100) (hrv : rv = .nilIface ∨ ∃ p : C.Ch, rv = p.val ∧ Any w1 p) :
    Calls Tryz.prog 54 #[.pointer (some ⟨tb, 0, none⟩), .func (.func 57) #[] #[]] w1 fun e w' => WayA A d (fun _ q => q = 0) rv w.heap.size e w' ∧ Dv base A db F d w' ∧ Mv db F w w' := by
  rcases hrv with rfl | ⟨p, rfl, hp⟩
  · refine (way_none _ ⟨_, _, _, rfl⟩ tb _ w1 ht).mono fun e w' ⟨he, hw⟩ => ?_
    subst hw
    exact ⟨.inr (.inl ⟨rfl, he⟩), hv, hm⟩
  · refine (way_first (anyS d) (fun _ q => q = 0) (fun _ => True) (fun _ _ _ h => h) p () tb w w1 hp ht hv hm hv0 trivial (.inl trivial) (fun W b n pv lv cv y _ hs hn hnl => ?_)).mono fun e w' ⟨h1, h2, h3⟩ => ⟨WayA.of (val_form p) h1, h2, h3⟩
    exact (tfirst_any n lv W).mono fun e w' ⟨he, hb⟩ => ⟨0, he, rfl, by omega, hb⟩
theorem waylast_any {w w1 : World} {tb : Nat} {rv : Value} (hv0 : Dv base A db F d w) (hm : Mv db F w w1) (hv : Dv base A db F d w1) (ht : B.RowAt w1 tb #[.pointer (some ⟨db, 0, none⟩), rv] 100) (hrv : rv = .nilIface ∨ ∃ p : C.Ch, rv = p.val ∧ Any w1 p) :
    Calls Tryz.prog 54 #[.pointer (some ⟨tb, 0, none⟩), .func (.func 55) #[] #[]] w1 fun e w' => WayA A d (fun n q => q = n.lk.length) rv w.heap.size e w' ∧ Dv base A db F d w' ∧ Mv db F w w' := by
  rcases hrv with rfl | ⟨p, rfl, hp⟩
  · refine (way_none _ ⟨_, _, _, rfl⟩ tb _ w1 ht).mono fun e w' ⟨he, hw⟩ => ?_
    subst hw
    exact ⟨.inr (.inl ⟨rfl, he⟩), hv, hm⟩
  · refine (way_last (anyS d) (fun n q => q = n.lk.length) (fun _ => True) (fun _ _ _ h => h) p () tb w w1 hp ht hv hm hv0 trivial (.inl trivial) (fun W b n pv lv cv y _ hs hn hnl => ?_)).mono fun e w' ⟨h1, h2, h3⟩ => ⟨WayA.of (val_form p) h1, h2, h3⟩
    have hk := ((anyS d).fit hn).1.resolve_left hnl
    exact (tlast_any n lv W hs.lks).mono fun e w' ⟨he, hb⟩ => ⟨n.lk.length, he, rfl, by omega, hb⟩
theorem WayA.form {Pk : SN → Nat → Prop} {rv : Value} {bs : Nat} {e : Ending} {w' : World} (h : WayA A d Pk rv bs e w') : ∃ a n c v, e = .returned (.tuple #[.slice a n c, v]) ∧ (v = .nilIface ∨ v = .iface 360 (.pointer (some (A 8)))) := by
  rcases h with ⟨_, rfl⟩ | ⟨_, rfl⟩ | ⟨ss, s, a, c, pv, lv, cv, _, rfl, _⟩
  · exact ⟨_, _, _, _, rfl, .inr rfl⟩
  · exact ⟨_, _, _, _, rfl, .inl rfl⟩
  · exact ⟨_, _, _, _, rfl, .inl rfl⟩
theorem depth_any {w : World} {tb : Nat} (hc : Tc base A db F d W0 w tb) :
    Calls Tryz.prog 19 #[.pointer (some ⟨tb, 0, none⟩)] w fun e w' => (∃ n ev, e = .returned (.tuple #[.int .i64 n, ev]) ∧ ErrV A ev) ∧ Tc base A db F d W0 w' tb := by
  obtain ⟨rv, ht, hrv⟩ := hc.tr
  have HW := hide (wayfirst_any hc.dv (Mv.refl _ _ _) hc.dv ht hrv)
  have HC := hide hc
  clear hc ht hrv
  go_enter Tryz.func19, Tryz.ntmps19
  go_wp2_with fail
  refine HW.out.mono ?_
  rintro e w1 ⟨hwa, hv1, hm1⟩
  have HTC := hide (HC.out.mv hm1 hv1)
  obtain ⟨a, n, c, v, he, hvv⟩ := hwa.form
  subst he
  clear hwa hv1 hm1 HW
  rcases hvv with rfl | rfl
  · go_wp2
    go_ret2
    exact ⟨⟨_, _, rfl, .inl rfl⟩, HTC.out⟩
  · go_wp2
    go_ret2
    exact ⟨⟨_, _, rfl, .inr (.inr rfl)⟩, HTC.out⟩
end
theorem pgch_any (id : Int) (w : World) : Calls Tryz.prog 289 #[.int .i64 id] w fun e w' => e = .returned (.int .i64 0) ∧ w = w' := by
  go_enter Tryz.func289, Tryz.ntmps289
  go_wp2
  go_ret
  exact ⟨rfl, rfl⟩
set_option maxRecDepth 100000 in
set_option maxHeartbeats 4000000 in
theorem ndch_any : ∀ (k : Nat) (b : Nat) (w : World), AnyK w k (.nd b) → Calls Tryz.prog 290 #[.pointer (some ⟨b, 0, none⟩)] w fun e w' => (∃ i, e = .returned (.int .i64 i)) ∧ w = w'
  | 0, _, _, h => h.elim
  | k + 1, b, w, ⟨n, pv, lv, cv, hs, hf, hkids⟩ => by
    have p3 := hs.c3
    obtain ⟨ca, cc, hcf, -, -, hcell⟩ := hs.kids
    rw [C.lks_length, Nat.mul_one] at hcf
    subst hcf
    have HCELL := hide hcell
    have HK := hide hkids
    have HL : Hid (n.us.length ≤ 4001) := hs.fine.2.2.2.2
    clear hs hf hkids hcell
    go_enter Tryz.func290, Tryz.ntmps290
    go_wp2
    go_loopw [3, 11] (fun cv iv wr => ∃ (c : Int) (i : Nat), cv = .int .i64 c ∧ iv = .int .i64 (i : Int) ∧ i ≤ n.us.length ∧ w = wr) (fun _ iv _ => n.us.length - (intOf iv).toNat)
    case atStart => exact ⟨1, 0, rfl, rfl, Nat.zero_le _, rfl⟩
    case round =>
      obtain ⟨c, i, rfl, rfl, hi, rfl⟩ := hrel
      by_cases hlt : i < n.us.length
      · obtain ⟨g, o, rfl, c1⟩ := HCELL.out i _ (C.lks_get n.us i hlt)
        have hI0 : (0 : Int) ≤ (i : Int) := by omega
        have hI1 : (i : Int) < (n.us.length : Int) := by omega
        have hI2 : (n.us.length : Int) ≤ 4001 := by have := HL.out; omega
        have hkd := HK.out n.us[i] (List.getElem_mem hlt)
        generalize n.us[i] = p at *
        clear HCELL HK
        cases p with
        | pg id =>
          have c1' : w.cell? ⟨g, o + i, none⟩ = some (.iface 146 (.int .i64 id)) := c1
          clear c1 hkd
          go_wp2_with fail
          refine (pgch_any id w).mono ?_
          rintro e w1 ⟨rfl, rfl⟩
          go_wp2
          go_roundw
          case rel => exact ⟨_, i + 1, rfl, by go_num, hlt, trivial⟩
          case measure => simp [intOf]; omega
        | nd b2 =>
          have c1' : w.cell? ⟨g, o + i, none⟩ = some (.iface 152 (.pointer (some ⟨b2, 0, none⟩))) := c1
          have HR := hide (ndch_any k b2 w hkd)
          clear c1 hkd
          go_wp2_with fail
          refine HR.out.mono ?_
          rintro e w1 ⟨⟨x, rfl⟩, rfl⟩
          go_wp2
          go_roundw
          case rel => exact ⟨_, i + 1, rfl, by go_num, hlt, trivial⟩
          case measure => simp [intOf]; omega
      · have hI1 : ¬ (i : Int) < (n.us.length : Int) := by omega
        go_wp2
        go_ret
        exact ⟨⟨_, rfl⟩, rfl⟩

section
variable {base : Nat} {A : Nat → Addr} {db : Nat} {F : Nat → Prop} {d : S.V.Dev} {W0 : World}
set_option maxRecDepth 100000 in
theorem changed_any {w : World} {tb : Nat} (hc : Tc base A db F d W0 w tb) :
    Calls Tryz.prog 20 #[.pointer (some ⟨tb, 0, none⟩)] w fun e w' => (∃ n, e = .returned (.int .i64 n)) ∧ w = w' := by
  obtain ⟨rv, ht, hrv⟩ := hc.tr
  have c1 := ht.c1
  clear ht hc
  rcases hrv with rfl | ⟨p, rfl, k, hp⟩
  · have hn := fun W => eql_nil_nil W
    go_enter Tryz.func20, Tryz.ntmps20
    go_wp2
    go_ret
    exact ⟨⟨_, rfl⟩, rfl⟩
  · cases p with
    | pg id =>
      have c1' : w.cell? ⟨tb, 1, none⟩ = some (.iface 146 (.int .i64 id)) := c1
      have hn := fun W => eql_ch_nil 146 (.int .i64 id) W
      clear c1 hp
      go_enter Tryz.func20, Tryz.ntmps20
      go_wp2_with fail
      refine (pgch_any id w).mono ?_
      rintro e w1 ⟨rfl, rfl⟩
      go_wp2
      go_ret
      exact ⟨⟨_, rfl⟩, rfl⟩
    | nd b =>
      have c1' : w.cell? ⟨tb, 1, none⟩ = some (.iface 152 (.pointer (some ⟨b, 0, none⟩))) := c1
      have hn := fun W => eql_ch_nil 152 (.pointer (some ⟨b, 0, none⟩)) W
      have HR := hide (ndch_any k b w hp)
      clear c1 hp
      go_enter Tryz.func20, Tryz.ntmps20
      go_wp2_with fail
      refine HR.out.mono ?_
      rintro e w1 ⟨⟨x, rfl⟩, rfl⟩
      go_wp2
      go_ret
      exact ⟨⟨_, rfl⟩, rfl⟩
/-- A new tree over the device. -/
theorem Tc.new {w w' : World} {rv : Value} (hv : Dv base A db F d w) (hst : S.V.Step F F W0 w) (hb : Below w.heap.size w w') (hrv : rv = .nilIface ∨ ∃ p : C.Ch, rv = p.val ∧ Any w p) {tb : Nat} (htb : w.heap.size ≤ tb) (ht : B.RowAt w' tb #[.pointer (some ⟨db, 0, none⟩), rv] 100) : Tc base A db F d W0 w' tb := by
  refine ⟨hv.below hb, ⟨rv, ht, ?_⟩, hst.trans (S.V.Step.of_below hb), Nat.le_trans hv.env.errs.size htb, Nat.le_trans hst.size htb, fun h => ?_⟩
  · rcases hrv with h | ⟨p, h1, h2⟩
    · exact .inl h
    · exact .inr ⟨p, h1, h2.away (Away.of hb)⟩
  · obtain ⟨d', _, hd⟩ := hv.dev
    have := hd.lt _ h
    omega
set_option maxRecDepth 100000 in
theorem copy_any {w : World} {tb : Nat} (hc : Tc base A db F d W0 w tb) :
    Calls Tryz.prog 21 #[.pointer (some ⟨tb, 0, none⟩)] w fun e w' => ∃ tb', e = .returned (.pointer (some ⟨tb', 0, none⟩)) ∧ Tc base A db F d W0 w' tb' := by
  obtain ⟨rv, ht, hrv⟩ := hc.tr
  have c0 := ht.c0
  have c1 := ht.c1
  have HF := hide (rv_form hrv)
  have HN : Hid (∀ k, Tc base A db F d W0 ((w.drewN k).alloc (.cells #[.pointer (some ⟨db, 0, none⟩), rv] 100)) w.heap.size) := fun k => by
    have hd : Below w.heap.size w (w.drewN k) := below_drewN' (Below.refl _ _) k
    have hb := Below.next hd (below_new (w.drewN k) (.cells #[.pointer (some ⟨db, 0, none⟩), rv] 100))
    exact Tc.new hc.dv hc.st hb hrv (Nat.le_refl _) (B.RowAt.new (w.drewN k) #[.pointer (some ⟨db, 0, none⟩), rv] 100)
  clear hc ht hrv
  rcases HF.out with rfl | ⟨t, x, rfl⟩
  · go_enter Tryz.func21, Tryz.ntmps21
    go_wp2_with fail
    go_region
    all_goals
      go_wp2
      go_ret
      exact ⟨_, rfl, HN.out _⟩
  · go_enter Tryz.func21, Tryz.ntmps21
    go_wp2_with fail
    go_region
    all_goals
      go_wp2
      go_ret
      exact ⟨_, rfl, HN.out _⟩
theorem topen_any {w : World} (m0 root : Int) (m2 : Value) (hv : Dv base A db F d w) (hst : S.V.Step F F W0 w) :
    Calls Tryz.prog 13 #[.pointer (some ⟨db, 0, none⟩), .agg #[.int .i64 m0, .int .i64 root, m2]] w fun e w' => ∃ tb, e = .returned (.pointer (some ⟨tb, 0, none⟩)) ∧ Tc base A db F d W0 w' tb ∧ (root = 0 → B.RowAt w' tb #[.pointer (some ⟨db, 0, none⟩), .nilIface] 100) := by
  have q0 := below_new w (.cells #[.int .i64 m0, .int .i64 root, m2] 42)
  have x0 := B.RowAt.new w #[.int .i64 m0, .int .i64 root, m2] 42
  have k1 := x0.cell 1 (by simp)
  simp only [List.getElem_toArray, List.getElem_cons_zero, List.getElem_cons_succ] at k1
  generalize hW : w.alloc (.cells #[.int .i64 m0, .int .i64 root, m2] 42) = W at *
  have s1 : w.heap.size ≤ W.heap.size := q0.size
  have HN : Hid (∀ rv, (rv = .nilIface ∨ ∃ p : C.Ch, rv = p.val ∧ Any w p) → Tc base A db F d W0 (W.alloc (.cells #[.pointer (some ⟨db, 0, none⟩), rv] 100)) W.heap.size) := fun rv h =>
    Tc.new hv hst (Below.next q0 (below_new W _)) h s1 (B.RowAt.new W #[.pointer (some ⟨db, 0, none⟩), rv] 100)
  have HR : Hid (B.RowAt (W.alloc (.cells #[.pointer (some ⟨db, 0, none⟩), .nilIface] 100)) W.heap.size #[.pointer (some ⟨db, 0, none⟩), .nilIface] 100) := B.RowAt.new W #[.pointer (some ⟨db, 0, none⟩), .nilIface] 100
  clear hv hst q0 x0
  by_cases h0 : root = 0
  · subst h0
    go_enter Tryz.func13, Tryz.ntmps13
    go_wp2_with fail
    refine (rootat_zero _).mono ?_
    rintro e w1 ⟨rfl, rfl⟩
    go_wp2
    go_ret
    exact ⟨_, rfl, HN.out _ (.inl rfl), fun _ => HR.out⟩
  · have H0 := hide h0
    clear h0
    go_enter Tryz.func13, Tryz.ntmps13
    go_wp2_with fail
    refine (rootat_some root _ H0.out).mono ?_
    rintro e w1 ⟨rfl, rfl⟩
    have hva : (C.Ch.pg root).val = .iface 146 (.int .i64 root) := rfl
    rw [hva]
    go_wp2
    go_ret
    exact ⟨_, rfl, HN.out _ (.inr ⟨.pg root, rfl, Any.pg _ _⟩), fun h => absurd h H0.out⟩
end

end Go.Proofs.YtnaedmmfiiebaaaGreatDoor.T

namespace Go.Proofs.YtnaedmmfiiebaaaGreatDoor.T
open Go.RowKit

theorem results_cell_3 {fn : Func} {p u v : Tmp} {t1 : TypeId} (h : fn.results = #[.cell p t1, .tmp u, .tmp v]) (tmps : Array Value) (P : Program) (w : World) :
    (results fn tmps).run P w = ((asAddr (tmps.getD p undef)).run P w).andThen fun a w₁ => ((loadVar t1 a).run P w₁).andThen fun x w₂ => .ok (.tuple #[x, tmps.getD u undef, tmps.getD v undef]) w₂ := by
  simp only [results, h]
  simp [Sem.run_bind, Result.andThen]
theorem results_row_3 {P : Program} {fn : Func} {p u v : Tmp} {ty : TypeId} (h : fn.results = #[.cell p ty, .tmp u, .tmp v]) (tmps : Array Value) (w : World) (g : Nat) (t : TypeId) (cs : Array Value) (fr : Nat × Nat) (d : TypeDesc)
    (hp : tmps.getD p undef = .pointer (some ⟨g, 0, none⟩)) (hg : w.heap[g]? = some (.cells cs t fr)) (hu : P.underlying ty = some d) (hd : (match d with | .struct _ | .array _ _ => true | _ => false) = true) (hi : (P.info? ty).map (·.size) = some cs.size) :
    (results fn tmps).run P w = .ok (.tuple #[.agg cs, tmps.getD u undef, tmps.getD v undef]) w := by
  rw [results_cell_3 h tmps P w, hp]
  simp [asAddr, run_loadVar_row w g t ty cs fr d hg hu hd hi, Result.andThen]
set_option maxRecDepth 100000 in
theorem lastof_none (ev : Value) (hev : ev = .nilIface ∨ ∃ q, ev = .iface 360 (.pointer (some q))) (w : World) :
    Calls Tryz.prog 53 #[.slice none 0 0, ev] w fun e w' => e = .returned (.tuple #[.agg #[.string ⟨#[]⟩, .string ⟨#[]⟩], .bool false, ev]) ∧ Below w.heap.size w w' := by
  have q0 := below_new w (.cells #[.string ⟨#[]⟩, .string ⟨#[]⟩] 52)
  have x0 := B.RowAt.new w #[.string ⟨#[]⟩, .string ⟨#[]⟩] 52
  have HX := hide x0
  have z0 := x0.c0
  have z1 := x0.c1
  have y0 := x0.free 0
  have y1 := x0.free 1
  have HB := hide q0
  clear q0 x0
  rcases hev with rfl | ⟨q, rfl⟩
  · go_enter Tryz.func53, Tryz.ntmps53
    go_wp2_with fail
    refine (pairsat_none _).mono ?_
    rintro e w1 ⟨rfl, rfl⟩
    go_wp2_with fail
    (try simp only [Exit.inBlock, Exit.then])
    exact bodyPost_ret (results_row_3 rfl _ _ w.heap.size 52 _ (0, 0) _ rfl HX.out Tryz.underlying52 rfl (by kernel_rfl)) rfl ⟨rfl, HB.out⟩
  · go_enter Tryz.func53, Tryz.ntmps53
    go_wp2_with fail
    refine (pairsat_none _).mono ?_
    rintro e w1 ⟨rfl, rfl⟩
    go_wp2_with fail
    (try simp only [Exit.inBlock, Exit.then])
    exact bodyPost_ret (results_row_3 rfl _ _ w.heap.size 52 _ (0, 0) _ rfl HX.out Tryz.underlying52 rfl (by kernel_rfl)) rfl ⟨rfl, HB.out⟩
set_option maxRecDepth 100000 in
set_option maxHeartbeats 2000000 in
theorem lastof_some (a : Option Addr) (m c : Nat) (l : List W.Lk) (q : W.Lk) (n : SN) (pv lv cv : Value) (w : World) (hm : m = l.length) (hm2 : m ≤ 100000) (hr : W.LkR w (.slice a (m + 1) c) (l ++ [q])) (hs : SNR w q.1 n pv lv cv) :
    Calls Tryz.prog 53 #[.slice a (m + 1) c, .nilIface] w fun e w' => (∃ k v b, e = .returned (.tuple #[.agg #[.string k, .string v], .bool b, .nilIface])) ∧ Below w.heap.size w w' := by
  have q0 := below_new w (.cells #[.string ⟨#[]⟩, .string ⟨#[]⟩] 52)
  have x0 := B.RowAt.new w #[.string ⟨#[]⟩, .string ⟨#[]⟩] 52
  have HX := hide x0
  have z0 := x0.c0
  have z1 := x0.c1
  have y0 := x0.free 0
  have y1 := x0.free 1
  have HB0 := hide q0
  have HPA := hide (pairsat_some a m c l q n pv lv cv _ hm hm2 (by
    obtain ⟨a', cap, e, hle, hn, hc⟩ := hr
    exact ⟨a', cap, e, hle, hn, fun j hj => by
      obtain ⟨g, o, ha, h1, h2⟩ := hc j hj
      exact ⟨g, o, ha, (q0.cell (p := ⟨g, o + j * 2, none⟩) (World.block_lt_of_cell? w _ h1)).trans h1, (q0.cell (p := ⟨g, o + j * 2 + 1, none⟩) (World.block_lt_of_cell? w _ h2)).trans h2⟩⟩) (hs.below q0))
  have HPR := hide (hs.prs.below q0)
  have HF : Hid (n.ps.length ≤ 4000) := hs.fine.2.1
  obtain ⟨xa, xc, hpf⟩ := hs.prs.form
  subst hpf
  obtain ⟨M, hM⟩ : ∃ M, M = m + 1 := ⟨_, rfl⟩
  rw [← hM] at HPA ⊢
  clear q0 x0 hr hs hm hm2 hM
  obtain ⟨N, hN⟩ : ∃ N, N = n.ps.length := ⟨_, rfl⟩
  have HN := hide hN
  rw [← hN] at HPA HPR HF
  clear hN
  by_cases h0 : N = 0
  · subst h0
    go_enter Tryz.func53, Tryz.ntmps53
    go_wp2_with fail
    refine HPA.out.mono ?_
    rintro e w1 ⟨rfl, rfl⟩
    go_wp2_with fail
    (try simp only [Exit.inBlock, Exit.then])
    exact bodyPost_ret (results_row_3 rfl _ _ w.heap.size 52 _ (0, 0) _ rfl HX.out Tryz.underlying52 rfl (by kernel_rfl)) rfl ⟨⟨_, _, _, rfl⟩, HB0.out⟩
  · have hlt : N - 1 < n.ps.length := by have := HN.out; omega
    obtain ⟨_, _, hvf, _, _, hcell⟩ := HPR.out
    simp only [Value.slice.injEq] at hvf
    obtain ⟨rfl, -, rfl⟩ := hvf
    obtain ⟨g, o, rfl, c1, c2⟩ := hcell (N - 1) hlt
    generalize (n.ps[N - 1]).1 = s1 at c1
    generalize (n.ps[N - 1]).2 = s2 at c2
    obtain ⟨j, rfl⟩ : ∃ j, N = j + 1 := ⟨N - 1, by omega⟩
    rw [Nat.add_sub_cancel] at c1 c2
    have hq0 : (0 : Int) ≤ (j : Int) := by omega
    have hq1 : (j : Int) < (j : Int) + 1 := by omega
    have hq2 : (j : Int) ≤ 4000 := by have := HF.out; omega
    have hq3 : (((j + 1 : Nat) : Int) == 0) = false := by simp; omega
    clear hcell hlt h0
    go_enter Tryz.func53, Tryz.ntmps53
    go_wp2_with fail
    refine HPA.out.mono ?_
    rintro e w1 ⟨rfl, rfl⟩
    go_wp2_with fail
    (try simp only [Exit.inBlock, Exit.then])
    exact bodyPost_ret (results_row_3 rfl _ _ w.heap.size 52 _ (0, 0) _ rfl (B.RowAt.new w #[.string s1, .string s2] 52) Tryz.underlying52 rfl (by kernel_rfl)) rfl ⟨⟨_, _, _, rfl⟩, below_new w _⟩

end Go.Proofs.YtnaedmmfiiebaaaGreatDoor.T

namespace Go.Proofs.YtnaedmmfiiebaaaGreatDoor.T
open Go.RowKit

/-- An append whose run is known, as one step of a region that draws. -/
theorem step_append_run {ops : Array Oper} {o : Oper} {a : Act} {w : World} {K : Act → World → Prop} {Q : Exit → Act → World → Prop} {E : Prop} (t : TypeId) (hgd : o.guard = none) (d x : Operand)
    (ho : o.op = .call { callee := .builtin .append, args := #[d, x], argTypes := #[t, t] }) (hty : o.type = t) (vd vx : Value) (hd : a.eval d = vd) (hx : a.eval x = vx) (v : Value) (w' : World)
    (hrun : (Builtin.append_ #[t, t] t #[vd, vx]).run Tryz.prog w = .ok v w') (h : K (a.put o.dst v) w') : if Region.wanted o (yielded ops a.tmps) = true then Oper.wp Tryz.prog o a w K Q else E := by
  have hw : Region.wanted o (yielded ops a.tmps) = true := by simp [Region.wanted, hgd]
  rw [if_pos hw]
  unfold Oper.wp
  simp [execOp, ho, resolve, invoke, builtin, hd, hx, hty, hrun, Result.andThen]
  exact h
/-- append(way[:i:i], step): a new list. -/
theorem push_cut (g o i n c : Nat) (l : List W.Lk) (p : W.Lk) (w : World) (hr : W.LkR w (.slice (some ⟨g, o, none⟩) n c) l) (hi : i ≤ l.length) (hn : i ≤ 100000) :
    ∃ c' w', (Builtin.append_ #[101, 101] 101 #[.slice (some ⟨g, o, none⟩) i i, .slice (some ⟨w.heap.size, 0, none⟩) 1 1]).run Tryz.prog (w.alloc (.cells #[.pointer (some ⟨p.1, 0, none⟩), .int .i64 p.2] 159)) = .ok (.slice (some ⟨w.heap.size + 1, 0, none⟩) (i + 1) c') w' ∧ StO w' w.heap.size (.slice (some ⟨w.heap.size + 1, 0, none⟩) (i + 1) c') (l.take i ++ [p]) ∧ Below w.heap.size w w' := by
  obtain ⟨i0, hi0, hz, hsz, hby⟩ := info_parts W.infoK
  have hbx := boxed_new w #[.pointer (some ⟨p.1, 0, none⟩), .int .i64 p.2] 159
  have q0 := below_new w (.cells #[.pointer (some ⟨p.1, 0, none⟩), .int .i64 p.2] 159)
  have hnews : ∀ j u, ([.pointer (some ⟨p.1, 0, none⟩), .int .i64 p.2] : List Value)[j]? = some u → (w.alloc (.cells #[.pointer (some ⟨p.1, 0, none⟩), .int .i64 p.2] 159)).cell? ((⟨w.heap.size, 0, none⟩ : Addr).add j) = some u := fun j u hj => by
    rw [add_plain', Nat.zero_add]
    match j, hj with
    | 0, hj => cases hj; exact hbx.2 0 (by simp)
    | 1, hj => cases hj; exact hbx.2 1 (by simp)
  have hlt : (l.take i).length = i := by rw [List.length_take]; omega
  have hlo : (W.lks (l.take i)).length = i * i0.size := by rw [hsz, W.lks_length, hlt]
  have holds : ∀ j u, (W.lks (l.take i))[j]? = some u → (w.alloc (.cells #[.pointer (some ⟨p.1, 0, none⟩), .int .i64 p.2] 159)).cell? ((⟨g, o, none⟩ : Addr).add j) = some u := fun j u hj => by
    have hj' := (List.getElem?_eq_some_iff.1 hj).1
    rw [W.lks_length, hlt] at hj'
    obtain ⟨a', c', he, hle, hnn, hc⟩ := hr
    obtain ⟨g', o', ha, c1, c2⟩ := hc (j / 2) (by omega)
    cases he
    cases ha
    have hg := W.lks_get (l.take i) (j / 2) (by omega)
    rw [List.getElem_take] at hg
    rw [add_plain']
    rcases Nat.mod_two_eq_zero_or_one j with hm | hm
    · have e : j / 2 * 2 = j := by omega
      rw [e] at hg c1
      rw [hg.1] at hj; cases hj
      exact (q0.cell (p := ⟨g, o + j, none⟩) (World.block_lt_of_cell? w _ c1)).trans c1
    · have e : j / 2 * 2 + 1 = j := by omega
      rw [Nat.add_assoc, e] at c2
      rw [e] at hg
      rw [hg.2] at hj; cases hj
      exact (q0.cell (p := ⟨g, o + j, none⟩) (World.block_lt_of_cell? w _ c2)).trans c2
  have hq := run_append_grow (P := Tryz.prog) (w.alloc (.cells #[.pointer (some ⟨p.1, 0, none⟩), .int .i64 p.2] 159)) 101 101 159 i0 _ Tryz.underlying101 hi0 hz ⟨g, o, none⟩ i i (W.lks (l.take i)) hlo holds ⟨w.heap.size, 0, none⟩ 1 1 _ (by rw [hsz]; rfl) hnews (by omega) (by omega) (growslice_fits (by omega) (by rw [hby]; omega))
  have hW1 : (w.alloc (.cells #[.pointer (some ⟨p.1, 0, none⟩), .int .i64 p.2] 159)).heap.size = w.heap.size + 1 := by simp
  obtain ⟨cap, hcap⟩ : ∃ cap, cap = grownCap (w.alloc (.cells #[.pointer (some ⟨p.1, 0, none⟩), .int .i64 p.2] 159)) (i + 1) i 159 := ⟨_, rfl⟩
  have hge : i + 1 ≤ cap := by rw [hcap]; exact grownCap_ge _ _ _ _
  have hle : cap ≤ maxLen := by rw [hcap]; exact grownCap_le_maxLen _ _ _ _ (by unfold maxLen; omega)
  rw [← hcap, hW1] at hq
  generalize hV : w.alloc (.cells #[.pointer (some ⟨p.1, 0, none⟩), .int .i64 p.2] 159) = V at *
  obtain ⟨cur, hcur⟩ : ∃ cur, cur = (W.lks (l.take i)).toArray ++ ([.pointer (some ⟨p.1, 0, none⟩), .int .i64 p.2] : List Value).toArray ++ Builtin.zeroCells (Value.agg #[.pointer none, .int .i64 0]).cells (cap - (i + 1)) := ⟨_, rfl⟩
  rw [← hcur] at hq
  have hnew : (V.drew.alloc (.cells cur 159)).heap[w.heap.size + 1]? = some (.cells cur 159 (0, 0)) := by
    rw [← hW1]
    exact heap_alloc_new V.drew _
  have hlk : W.lks (l.take i ++ [p]) = W.lks (l.take i) ++ [.pointer (some ⟨p.1, 0, none⟩), .int .i64 p.2] := by rw [W.lks_append]; rfl
  refine ⟨cap, _, hq, ⟨⟨by rw [W.lks_length], .inr ⟨w.heap.size + 1, cap, cur, ?_, by omega, hnew, ?_, hle, ?_, ?_⟩⟩, fun g' hg' => ?_⟩, Below.next q0 ⟨rfl, rfl, rfl, by simp, fun k hk => heap_alloc_old V.drew _ hk⟩⟩
  · rw [List.length_append, hlt]; rfl
  · rw [List.length_append, hlt]; exact hge
  · rw [hcur, Array.size_append, Array.size_append, size_zeroCells]
    simp only [List.size_toArray, W.lks_length, hlt, List.length_cons, List.length_nil]
    show i * 2 + (0 + 1 + 1) + (cap - (i + 1)) * 2 = cap * 2
    omega
  · rw [hcur, hlk, List.length_append, hlt]
    simp only [Array.toList_append]
    rw [List.take_left' (by simp only [List.length_append, W.lks_length, hlt, List.length_cons, List.length_nil]; omega)]
  · simp only [Value.ownBlock, Option.some.injEq] at hg'
    subst hg'
    refine ⟨cur, hnew, fun u hu => ?_⟩
    rw [hcur] at hu
    simp only [Array.toList_append, List.mem_append] at hu
    rcases hu with (hu | hu) | hu
    · exact lks_plain (l.take i) u (by simpa using hu)
    · exact lks_plain [p] u (by simpa [W.lks] using hu)
    · exact zero_plain _ u hu

end Go.Proofs.YtnaedmmfiiebaaaGreatDoor.T
