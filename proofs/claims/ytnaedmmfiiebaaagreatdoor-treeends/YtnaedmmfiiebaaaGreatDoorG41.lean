import Derived.Test.YtnaedmmfiiebaaaGreatDoorG40
namespace Go.Proofs.YtnaedmmfiiebaaaGreatDoor.T
open Go.RowKit

theorem dropL_sz (l : List Pr) (key : ByteArray) : szL (dropL l key) ≤ szL l := by
  unfold dropL
  have h1 : szL l = szL (l.take (findN l key)) + szL (l.drop (findN l key)) := by rw [← szL_append, List.take_append_drop]
  have h2 : szL (l.drop (behindN l key)) ≤ szL (l.drop (findN l key)) := by
    unfold behindN
    split
    · have : szL (l.drop (findN l key)) = szL ((l.drop (findN l key)).take 1) + szL ((l.drop (findN l key)).drop 1) := by rw [← szL_append, List.take_append_drop]
      rw [List.drop_drop] at this
      omega
    · exact Nat.le_refl _
  rw [szL_append]
  omega
theorem dropL_may {l : List Pr} {key : ByteArray} (h : ∀ p ∈ l, mayP p = true) : ∀ p ∈ dropL l key, mayP p = true := fun p hp => by
  unfold dropL at hp
  rcases List.mem_append.1 hp with hp | hp
  · exact h p (List.mem_of_mem_take hp)
  · exact h p (List.mem_of_mem_drop hp)
/-- wayTo of a tree of any kind, with the pairs to which it goes. -/
def WayA (A : Nat → Addr) (d : S.V.Dev) (Pk : SN → Nat → Prop) (rv : Value) (bs : Nat) (e : Ending) (w' : World) : Prop :=
  ((∃ t x, rv = .iface t x) ∧ e = .returned (.tuple #[.slice none 0 0, .iface 360 (.pointer (some (A 8)))])) ∨
  (rv = .nilIface ∧ e = .returned (.tuple #[.slice none 0 0, .nilIface])) ∨
  ∃ (ss : List (Stp Unit)) (s : Stp Unit) (a : Option Addr) (c : Nat) (pv lv cv : Value), (∃ t x, rv = .iface t x) ∧ e = .returned (.tuple #[.slice a (ss.length + 1) c, .nilIface]) ∧ StO w' bs (.slice a (ss.length + 1) c) (ss.map Stp.lk ++ [s.lk]) ∧ Way (anyS d) Pk w' () ss s.x ∧ SNR w' s.b s.n pv lv cv ∧ s.n.us.length = 0 ∧ szL s.n.ps ≤ 4072 ∧ s.at' = 0 ∧ ss.length ≤ 63
theorem WayA.of {A : Nat → Addr} {d : S.V.Dev} {Pk : SN → Nat → Prop} {rv : Value} {bs : Nat} {e : Ending} {w' : World} (hr : ∃ t x, rv = .iface t x) (h : DownS (anyS d) Pk A [] () bs e w') : WayA A d Pk rv bs e w' := by
  rcases h with ⟨_, he⟩ | ⟨ss, s, a, c, he, ho, hw, ⟨⟨pv, lv, cv, hs⟩, hn⟩, h0, hat, hl⟩
  · exact .inl ⟨hr, he⟩
  · simp only [List.length_nil, Nat.zero_add, List.nil_append] at he ho hl
    have hf := hn.1.2.1
    rw [SN.sz_leaf h0] at hf
    exact .inr (.inr ⟨ss, s, a, c, pv, lv, cv, hr, he, ho, hw, hs, h0, hf, hat, hl⟩)
section
variable {base : Nat} {A : Nat → Addr} {db : Nat} {F : Nat → Prop} {d : S.V.Dev} {W0 : World}
theorem wayto_any {w w1 : World} {tb : Nat} {rv : Value} (key : ByteArray) (hv0 : Dv base A db F d w) (hm : Mv db F w w1) (hv : Dv base A db F d w1) (ht : B.RowAt w1 tb #[.pointer (some ⟨db, 0, none⟩), rv] 100) (hrv : rv = .nilIface ∨ ∃ p : C.Ch, rv = p.val ∧ Any w1 p) :
    Calls Tryz.prog 46 #[.pointer (some ⟨tb, 0, none⟩), .string key] w1 fun e w' => WayA A d (fun n q => B.PickAt n.lk key q) rv w.heap.size e w' ∧ Dv base A db F d w' ∧ Mv db F w w' := by
  rcases hrv with rfl | ⟨p, rfl, hp⟩
  · refine (wayto_none tb _ key w1 ht).mono fun e w' ⟨he, hb⟩ => ⟨.inr (.inl ⟨rfl, he⟩), hv.below hb, hm.trans (Mv.of hb)⟩
  · refine (wayto_some (anyS d) p () tb key w w1 hp ht hv hm hv0 (.inl trivial)).mono fun e w' ⟨h1, h2, h3⟩ => ⟨WayA.of (val_form p) h1, h2, h3⟩

set_option maxRecDepth 100000 in
set_option maxHeartbeats 4000000 in
theorem put_any {w : World} {tb : Nat} (key value : ByteArray) (hc : Tc base A db F d W0 w tb) (hkl : key.size ≤ 140737488355328) (hvl : value.size ≤ 140737488355328) :
    Calls Tryz.prog 15 #[.pointer (some ⟨tb, 0, none⟩), .string key, .string value] w fun e w' => (∃ ev, e = .returned ev ∧ ErrV A ev ∧ (mayP (key, value) = true → B.RowAt w tb #[.pointer (some ⟨db, 0, none⟩), .nilIface] 100 → ev = .nilIface)) ∧ Tc base A db F d W0 w' tb := by
  have HPF := hide (pfault_any A key value w hkl hvl hc.dv.errC)
  obtain ⟨rv, ht, hrv⟩ := hc.tr
  have HRN : Hid (B.RowAt w tb #[.pointer (some ⟨db, 0, none⟩), .nilIface] 100 → rv = .nilIface) := fun h => by
    unfold B.RowAt at ht h
    rw [ht] at h
    simpa using h
  have HC := hide hc
  have HT := hide ht
  have HRV := hide hrv
  clear hc ht hrv
  by_cases hm : mayP (key, value) = true
  · rw [if_pos hm] at HPF
    have hmp := may_parts' hm
    have HM := hide hm
    clear hkl hvl hm
    go_enter Tryz.func15, Tryz.ntmps15
    go_wp2_with fail
    refine HPF.out.mono ?_
    rintro e w1 ⟨rfl, hb1⟩
    have HB1 := hide hb1
    have HWT := hide (wayto_any key HC.out.dv (Mv.of hb1) (HC.out.dv.below hb1) (HT.out.below hb1) (by
      rcases HRV.out with h | ⟨p, h, hp⟩
      · exact .inl h
      · exact .inr ⟨p, h, hp.away (Away.of hb1)⟩))
    clear hb1 HPF
    go_wp2_with fail
    refine HWT.out.mono ?_
    rintro e w2 ⟨hwa, hv2, hm2⟩
    have HV2 := hide hv2
    have HM2 := hide hm2
    have HTC2 := hide (HC.out.mv hm2 hv2)
    have HT2 := hide (tree_away (hm2.away HC.out.dv) HT.out)
    rcases hwa with ⟨⟨rt, rx, hrr⟩, rfl⟩ | ⟨hrn, rfl⟩ | ⟨ss, s, a, c, pv, lv, cv, ⟨rt, rx, hrr⟩, rfl, ho, hway, hs, h0, hsz, hat, hl⟩
    · have HNN : Hid (¬ rv = .nilIface) := fun h => by rw [hrr] at h; cases h
      clear hrr hv2 hm2 HWT
      go_wp2
      go_ret
      exact ⟨⟨_, rfl, .inr (.inr rfl), fun _ h => absurd (HRN.out h) HNN.out⟩, HTC2.out⟩
    · subst hrn
      clear hv2 hm2 HWT
      go_wp2_with fail
      refine (pairsat_none w2).mono ?_
      rintro e w2' ⟨rfl, rfl⟩
      go_wp2_with fail
      refine (sclone_any key w2 (by omega)).mono ?_
      rintro e w3 ⟨rfl, hb3⟩
      have HB3 := hide hb3
      clear hb3
      go_wp2_with fail
      refine (sclone_any value w3 (by omega)).mono ?_
      rintro e w4 ⟨rfl, hb4⟩
      have HB4 := hide (Below.next HB3.out hb4)
      clear hb4
      go_wp2_with fail
      refine (lset_any (.slice none 0 0) [] key value w4 (by simp) (PrR.nil _)).mono ?_
      rintro e w5 ⟨u, rfl, hu, hb5⟩
      have HB5 := hide (Below.next HB4.out hb5)
      have HCH := hide (change_none HC.out (HM2.out.trans (Mv.of HB5.out)) (HV2.out.below HB5.out) (HT2.out.below HB5.out) hu.at (setL_may (by intro p hp; simp at hp) HM.out) (by
        have := setL_sz [] key value
        have : szP (key, value) ≤ 960 := by have g1 : key.size ≤ 255 := hmp.2.1; have g2 : value.size ≤ 700 := hmp.2.2; unfold szP; dsimp only; omega
        have e : szL [] = 0 := rfl
        omega))
      obtain ⟨ua, uc, huf⟩ := hu.form
      subst huf
      clear hu hb5
      go_wp2_with fail
      refine HCH.out.mono ?_
      rintro e w6 ⟨rfl, htc⟩
      have HTC := hide htc
      clear htc HCH
      go_wp2
      go_ret
      exact ⟨⟨_, rfl, .inl rfl, fun _ _ => rfl⟩, HTC.out⟩
    · have HNN : Hid (rv = .nilIface ∨ ∃ t x, rv = .iface t x) := rv_form HRV.out
      have HO := hide ho
      have HW := hide hway
      have HS := hide hs
      have HSZ := hide hsz
      have HL := hide hl
      have HNR : Hid (¬ rv = .nilIface) := fun h => by rw [hrr] at h; cases h
      have HPA := hide (pairsat_some a ss.length c (ss.map Stp.lk) s.lk s.n pv lv cv w2 (by rw [List.length_map]) (by omega) ho.1.at hs)
      have HPR := hide hs.prs
      have HPM := hide hs.fine.1
      obtain ⟨m, hmm⟩ : ∃ m, m = ss.length := ⟨_, rfl⟩
      have HMM := hide hmm
      rw [← hmm] at HPA HO HL ⊢
      obtain ⟨xa, xc, hpf⟩ := hs.prs.form
      subst hpf
      clear ho hway hs h0 hsz hat hl hv2 hm2 HWT hmm hrr
      go_wp2_with fail
      refine HPA.out.mono ?_
      rintro e w2' ⟨rfl, rfl⟩
      go_wp2_with fail
      refine (sclone_any key w2 (by omega)).mono ?_
      rintro e w3 ⟨rfl, hb3⟩
      have HB3 := hide hb3
      clear hb3
      go_wp2_with fail
      refine (sclone_any value w3 (by omega)).mono ?_
      rintro e w4 ⟨rfl, hb4⟩
      have HB4 := hide (Below.next HB3.out hb4)
      clear hb4
      go_wp2_with fail
      refine (lset_any _ s.n.ps key value w4 (by have := szL_len s.n.ps; have := HSZ.out; omega) (HPR.out.below HB4.out)).mono ?_
      rintro e w5 ⟨u, rfl, hu, hb5⟩
      have HB5 := hide (Below.next HB4.out hb5)
      have hch := change_any (s := s) HC.out (HM2.out.trans (Mv.of HB5.out)) (HV2.out.below HB5.out) (HT2.out.below HB5.out) HNN.out (by have := HL.out; have := HMM.out; omega) (by rw [← HMM.out]; exact HO.out.below HB5.out) (HW.out.away (Away.of HB5.out)) hu.at (setL_may HPM.out HM.out) (by
        have := setL_sz s.n.ps key value
        have := HSZ.out
        have : szP (key, value) ≤ 960 := by have g1 : key.size ≤ 255 := hmp.2.1; have g2 : value.size ≤ 700 := hmp.2.2; unfold szP; dsimp only; omega
        omega)
      rw [← HMM.out] at hch
      have HCH := hide hch
      obtain ⟨ua, uc, huf⟩ := hu.form
      subst huf
      clear hu hb5 hch
      go_wp2_with fail
      refine HCH.out.mono ?_
      rintro e w6 ⟨⟨ev, rfl, hev⟩, htc⟩
      have HTC := hide htc
      have HEV := hide hev
      have hef := hev.form
      clear htc HCH hev
      rcases hef with rfl | ⟨q, rfl⟩
      · go_wp2
        go_ret
        exact ⟨⟨_, rfl, HEV.out, fun _ h => absurd (HRN.out h) HNR.out⟩, HTC.out⟩
      · go_wp2
        go_ret
        exact ⟨⟨_, rfl, HEV.out, fun _ h => absurd (HRN.out h) HNR.out⟩, HTC.out⟩
  · rw [if_neg hm] at HPF
    have HM := hide hm
    clear hkl hvl hm
    go_enter Tryz.func15, Tryz.ntmps15
    go_wp2_with fail
    refine HPF.out.mono ?_
    rintro e w1 ⟨rfl, hb1⟩
    have HTC := hide (HC.out.below hb1)
    clear hb1 HPF
    go_wp2
    go_ret
    exact ⟨⟨_, rfl, .inr (.inl rfl), fun h _ => absurd h HM.out⟩, HTC.out⟩
end

end Go.Proofs.YtnaedmmfiiebaaaGreatDoor.T

namespace Go.Proofs.YtnaedmmfiiebaaaGreatDoor.T
open Go.RowKit

section
variable {base : Nat} {A : Nat → Addr} {db : Nat} {F : Nat → Prop} {d : S.V.Dev} {W0 : World}

set_option maxRecDepth 100000 in
set_option maxHeartbeats 4000000 in
theorem del_any {w : World} {tb : Nat} (key : ByteArray) (hc : Tc base A db F d W0 w tb) (hkl : key.size ≤ 140737488355328) :
    Calls Tryz.prog 16 #[.pointer (some ⟨tb, 0, none⟩), .string key] w fun e w' => (∃ b ev, e = .returned (.tuple #[.bool b, ev]) ∧ ErrV A ev) ∧ Tc base A db F d W0 w' tb := by
  have HPF := hide (pfault_any A key ⟨#[]⟩ w hkl (by simp [ByteArray.size]) hc.dv.errC)
  obtain ⟨rv, ht, hrv⟩ := hc.tr
  have HC := hide hc
  have HT := hide ht
  have HRV := hide hrv
  clear hc ht hrv
  by_cases hm : mayP (key, ⟨#[]⟩) = true
  · rw [if_pos hm] at HPF
    have HM := hide hm
    clear hkl hm
    go_enter Tryz.func16, Tryz.ntmps16
    go_wp2_with fail
    refine HPF.out.mono ?_
    rintro e w1 ⟨rfl, hb1⟩
    have HB1 := hide hb1
    have HWT := hide (wayto_any key HC.out.dv (Mv.of hb1) (HC.out.dv.below hb1) (HT.out.below hb1) (by
      rcases HRV.out with h | ⟨p, h, hp⟩
      · exact .inl h
      · exact .inr ⟨p, h, hp.away (Away.of hb1)⟩))
    clear hb1 HPF
    go_wp2_with fail
    refine HWT.out.mono ?_
    rintro e w2 ⟨hwa, hv2, hm2⟩
    have HV2 := hide hv2
    have HM2 := hide hm2
    have HTC2 := hide (HC.out.mv hm2 hv2)
    have HT2 := hide (tree_away (hm2.away HC.out.dv) HT.out)
    rcases hwa with ⟨⟨rt, rx, hrr⟩, rfl⟩ | ⟨hrn, rfl⟩ | ⟨ss, s, a, c, pv, lv, cv, ⟨rt, rx, hrr⟩, rfl, ho, hway, hs, h0, hsz, hat, hl⟩
    · clear hrr hv2 hm2 HWT
      go_wp2
      go_ret2
      exact ⟨⟨_, _, rfl, .inr (.inr rfl)⟩, HTC2.out⟩
    · subst hrn
      clear hv2 hm2 HWT
      go_wp2_with fail
      refine (pairsat_none w2).mono ?_
      rintro e w2' ⟨rfl, rfl⟩
      go_wp2_with fail
      refine (ldrop_any (.slice none 0 0) [] key w2 (by simp) (PrR.nil _)).mono ?_
      rintro e w5 ⟨u, rfl, hu, hb5⟩
      rw [show foundB [] key = false from rfl]
      have HTC := hide (HTC2.out.below hb5)
      obtain ⟨ua, uc, huf⟩ := hu.form
      subst huf
      clear hu hb5
      go_wp2
      go_ret2
      exact ⟨⟨_, _, rfl, .inl rfl⟩, HTC.out⟩
    · have HNN : Hid (rv = .nilIface ∨ ∃ t x, rv = .iface t x) := rv_form HRV.out
      have HO := hide ho
      have HW := hide hway
      have HS := hide hs
      have HSZ := hide hsz
      have HL := hide hl
      have HPA := hide (pairsat_some a ss.length c (ss.map Stp.lk) s.lk s.n pv lv cv w2 (by rw [List.length_map]) (by omega) ho.1.at hs)
      have HPR := hide hs.prs
      have HPM := hide hs.fine.1
      obtain ⟨m, hmm⟩ : ∃ m, m = ss.length := ⟨_, rfl⟩
      have HMM := hide hmm
      rw [← hmm] at HPA HO HL ⊢
      obtain ⟨xa, xc, hpf⟩ := hs.prs.form
      subst hpf
      clear ho hway hs h0 hsz hat hl hv2 hm2 HWT hmm hrr
      go_wp2_with fail
      refine HPA.out.mono ?_
      rintro e w2' ⟨rfl, rfl⟩
      go_wp2_with fail
      refine (ldrop_any _ s.n.ps key w2 (by have := szL_len s.n.ps; have := HSZ.out; omega) HPR.out).mono ?_
      rintro e w5 ⟨u, rfl, hu, hb5⟩
      have HB5 := hide hb5
      have hch := change_any (s := s) HC.out (HM2.out.trans (Mv.of HB5.out)) (HV2.out.below HB5.out) (HT2.out.below HB5.out) HNN.out (by have := HL.out; have := HMM.out; omega) (by rw [← HMM.out]; exact HO.out.below HB5.out) (HW.out.away (Away.of HB5.out)) hu.at (dropL_may HPM.out) (by
        have := dropL_sz s.n.ps key
        have := HSZ.out
        omega)
      rw [← HMM.out] at hch
      have HCH := hide hch
      have HTC := hide (HTC2.out.below hb5)
      obtain ⟨ua, uc, huf⟩ := hu.form
      subst huf
      clear hu hb5 hch
      cases hfb : foundB s.n.ps key with
      | false =>
        go_wp2
        go_ret2
        exact ⟨⟨_, _, rfl, .inl rfl⟩, HTC.out⟩
      | true =>
        go_wp2_with fail
        refine HCH.out.mono ?_
        rintro e w6 ⟨⟨ev, rfl, hev⟩, htc⟩
        have HTC6 := hide htc
        have HEV := hide hev
        have hef := hev.form
        clear htc HCH hev
        rcases hef with rfl | ⟨q, rfl⟩
        · go_wp2
          go_ret2
          exact ⟨⟨_, _, rfl, HEV.out⟩, HTC6.out⟩
        · go_wp2
          go_ret2
          exact ⟨⟨_, _, rfl, HEV.out⟩, HTC6.out⟩
  · rw [if_neg hm] at HPF
    have HM := hide hm
    clear hkl hm
    go_enter Tryz.func16, Tryz.ntmps16
    go_wp2_with fail
    refine HPF.out.mono ?_
    rintro e w1 ⟨rfl, hb1⟩
    have HTC := hide (HC.out.below hb1)
    clear hb1 HPF
    go_wp2
    go_ret2
    exact ⟨⟨_, _, rfl, .inr (.inl rfl)⟩, HTC.out⟩

set_option maxRecDepth 100000 in
set_option maxHeartbeats 4000000 in
theorem get_any {w : World} {tb : Nat} (key : ByteArray) (hc : Tc base A db F d W0 w tb) (hkl : key.size ≤ 140737488355328) :
    Calls Tryz.prog 17 #[.pointer (some ⟨tb, 0, none⟩), .string key] w fun e w' => (∃ v b ev, e = .returned (.tuple #[.string v, .bool b, ev]) ∧ ErrV A ev) ∧ Tc base A db F d W0 w' tb := by
  have HPF := hide (pfault_any A key ⟨#[]⟩ w hkl (by simp [ByteArray.size]) hc.dv.errC)
  obtain ⟨rv, ht, hrv⟩ := hc.tr
  have HC := hide hc
  have HT := hide ht
  have HRV := hide hrv
  clear hc ht hrv
  by_cases hm : mayP (key, ⟨#[]⟩) = true
  · rw [if_pos hm] at HPF
    have HM := hide hm
    clear hkl hm
    go_enter Tryz.func17, Tryz.ntmps17
    go_wp2_with fail
    refine HPF.out.mono ?_
    rintro e w1 ⟨rfl, hb1⟩
    have HB1 := hide hb1
    have HWT := hide (wayto_any key HC.out.dv (Mv.of hb1) (HC.out.dv.below hb1) (HT.out.below hb1) (by
      rcases HRV.out with h | ⟨p, h, hp⟩
      · exact .inl h
      · exact .inr ⟨p, h, hp.away (Away.of hb1)⟩))
    clear hb1 HPF
    go_wp2_with fail
    refine HWT.out.mono ?_
    rintro e w2 ⟨hwa, hv2, hm2⟩
    have HV2 := hide hv2
    have HM2 := hide hm2
    have HTC2 := hide (HC.out.mv hm2 hv2)
    have HT2 := hide (tree_away (hm2.away HC.out.dv) HT.out)
    rcases hwa with ⟨⟨rt, rx, hrr⟩, rfl⟩ | ⟨hrn, rfl⟩ | ⟨ss, s, a, c, pv, lv, cv, ⟨rt, rx, hrr⟩, rfl, ho, hway, hs, h0, hsz, hat, hl⟩
    · clear hrr hv2 hm2 HWT
      go_wp2
      go_ret3
      exact ⟨⟨_, _, _, rfl, .inr (.inr rfl)⟩, HTC2.out⟩
    · subst hrn
      clear hv2 hm2 HWT
      go_wp2_with fail
      refine (pairsat_none w2).mono ?_
      rintro e w2' ⟨rfl, rfl⟩
      go_wp2_with fail
      refine (lfind_any (.slice none 0 0) [] key w2 (by simp) (PrR.nil _)).mono ?_
      rintro e w5 ⟨rfl, hb5⟩
      rw [show foundB [] key = false from rfl, show findN [] key = 0 from rfl]
      have HTC := hide (HTC2.out.below hb5)
      clear hb5
      go_wp2
      go_ret3
      exact ⟨⟨_, _, _, rfl, .inl rfl⟩, HTC.out⟩
    · have HNN : Hid (rv = .nilIface ∨ ∃ t x, rv = .iface t x) := rv_form HRV.out
      have HO := hide ho
      have HW := hide hway
      have HS := hide hs
      have HSZ := hide hsz
      have HL := hide hl
      have HPA := hide (pairsat_some a ss.length c (ss.map Stp.lk) s.lk s.n pv lv cv w2 (by rw [List.length_map]) (by omega) ho.1.at hs)
      have HPR := hide hs.prs
      have HPM := hide hs.fine.1
      obtain ⟨m, hmm⟩ : ∃ m, m = ss.length := ⟨_, rfl⟩
      have HMM := hide hmm
      rw [← hmm] at HPA HO HL ⊢
      obtain ⟨xa, xc, hpf⟩ := hs.prs.form
      subst hpf
      clear ho hway hs h0 hsz hat hl hv2 hm2 HWT hmm hrr
      go_wp2_with fail
      refine HPA.out.mono ?_
      rintro e w2' ⟨rfl, rfl⟩
      go_wp2_with fail
      refine (lfind_any _ s.n.ps key w2 (by have := szL_len s.n.ps; have := HSZ.out; omega) HPR.out).mono ?_
      rintro e w5 ⟨rfl, hb5⟩
      have HTC := hide (HTC2.out.below hb5)
      have HPR5 := hide (HPR.out.below hb5)
      clear hb5
      cases hfb : foundB s.n.ps key with
      | false =>
        go_wp2
        go_ret3
        exact ⟨⟨_, _, _, rfl, .inl rfl⟩, HTC.out⟩
      | true =>
        have hlt := foundB_lt hfb
        obtain ⟨_, _, hvf, _, _, hcell⟩ := HPR5.out
        simp only [Value.slice.injEq] at hvf
        obtain ⟨rfl, -, rfl⟩ := hvf
        obtain ⟨g, o, rfl, c1, c2⟩ := hcell (findN s.n.ps key) hlt
        have hq0 : (0 : Int) ≤ (findN s.n.ps key : Int) := by omega
        have hq1 : (findN s.n.ps key : Int) < (s.n.ps.length : Int) := by omega
        generalize (s.n.ps[findN s.n.ps key]).2 = val at c2
        generalize findN s.n.ps key = fq at *
        clear hcell hlt c1
        go_wp2
        go_ret3
        exact ⟨⟨_, _, _, rfl, .inl rfl⟩, HTC.out⟩
  · rw [if_neg hm] at HPF
    have HM := hide hm
    clear hkl hm
    go_enter Tryz.func17, Tryz.ntmps17
    go_wp2_with fail
    refine HPF.out.mono ?_
    rintro e w1 ⟨rfl, hb1⟩
    have HTC := hide (HC.out.below hb1)
    clear hb1 HPF
    go_wp2
    go_ret3
    exact ⟨⟨_, _, _, rfl, .inr (.inl rfl)⟩, HTC.out⟩
end

end Go.Proofs.YtnaedmmfiiebaaaGreatDoor.T

namespace Go.Proofs.YtnaedmmfiiebaaaGreatDoor.T
open Go.RowKit

section
variable {base : Nat} {A : Nat → Addr} {db : Nat} {F : Nat → Prop} {d : S.V.Dev} {W0 : World}
theorem wayfirst_any {w w1 : World} {tb : Nat} {rv : Value} (hv0 : Dv base A db F d w) (hm : Mv db F w w1) (hv : Dv base A db F d w1) (ht : B.RowAt w1 tb #[.pointer (some ⟨db, 0, none⟩), rv] 100) (hrv : rv = .nilIface ∨ ∃ p : C.Ch, rv = p.val ∧ Any w1 p) :
    Calls Tryz.prog 54 #[.pointer (some ⟨tb, 0, none⟩), .func (.func 57) #[] #[]] w1 fun e w' => WayA A d (fun _ q => q = 0) rv w.heap.size e w' ∧ Dv base A db F d w' ∧ Mv db F w w' := by
  rcases hrv with rfl | ⟨p, rfl, hp⟩
  · refine (way_none _ ⟨_, _, _, rfl⟩ tb _ w1 ht).mono fun e w' ⟨he, hw⟩ => ?_
    subst hw
    exact ⟨.inr (.inl ⟨rfl, he⟩), hv, hm⟩
  · refine (way_first (anyS d) (fun _ q => q = 0) (fun _ => True) (fun _ _ _ h => h) p () tb w w1 hp ht hv hm hv0 trivial (.inl trivial) (fun W b n pv lv cv y _ hs hn hnl => ?_)).mono fun e w' ⟨h1, h2, h3⟩ => ⟨WayA.of (val_form p) h1, h2, h3⟩
    exact (tfirst_any n lv W).mono fun e w' ⟨he, hb⟩ => ⟨0, he, rfl, by omega, hb⟩
theorem waylast_any {w w1 : World} {tb : Nat} {rv : Value} (hv0 : Dv base A db F d w) (hm : Mv db F w w1) (hv : Dv base A db F d w1) (ht : B.RowAt w1 tb #[.pointer (some ⟨db, 0, none⟩), rv] 100) (hrv : rv = .nilIface ∨ ∃ p : C.Ch, rv = p.val ∧ Any w1 p) :
    Calls Tryz.prog 54 #[.pointer (some ⟨tb, 0, none⟩), .func (.func 55) #[] #[]] w1 fun e w' => WayA A d (fun n q => q = n.lk.length) rv w.heap.size e w' ∧ Dv base A db F d w' ∧ Mv db F w w' := by
  rcases hrv with rfl | ⟨p, rfl, hp⟩
  · refine (way_none _ ⟨_, _, _, rfl⟩ tb _ w1 ht).mono fun e w' ⟨he, hw⟩ => ?_
    subst hw
    exact ⟨.inr (.inl ⟨rfl, he⟩), hv, hm⟩
  · refine (way_last (anyS d) (fun n q => q = n.lk.length) (fun _ => True) (fun _ _ _ h => h) p () tb w w1 hp ht hv hm hv0 trivial (.inl trivial) (fun W b n pv lv cv y _ hs hn hnl => ?_)).mono fun e w' ⟨h1, h2, h3⟩ => ⟨WayA.of (val_form p) h1, h2, h3⟩
    have hk := ((anyS d).fit hn).1.resolve_left hnl
    exact (tlast_any n lv W hs.lks).mono fun e w' ⟨he, hb⟩ => ⟨n.lk.length, he, rfl, by omega, hb⟩
theorem WayA.form {Pk : SN → Nat → Prop} {rv : Value} {bs : Nat} {e : Ending} {w' : World} (h : WayA A d Pk rv bs e w') : ∃ a n c v, e = .returned (.tuple #[.slice a n c, v]) ∧ (v = .nilIface ∨ v = .iface 360 (.pointer (some (A 8)))) := by
  rcases h with ⟨_, rfl⟩ | ⟨_, rfl⟩ | ⟨ss, s, a, c, pv, lv, cv, _, rfl, _⟩
  · exact ⟨_, _, _, _, rfl, .inr rfl⟩
  · exact ⟨_, _, _, _, rfl, .inl rfl⟩
  · exact ⟨_, _, _, _, rfl, .inl rfl⟩
theorem depth_any {w : World} {tb : Nat} (hc : Tc base A db F d W0 w tb) :
    Calls Tryz.prog 19 #[.pointer (some ⟨tb, 0, none⟩)] w fun e w' => (∃ n ev, e = .returned (.tuple #[.int .i64 n, ev]) ∧ ErrV A ev) ∧ Tc base A db F d W0 w' tb := by
  obtain ⟨rv, ht, hrv⟩ := hc.tr
  have HW := hide (wayfirst_any hc.dv (Mv.refl _ _ _) hc.dv ht hrv)
  have HC := hide hc
  clear hc ht hrv
  go_enter Tryz.func19, Tryz.ntmps19
  go_wp2_with fail
  refine HW.out.mono ?_
  rintro e w1 ⟨hwa, hv1, hm1⟩
  have HTC := hide (HC.out.mv hm1 hv1)
  obtain ⟨a, n, c, v, he, hvv⟩ := hwa.form
  subst he
  clear hwa hv1 hm1 HW
  rcases hvv with rfl | rfl
  · go_wp2
    go_ret2
    exact ⟨⟨_, _, rfl, .inl rfl⟩, HTC.out⟩
  · go_wp2
    go_ret2
    exact ⟨⟨_, _, rfl, .inr (.inr rfl)⟩, HTC.out⟩
end
theorem pgch_any (id : Int) (w : World) : Calls Tryz.prog 289 #[.int .i64 id] w fun e w' => e = .returned (.int .i64 0) ∧ w = w' := by
  go_enter Tryz.func289, Tryz.ntmps289
  go_wp2
  go_ret
  exact ⟨rfl, rfl⟩
set_option maxRecDepth 100000 in
set_option maxHeartbeats 4000000 in
theorem ndch_any : ∀ (k : Nat) (b : Nat) (w : World), AnyK w k (.nd b) → Calls Tryz.prog 290 #[.pointer (some ⟨b, 0, none⟩)] w fun e w' => (∃ i, e = .returned (.int .i64 i)) ∧ w = w'
  | 0, _, _, h => h.elim
  | k + 1, b, w, ⟨n, pv, lv, cv, hs, hf, hkids⟩ => by
    have p3 := hs.c3
    obtain ⟨ca, cc, hcf, -, -, hcell⟩ := hs.kids
    rw [C.lks_length, Nat.mul_one] at hcf
    subst hcf
    have HCELL := hide hcell
    have HK := hide hkids
    have HL : Hid (n.us.length ≤ 4001) := hs.fine.2.2.2.2
    clear hs hf hkids hcell
    go_enter Tryz.func290, Tryz.ntmps290
    go_wp2
    go_loopw [3, 11] (fun cv iv wr => ∃ (c : Int) (i : Nat), cv = .int .i64 c ∧ iv = .int .i64 (i : Int) ∧ i ≤ n.us.length ∧ w = wr) (fun _ iv _ => n.us.length - (intOf iv).toNat)
    case atStart => exact ⟨1, 0, rfl, rfl, Nat.zero_le _, rfl⟩
    case round =>
      obtain ⟨c, i, rfl, rfl, hi, rfl⟩ := hrel
      by_cases hlt : i < n.us.length
      · obtain ⟨g, o, rfl, c1⟩ := HCELL.out i _ (C.lks_get n.us i hlt)
        have hI0 : (0 : Int) ≤ (i : Int) := by omega
        have hI1 : (i : Int) < (n.us.length : Int) := by omega
        have hI2 : (n.us.length : Int) ≤ 4001 := by have := HL.out; omega
        have hkd := HK.out n.us[i] (List.getElem_mem hlt)
        generalize n.us[i] = p at *
        clear HCELL HK
        cases p with
        | pg id =>
          have c1' : w.cell? ⟨g, o + i, none⟩ = some (.iface 146 (.int .i64 id)) := c1
          clear c1 hkd
          go_wp2_with fail
          refine (pgch_any id w).mono ?_
          rintro e w1 ⟨rfl, rfl⟩
          go_wp2
          go_roundw
          case rel => exact ⟨_, i + 1, rfl, by go_num, hlt, trivial⟩
          case measure => simp [intOf]; omega
        | nd b2 =>
          have c1' : w.cell? ⟨g, o + i, none⟩ = some (.iface 152 (.pointer (some ⟨b2, 0, none⟩))) := c1
          have HR := hide (ndch_any k b2 w hkd)
          clear c1 hkd
          go_wp2_with fail
          refine HR.out.mono ?_
          rintro e w1 ⟨⟨x, rfl⟩, rfl⟩
          go_wp2
          go_roundw
          case rel => exact ⟨_, i + 1, rfl, by go_num, hlt, trivial⟩
          case measure => simp [intOf]; omega
      · have hI1 : ¬ (i : Int) < (n.us.length : Int) := by omega
        go_wp2
        go_ret
        exact ⟨⟨_, rfl⟩, rfl⟩

section
variable {base : Nat} {A : Nat → Addr} {db : Nat} {F : Nat → Prop} {d : S.V.Dev} {W0 : World}
set_option maxRecDepth 100000 in
theorem changed_any {w : World} {tb : Nat} (hc : Tc base A db F d W0 w tb) :
    Calls Tryz.prog 20 #[.pointer (some ⟨tb, 0, none⟩)] w fun e w' => (∃ n, e = .returned (.int .i64 n)) ∧ w = w' := by
  obtain ⟨rv, ht, hrv⟩ := hc.tr
  have c1 := ht.c1
  clear ht hc
  rcases hrv with rfl | ⟨p, rfl, k, hp⟩
  · have hn := fun W => eql_nil_nil W
    go_enter Tryz.func20, Tryz.ntmps20
    go_wp2
    go_ret
    exact ⟨⟨_, rfl⟩, rfl⟩
  · cases p with
    | pg id =>
      have c1' : w.cell? ⟨tb, 1, none⟩ = some (.iface 146 (.int .i64 id)) := c1
      have hn := fun W => eql_ch_nil 146 (.int .i64 id) W
      clear c1 hp
      go_enter Tryz.func20, Tryz.ntmps20
      go_wp2_with fail
      refine (pgch_any id w).mono ?_
      rintro e w1 ⟨rfl, rfl⟩
      go_wp2
      go_ret
      exact ⟨⟨_, rfl⟩, rfl⟩
    | nd b =>
      have c1' : w.cell? ⟨tb, 1, none⟩ = some (.iface 152 (.pointer (some ⟨b, 0, none⟩))) := c1
      have hn := fun W => eql_ch_nil 152 (.pointer (some ⟨b, 0, none⟩)) W
      have HR := hide (ndch_any k b w hp)
      clear c1 hp
      go_enter Tryz.func20, Tryz.ntmps20
      go_wp2_with fail
      refine HR.out.mono ?_
      rintro e w1 ⟨⟨x, rfl⟩, rfl⟩
      go_wp2
      go_ret
      exact ⟨⟨_, rfl⟩, rfl⟩
/-- A new tree over the device. -/
theorem Tc.new {w w' : World} {rv : Value} (hv : Dv base A db F d w) (hst : S.V.Step F F W0 w) (hb : Below w.heap.size w w') (hrv : rv = .nilIface ∨ ∃ p : C.Ch, rv = p.val ∧ Any w p) {tb : Nat} (htb : w.heap.size ≤ tb) (ht : B.RowAt w' tb #[.pointer (some ⟨db, 0, none⟩), rv] 100) : Tc base A db F d W0 w' tb := by
  refine ⟨hv.below hb, ⟨rv, ht, ?_⟩, hst.trans (S.V.Step.of_below hb), Nat.le_trans hv.env.errs.size htb, Nat.le_trans hst.size htb, fun h => ?_⟩
  · rcases hrv with h | ⟨p, h1, h2⟩
    · exact .inl h
    · exact .inr ⟨p, h1, h2.away (Away.of hb)⟩
  · obtain ⟨d', _, hd⟩ := hv.dev
    have := hd.lt _ h
    omega
set_option maxRecDepth 100000 in
theorem copy_any {w : World} {tb : Nat} (hc : Tc base A db F d W0 w tb) :
    Calls Tryz.prog 21 #[.pointer (some ⟨tb, 0, none⟩)] w fun e w' => ∃ tb', e = .returned (.pointer (some ⟨tb', 0, none⟩)) ∧ Tc base A db F d W0 w' tb' := by
  obtain ⟨rv, ht, hrv⟩ := hc.tr
  have c0 := ht.c0
  have c1 := ht.c1
  have HF := hide (rv_form hrv)
  have HN : Hid (∀ k, Tc base A db F d W0 ((w.drewN k).alloc (.cells #[.pointer (some ⟨db, 0, none⟩), rv] 100)) w.heap.size) := fun k => by
    have hd : Below w.heap.size w (w.drewN k) := below_drewN' (Below.refl _ _) k
    have hb := Below.next hd (below_new (w.drewN k) (.cells #[.pointer (some ⟨db, 0, none⟩), rv] 100))
    exact Tc.new hc.dv hc.st hb hrv (Nat.le_refl _) (B.RowAt.new (w.drewN k) #[.pointer (some ⟨db, 0, none⟩), rv] 100)
  clear hc ht hrv
  rcases HF.out with rfl | ⟨t, x, rfl⟩
  · go_enter Tryz.func21, Tryz.ntmps21
    go_wp2_with fail
    go_region
    all_goals
      go_wp2
      go_ret
      exact ⟨_, rfl, HN.out _⟩
  · go_enter Tryz.func21, Tryz.ntmps21
    go_wp2_with fail
    go_region
    all_goals
      go_wp2
      go_ret
      exact ⟨_, rfl, HN.out _⟩
theorem topen_any {w : World} (m0 root : Int) (m2 : Value) (hv : Dv base A db F d w) (hst : S.V.Step F F W0 w) :
    Calls Tryz.prog 13 #[.pointer (some ⟨db, 0, none⟩), .agg #[.int .i64 m0, .int .i64 root, m2]] w fun e w' => ∃ tb, e = .returned (.pointer (some ⟨tb, 0, none⟩)) ∧ Tc base A db F d W0 w' tb ∧ (root = 0 → B.RowAt w' tb #[.pointer (some ⟨db, 0, none⟩), .nilIface] 100) := by
  have q0 := below_new w (.cells #[.int .i64 m0, .int .i64 root, m2] 42)
  have x0 := B.RowAt.new w #[.int .i64 m0, .int .i64 root, m2] 42
  have k1 := x0.cell 1 (by simp)
  simp only [List.getElem_toArray, List.getElem_cons_zero, List.getElem_cons_succ] at k1
  generalize hW : w.alloc (.cells #[.int .i64 m0, .int .i64 root, m2] 42) = W at *
  have s1 : w.heap.size ≤ W.heap.size := q0.size
  have HN : Hid (∀ rv, (rv = .nilIface ∨ ∃ p : C.Ch, rv = p.val ∧ Any w p) → Tc base A db F d W0 (W.alloc (.cells #[.pointer (some ⟨db, 0, none⟩), rv] 100)) W.heap.size) := fun rv h =>
    Tc.new hv hst (Below.next q0 (below_new W _)) h s1 (B.RowAt.new W #[.pointer (some ⟨db, 0, none⟩), rv] 100)
  have HR : Hid (B.RowAt (W.alloc (.cells #[.pointer (some ⟨db, 0, none⟩), .nilIface] 100)) W.heap.size #[.pointer (some ⟨db, 0, none⟩), .nilIface] 100) := B.RowAt.new W #[.pointer (some ⟨db, 0, none⟩), .nilIface] 100
  clear hv hst q0 x0
  by_cases h0 : root = 0
  · subst h0
    go_enter Tryz.func13, Tryz.ntmps13
    go_wp2_with fail
    refine (rootat_zero _).mono ?_
    rintro e w1 ⟨rfl, rfl⟩
    go_wp2
    go_ret
    exact ⟨_, rfl, HN.out _ (.inl rfl), fun _ => HR.out⟩
  · have H0 := hide h0
    clear h0
    go_enter Tryz.func13, Tryz.ntmps13
    go_wp2_with fail
    refine (rootat_some root _ H0.out).mono ?_
    rintro e w1 ⟨rfl, rfl⟩
    have hva : (C.Ch.pg root).val = .iface 146 (.int .i64 root) := rfl
    rw [hva]
    go_wp2
    go_ret
    exact ⟨_, rfl, HN.out _ (.inr ⟨.pg root, rfl, Any.pg _ _⟩), fun h => absurd h H0.out⟩
end

end Go.Proofs.YtnaedmmfiiebaaaGreatDoor.T
