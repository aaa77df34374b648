import Derived.Test.YtnaedmmfiiebaaaGreatDoorTDown
namespace Go.Proofs.YtnaedmmfiiebaaaGreatDoor.T
open Go.RowKit

set_option maxRecDepth 100000 in
theorem readc_nd (tb bb : Nat) (w : World) : Calls Tryz.prog 104 #[.pointer (some ⟨tb, 0, none⟩), .iface 152 (.pointer (some ⟨bb, 0, none⟩))] w fun e w' => e = .returned (.tuple #[.pointer (some ⟨bb, 0, none⟩), .nilIface]) ∧ w = w' := by
  have a1 := fun W => as_np (.pointer (some ⟨bb, 0, none⟩)) W
  have a2 := fun W => as_nn (.pointer (some ⟨bb, 0, none⟩)) W
  go_enter Tryz.func104, Tryz.ntmps104
  go_wp2
  go_ret2
  exact ⟨rfl, rfl⟩
/-- Two nodes of one kind are joined. -/
theorem njoin_fit (ba bb : Nat) (na nb : SN) (pa la ca pb lb cb : Value) (key : ByteArray) (w : World) (ha : SNR w ba na pa la ca) (hb : SNR w bb nb pb lb cb) (hka : na.kin) (hkb : nb.kin) (hsa : na.sz ≤ 4072) (hsb : nb.sz ≤ 4072) (hs : na.us.length = 0 ↔ nb.us.length = 0) (hk : mayKey key) :
    Calls Tryz.prog 126 #[.pointer (some ⟨ba, 0, none⟩), .string key, .pointer (some ⟨bb, 0, none⟩)] w fun e w' => New w (na.join key nb) e w' := by
  unfold SN.join
  unfold SN.sz at hsa hsb
  by_cases h0 : na.us.length = 0
  · rw [if_pos h0] at hsa
    rw [if_pos (hs.1 h0)] at hsb
    rw [if_pos h0]
    have := szL_len na.ps
    have := szL_len nb.ps
    exact join_leaf ba bb na nb pa la ca pb lb cb key w ha hb h0 (by omega)
  · rw [if_neg h0] at hsa
    rw [if_neg (fun h => h0 (hs.2 h))] at hsb
    rw [if_neg h0]
    have := B.szB_len na.lk
    have := B.szB_len nb.lk
    have e1 := hka.resolve_left h0
    have e2 := hkb.resolve_left (fun h => h0 (hs.2 h))
    exact join_br ba bb na nb pa la ca pb lb cb key w ha hb h0 (by omega) (by omega) hk
theorem join_kin {na nb : SN} {key : ByteArray} (hka : na.kin) (hkb : nb.kin) (hs : na.us.length = 0 ↔ nb.us.length = 0) : (na.join key nb).kin := by
  unfold SN.join
  by_cases h0 : na.us.length = 0
  · rw [if_pos h0]; exact .inl rfl
  · rw [if_neg h0]
    have e1 := hka.resolve_left h0
    have e2 := hkb.resolve_left (fun h => h0 (hs.2 h))
    right
    show (na.us ++ nb.us).length = (B.joinL na.lk key nb.f nb.lk).length + 1
    unfold B.joinL
    rw [List.length_append, List.length_append, List.length_cons]; omega
/-- What settle answers where the child is too small: joined with a neighbour m, by the key of the link between them. -/
def SettleJ {d : S.V.Dev} {X : Type} (S : Sys d X) (A : Nat → Addr) (db : Nat) (F : Nat → Prop) (w : World) (n : SN) (i l bb : Nat) (nb : SN) (y : X) (jn : ByteArray → SN → SN) (e : Ending) (w' : World) : Prop :=
  (S.E ∧ e = badE A) ∨ ∃ (b' : Nat) (w2 : World) (m : SN) (k : ByteArray) (z : Int) (bj : Nat) (pj lj cj : Value), e = .returned (.tuple #[.pointer (some ⟨b', 0, none⟩), .nilIface]) ∧ Mv db F w w2 ∧ n.lk[l]? = some (k, z) ∧ S.N w2 m y ∧ (m.us.length = 0 ↔ nb.us.length = 0) ∧ SNR w2 bj (jn k m) pj lj cj ∧
    WithS w2 ⟨[], n.f, B.remL n.lk l, C.remL (n.us.set i (.nd bb)) (l + 1)⟩ l bj (jn k m) (.returned (.pointer (some ⟨b', 0, none⟩))) w'

set_option maxRecDepth 100000 in
set_option maxHeartbeats 8000000 in
theorem settle_zero {base : Nat} {A : Nat → Addr} {db : Nat} {F : Nat → Prop} {d : S.V.Dev} {X : Type} (S : Sys d X) (tb : Nat) (rv : Value) (b bb : Nat) (n nb : SN) (pv lv cv pb lb cb : Value) (y : X) (p : C.Ch) (w : World) (h : SNR w b n pv lv cv) (hb : SNR w bb nb pb lb cb) (hi : 0 < n.us.length) (hlen : n.us.length = n.lk.length + 1) (hroom : n.lk.length ≤ 3999) (h1 : 0 < n.lk.length) (hkin : nb.kin) (hsm : nb.sz < nb.min)
    (hp : n.us[1]? = some p) (hk : S.K w p y) (ht : B.RowAt w tb #[.pointer (some ⟨db, 0, none⟩), rv] 100) (hv : Dv base A db F d w) (hkind : S.E ∨ ∀ W m, S.N W m y → (m.us.length = 0 ↔ nb.us.length = 0)) :
    Calls Tryz.prog 82 #[.pointer (some ⟨tb, 0, none⟩), .agg #[.pointer (some ⟨b, 0, none⟩), .int .i64 0], .pointer (some ⟨bb, 0, none⟩)] w fun e w' => SettleJ S A db F w n 0 0 bb nb y (fun k m => nb.join k m) e w' ∧ Dv base A db F d w' ∧ Mv db F w w' := by
  have q0 := below_new w (.cells #[.pointer (some ⟨b, 0, none⟩), .int .i64 0] 159)
  have x0 := B.RowAt.new w #[.pointer (some ⟨b, 0, none⟩), .int .i64 0] 159
  generalize hW0 : w.alloc (.cells #[.pointer (some ⟨b, 0, none⟩), .int .i64 0] 159) = W0 at *
  have HTS := hide (toosmall_any bb nb pb lb cb W0 (hb.below q0))
  rw [show decide (nb.sz < nb.min) = true by simp [hsm]] at HTS
  have HH := hide h
  have HHB := hide hb
  have HI : Hid (0 < n.us.length ∧ n.us.length = n.lk.length + 1 ∧ n.lk.length ≤ 3999 ∧ 0 < n.lk.length) := ⟨hi, hlen, hroom, h1⟩
  have HKIN := hide hkin
  have HSM := hide hsm
  have HP := hide hp
  have HK := hide hk
  have HT := hide ht
  have HV := hide hv
  have HKD := hide hkind
  have HQ := hide q0
  have HX := hide x0
  have HWC : Hid (∀ W, Below w.heap.size w W → Calls Tryz.prog 125 #[.pointer (some ⟨b, 0, none⟩), .int .i64 0, .iface 152 (.pointer (some ⟨bb, 0, none⟩))] W fun e w' => ∃ b2 p2 l2 c2, e = .returned (.pointer (some ⟨b2, 0, none⟩)) ∧ SNR w' b2 ⟨[], n.f, n.lk, n.us.set 0 (.nd bb)⟩ p2 l2 c2 ∧ Below W.heap.size W w') := fun W hW => by
    have hh := wchild_any b n pv lv cv 0 (.nd bb) W (h.below hW) hi
    rw [show ((0 : Nat) : Int) = 0 by omega] at hh
    exact hh
  clear h hb hi hlen hroom h1 hkin hsm hp hk ht hv hkind q0 x0
  go_enter Tryz.func82, Tryz.ntmps82
  go_wp2_with fail
  refine HTS.out.mono ?_
  rintro e w1 ⟨rfl, hb1⟩
  have HB1 := hide (Below.next HQ.out hb1)
  have k0 := (HX.out.below hb1).c0
  have k1 := (HX.out.below hb1).c1
  have HX1 := hide (HX.out.below hb1)
  clear hb1 HTS
  go_wp2_with fail
  
  go_region_held3 (fun w' => w'.cell? ⟨w.heap.size, 0, none⟩ = some (.pointer (some ⟨b, 0, none⟩)) ∧ w'.cell? ⟨w.heap.size, 1, none⟩ = some (.int .i64 0)) (go_keep)
    (first
      | (go_at_call 125; refine (HWC.out _ (by first | exact HB1.out | exact B.below_drewB HB1.out)).mono ?_; rintro e w2 ⟨b2, p2, l2, c2, rfl, hs2, hb2⟩; have HS2 := hide hs2; have HB2 := hide (Below.next (B.below_drewB HB1.out) hb2); have m0 := (HX1.out.below (B.undrewB hb2)).c0; have m1 := (HX1.out.below (B.undrewB hb2)).c1; clear hs2 hb2))
  all_goals
    have aw2 := Away.of HB2.out
    obtain ⟨ca, cc, hcf, -, -, hcell⟩ := HS2.out.kids
    rw [C.lks_length, Nat.mul_one, List.length_set] at hcf
    subst hcf
    obtain ⟨g, o, rfl, cI⟩ := hcell 0 (C.Ch.nd bb).val (by unfold C.lks; rw [List.getElem?_map, List.getElem?_set_self HI.out.1]; rfl)
    obtain ⟨g', o', hg', cS⟩ := hcell 1 p.val (by unfold C.lks; rw [List.getElem?_map, List.getElem?_set_ne (by omega), HP.out]; rfl)
    cases hg'
    have HRS := hide (readc_sys S p y tb rv w2 (S.ka aw2 HK.out) (tree_away aw2 HT.out) (HV.out.below HB2.out))
    have HPX := hide (val_form p)
    have p3 := HS2.out.c3
    have hI1 : (0 : Int) < (n.us.length : Int) := by have := HI.out; omega
    have hI2 : (0 : Int) + 1 < (n.us.length : Int) := by have := HI.out; omega
    have hI0 : (0 : Int) ≤ (0 : Int) := by omega
    have hI4 : (n.us.length : Int) ≤ 4000 := by have := HI.out; omega
    have hI3 : (0 : Int) ≤ (0 : Int) + 1 := by omega
    have HLP : Hid (∃ k z, n.lk[0]? = some (k, z)) := ⟨_, _, List.getElem?_eq_getElem HI.out.2.2.2⟩
    have cI2 : w2.cell? ⟨g, o, none⟩ = some (.iface 152 (.pointer (some ⟨bb, 0, none⟩))) := cI
    have HCI := hide cI2
    
    rw [show max (IntKind.i64.wrap (-1)) 0 = 0 by decide]
    clear hcell aw2 k0 k1 m0 m1 HX1 HX HQ hW0 HK HP cI
    obtain ⟨pt, px, hpv⟩ := HPX.out
    rw [hpv] at HRS cS
    clear hpv HPX
    go_wp2_with fail
    refine (readc_nd tb bb _).mono ?_
    rintro e w2' ⟨rfl, rfl⟩
    go_wp2_with fail
    refine HRS.out.mono ?_
    rintro e w3 ⟨hrs, hv3, hm3⟩
    have aw3 := hm3.away (HV.out.below HB2.out)
    have HM3 := hide ((Mv.of HB2.out).trans hm3)
    have HV3 := hide hv3
    have HS3 := hide (HS2.out.away aw3)
    have HB3 := hide ((HHB.out.below HB2.out).away aw3)
    clear cI2
    rcases hrs with ⟨hE, rfl⟩ | ⟨bs, m, ps, ls, cs, rfl, hsm, hnm⟩
    · have HRES : Hid (SettleJ S A db F w n 0 0 bb nb y (fun k m => nb.join k m) (badE A) w3 ∧ Dv base A db F d w3 ∧ Mv db F w w3) := ⟨.inl ⟨hE, rfl⟩, HV3.out, HM3.out⟩
      unfold badE at HRES ⊢
      clear hv3 hm3 aw3 hE HRS p3 cS HS2
      go_wp2
      go_ret2
      exact HRES.out
    have HSM2 := hide hsm
    have HNM := hide hnm
    have HMF := hide (S.fit hnm)
    have HIA := hide (isleaf_any bb nb pb lb cb w3 HB3.out)
    have HIB := hide (isleaf_any bs m ps ls cs w3 HSM2.out)
    clear hsm hnm hv3 hm3 aw3
    by_cases hkd : m.us.length = 0 ↔ nb.us.length = 0
    · have HKD2 := hide hkd
      have hdd : decide (nb.us.length = 0) = decide (m.us.length = 0) := by
        rw [Bool.eq_iff_iff, decide_eq_true_eq, decide_eq_true_eq]
        first | exact hkd | exact hkd.symm
      rw [hdd] at HIA
      generalize decide (m.us.length = 0) = bk at *
      clear hkd hdd
      obtain ⟨k, z, hlk⟩ := HLP.out
      have HLK := hide hlk
      have hmk : mayKey k := HH.out.fine.2.2.1 _ (List.mem_of_getElem? hlk)
      obtain ⟨la2, lc2, hlf, -, -, hlc⟩ := HS3.out.lks
      subst hlf
      have hLL : 0 < n.lk.length := HI.out.2.2.2
      obtain ⟨g2, o2, rfl, cK, -⟩ := hlc 0 hLL
      have hek : n.lk[0] = (k, z) := by
        have := List.getElem?_eq_getElem hLL
        rw [hlk] at this
        exact (Option.some.inj this).symm
      rw [show (⟨[], n.f, n.lk, n.us.set 0 (.nd bb)⟩ : SN).lk[0] = (k, z) from hek] at cK
      have cK2 : w3.cell? ⟨g2, o2, none⟩ = some (.string k) := by simpa using cK
      have p2 := HS3.out.c2
      clear cK
      have hL1 : (0 : Int) < (n.lk.length : Int) := by omega
      have HJ := hide (njoin_fit bb bs nb m pb lb cb ps ls cs k w3 HB3.out HSM2.out HKIN.out HMF.out.1 (by have := HSM.out; unfold SN.min at this; split at this <;> omega) HMF.out.2.1 (by have := HKD2.out; first | exact this | exact this.symm) hmk)
      have HWO : Hid (∀ W, Below w3.heap.size w3 W → Calls Tryz.prog 127 #[.pointer (some ⟨b2, 0, none⟩), .int .i64 (0 : Int)] W fun e w' => New W ⟨[], n.f, B.remL n.lk 0, C.remL (n.us.set 0 (.nd bb)) (0 + 1)⟩ e w') := fun W hW => wolink_any A b2 _ _ _ _ 0 W (HS3.out.below hW) hLL (by show (n.us.set 0 _).length = n.lk.length + 1; rw [List.length_set]; exact HI.out.2.1) (HV3.out.below hW).errC
      have hr1 : (B.remL n.lk 0).length = n.lk.length - 1 := by unfold B.remL; rw [List.length_append, List.length_take, List.length_drop]; omega
      have hr2 : (C.remL (n.us.set 0 (.nd bb)) (0 + 1)).length = n.us.length - 1 := by unfold C.remL; rw [List.length_append, List.length_take, List.length_drop, List.length_set]; have := HI.out; omega
      have HWN : Hid (∀ W b5 p5 l5 c5 bj pj lj cj, Below w3.heap.size w3 W → SNR W b5 ⟨[], n.f, B.remL n.lk 0, C.remL (n.us.set 0 (.nd bb)) (0 + 1)⟩ p5 l5 c5 → SNR W bj ((fun k m => nb.join k m) k m) pj lj cj → Calls Tryz.prog 124 #[.pointer (some ⟨b5, 0, none⟩), .int .i64 (0 : Int), .pointer (some ⟨bj, 0, none⟩)] W fun e w' => ∃ b', e = .returned (.pointer (some ⟨b', 0, none⟩)) ∧ WithS W ⟨[], n.f, B.remL n.lk 0, C.remL (n.us.set 0 (.nd bb)) (0 + 1)⟩ 0 bj ((fun k m => nb.join k m) k m) (.returned (.pointer (some ⟨b', 0, none⟩))) w' ∧ Below W.heap.size W w') := fun W b5 p5 l5 c5 bj pj lj cj hW h5 hj => by
        refine (wnode_any A b5 bj _ _ p5 l5 c5 pj lj cj 0 W h5 hj (by show 0 < (C.remL _ _).length; rw [hr2]; have := HI.out; omega) (by show (C.remL _ _).length = (B.remL _ _).length + 1; rw [hr1, hr2]; have := HI.out; omega) (by show (B.remL _ _).length ≤ 3999; rw [hr1]; have := HI.out; omega) (join_kin HKIN.out HMF.out.1 (by have := HKD2.out; first | exact this | exact this.symm)) (HV3.out.below hW).errC).mono fun e w' hh => ?_
        rcases hh with ⟨g1, b', p', l', c', rfl, g2, g3⟩ | ⟨g1, a, k, c, ba, bc, pa, la, ca, pc, lc, cc, g2, g3, g4, b', p', l', c', rfl, g5, g6⟩
        · exact ⟨b', rfl, .inl ⟨g1, b', p', l', c', rfl, g2, g3⟩, g3⟩
        · exact ⟨b', rfl, .inr ⟨g1, a, k, c, ba, bc, pa, la, ca, pc, lc, cc, g2, g3, g4, b', p', l', c', rfl, g5, g6⟩, g6⟩
      clear hlc hek hmk hlk HLP hr1 hr2
      go_wp2_with fail
      refine HIA.out.mono ?_
      rintro e w3' ⟨rfl, rfl⟩
      go_wp2_with fail
      refine HIB.out.mono ?_
      rintro e w3' ⟨rfl, rfl⟩
      clear HIA HIB
      cases bk
      all_goals
        go_wp2_with fail
        refine HJ.out.mono ?_
        rintro e w4 ⟨bj, pj, lj, cj, rfl, hj, hb4⟩
        have HJ4 := hide hj
        have HB4 := hide hb4
        clear hj hb4 cK2 p2
        go_wp2_with fail
        refine (HWO.out w4 HB4.out).mono ?_
        rintro e w5 ⟨b5, p5, l5, c5, rfl, h5, hb5⟩
        have HS5 := hide h5
        have HJ5 := hide (HJ4.out.below hb5)
        have HB5 := hide (Below.next HB4.out hb5)
        clear h5 hb5
        go_wp2_with fail
        refine (HWN.out w5 b5 p5 l5 c5 bj pj lj cj HB5.out HS5.out HJ5.out).mono ?_
        rintro e w6 ⟨b', rfl, hws, hb6⟩
        have HRES : Hid (SettleJ S A db F w n 0 0 bb nb y (fun k m => nb.join k m) (.returned (.tuple #[.pointer (some ⟨b', 0, none⟩), .nilIface])) w6 ∧ Dv base A db F d w6 ∧ Mv db F w w6) := ⟨.inr ⟨b', w5, m, k, z, bj, pj, lj, cj, rfl, HM3.out.trans (Mv.of HB5.out), HLK.out, S.na (Away.of HB5.out) HNM.out, HKD2.out, HJ5.out, hws⟩, HV3.out.below (Below.next HB5.out hb6), HM3.out.trans (Mv.of (Below.next HB5.out hb6))⟩
        clear hws hb6
        go_wp2
        go_ret2
        exact HRES.out
    · have hE : S.E := HKD.out.resolve_right fun h => hkd (h w3 m HNM.out)
      have g8 : w3.cell? ⟨8, 0, none⟩ = some (.iface 360 (.pointer (some (A 8)))) := HV3.out.g 8 (by decide)
      have HRES : Hid (∀ k, SettleJ S A db F w n 0 0 bb nb y (fun k m => nb.join k m) (.returned (.tuple #[.pointer none, .iface 360 (.pointer (some (A 8)))])) (w3.drewN k) ∧ Dv base A db F d (w3.drewN k) ∧ Mv db F w (w3.drewN k)) := fun k => ⟨.inl ⟨hE, rfl⟩, HV3.out.below (below_drewN' (Below.refl _ _) _), HM3.out.trans (Mv.of (below_drewN' (Below.refl _ _) _))⟩
      have hdd : decide (nb.us.length = 0) = !decide (m.us.length = 0) := by
        by_cases h1 : m.us.length = 0 <;> by_cases h2 : nb.us.length = 0 <;> simp_all
      rw [hdd] at HIA
      generalize decide (m.us.length = 0) = bk at *
      clear hkd hdd hE
      go_wp2_with fail
      refine HIA.out.mono ?_
      rintro e w3' ⟨rfl, rfl⟩
      go_wp2_with fail
      refine HIB.out.mono ?_
      rintro e w3' ⟨rfl, rfl⟩
      clear HIA HIB
      cases bk
      all_goals
        go_wp2_with fail
        go_quiet (fail)
        go_wp2
        go_ret2
        exact HRES.out _

set_option maxRecDepth 100000 in
set_option maxHeartbeats 8000000 in
theorem settle_succ {base : Nat} {A : Nat → Addr} {db : Nat} {F : Nat → Prop} {d : S.V.Dev} {X : Type} (S : Sys d X) (tb : Nat) (rv : Value) (b bb : Nat) (n nb : SN) (pv lv cv pb lb cb : Value) (j : Nat) (y : X) (p : C.Ch) (w : World) (h : SNR w b n pv lv cv) (hb : SNR w bb nb pb lb cb) (hi : (j + 1) < n.us.length) (hlen : n.us.length = n.lk.length + 1) (hroom : n.lk.length ≤ 3999) (h1 : j < n.lk.length) (hkin : nb.kin) (hsm : nb.sz < nb.min)
    (hp : n.us[j]? = some p) (hk : S.K w p y) (ht : B.RowAt w tb #[.pointer (some ⟨db, 0, none⟩), rv] 100) (hv : Dv base A db F d w) (hkind : S.E ∨ ∀ W m, S.N W m y → (m.us.length = 0 ↔ nb.us.length = 0)) :
    Calls Tryz.prog 82 #[.pointer (some ⟨tb, 0, none⟩), .agg #[.pointer (some ⟨b, 0, none⟩), .int .i64 ((j : Int) + 1)], .pointer (some ⟨bb, 0, none⟩)] w fun e w' => SettleJ S A db F w n (j + 1) j bb nb y (fun k m => m.join k nb) e w' ∧ Dv base A db F d w' ∧ Mv db F w w' := by
  have q0 := below_new w (.cells #[.pointer (some ⟨b, 0, none⟩), .int .i64 ((j : Int) + 1)] 159)
  have x0 := B.RowAt.new w #[.pointer (some ⟨b, 0, none⟩), .int .i64 ((j : Int) + 1)] 159
  generalize hW0 : w.alloc (.cells #[.pointer (some ⟨b, 0, none⟩), .int .i64 ((j : Int) + 1)] 159) = W0 at *
  have HTS := hide (toosmall_any bb nb pb lb cb W0 (hb.below q0))
  rw [show decide (nb.sz < nb.min) = true by simp [hsm]] at HTS
  have HH := hide h
  have HHB := hide hb
  have HI : Hid ((j + 1) < n.us.length ∧ n.us.length = n.lk.length + 1 ∧ n.lk.length ≤ 3999 ∧ j < n.lk.length) := ⟨hi, hlen, hroom, h1⟩
  have HKIN := hide hkin
  have HSM := hide hsm
  have HP := hide hp
  have HK := hide hk
  have HT := hide ht
  have HV := hide hv
  have HKD := hide hkind
  have HQ := hide q0
  have HX := hide x0
  have HWC : Hid (∀ W, Below w.heap.size w W → Calls Tryz.prog 125 #[.pointer (some ⟨b, 0, none⟩), .int .i64 ((j : Int) + 1), .iface 152 (.pointer (some ⟨bb, 0, none⟩))] W fun e w' => ∃ b2 p2 l2 c2, e = .returned (.pointer (some ⟨b2, 0, none⟩)) ∧ SNR w' b2 ⟨[], n.f, n.lk, n.us.set (j + 1) (.nd bb)⟩ p2 l2 c2 ∧ Below W.heap.size W w') := fun W hW => by
    have hh := wchild_any b n pv lv cv (j + 1) (.nd bb) W (h.below hW) hi
    rw [show (((j + 1) : Nat) : Int) = ((j : Int) + 1) by omega] at hh
    exact hh
  clear h hb hi hlen hroom h1 hkin hsm hp hk ht hv hkind q0 x0
  go_enter Tryz.func82, Tryz.ntmps82
  go_wp2_with fail
  refine HTS.out.mono ?_
  rintro e w1 ⟨rfl, hb1⟩
  have HB1 := hide (Below.next HQ.out hb1)
  have k0 := (HX.out.below hb1).c0
  have k1 := (HX.out.below hb1).c1
  have HX1 := hide (HX.out.below hb1)
  clear hb1 HTS
  go_wp2_with fail
  have hj0 : ¬ (0 : Int) > (j : Int) := by omega
  go_region_held3 (fun w' => w'.cell? ⟨w.heap.size, 0, none⟩ = some (.pointer (some ⟨b, 0, none⟩)) ∧ w'.cell? ⟨w.heap.size, 1, none⟩ = some (.int .i64 ((j : Int) + 1))) (go_keep)
    (first
      | (go_at_call 125; refine (HWC.out _ (by first | exact HB1.out | exact B.below_drewB HB1.out)).mono ?_; rintro e w2 ⟨b2, p2, l2, c2, rfl, hs2, hb2⟩; have HS2 := hide hs2; have HB2 := hide (Below.next (B.below_drewB HB1.out) hb2); have m0 := (HX1.out.below (B.undrewB hb2)).c0; have m1 := (HX1.out.below (B.undrewB hb2)).c1; clear hs2 hb2))
  all_goals
    have aw2 := Away.of HB2.out
    obtain ⟨ca, cc, hcf, -, -, hcell⟩ := HS2.out.kids
    rw [C.lks_length, Nat.mul_one, List.length_set] at hcf
    subst hcf
    obtain ⟨g, o, rfl, cI⟩ := hcell (j + 1) (C.Ch.nd bb).val (by unfold C.lks; rw [List.getElem?_map, List.getElem?_set_self HI.out.1]; rfl)
    obtain ⟨g', o', hg', cS⟩ := hcell j p.val (by unfold C.lks; rw [List.getElem?_map, List.getElem?_set_ne (by omega), HP.out]; rfl)
    cases hg'
    have HRS := hide (readc_sys S p y tb rv w2 (S.ka aw2 HK.out) (tree_away aw2 HT.out) (HV.out.below HB2.out))
    have HPX := hide (val_form p)
    have p3 := HS2.out.c3
    have hI1 : (j : Int) < (n.us.length : Int) := by have := HI.out; omega
    have hI2 : (j : Int) + 1 < (n.us.length : Int) := by have := HI.out; omega
    have hI0 : (0 : Int) ≤ (j : Int) := by omega
    have hI4 : (n.us.length : Int) ≤ 4000 := by have := HI.out; omega
    have hI3 : (0 : Int) ≤ (j : Int) + 1 := by omega
    have HLP : Hid (∃ k z, n.lk[j]? = some (k, z)) := ⟨_, _, List.getElem?_eq_getElem HI.out.2.2.2⟩
    have cI2 : w2.cell? ⟨g, o + (j + 1), none⟩ = some (.iface 152 (.pointer (some ⟨bb, 0, none⟩))) := cI
    have HCI := hide cI2
    clear cI2
    have hwj : max (IntKind.i64.wrap (j : Int)) 0 = (j : Int) := by rw [IntKind.wrap_i64]; have := HI.out; omega
    first | rw [hwj] | rw [show (j : Int) + 1 - 1 = (j : Int) by omega, hwj]
    clear hcell aw2 k0 k1 m0 m1 HX1 HX HQ hW0 HK HP cI
    obtain ⟨pt, px, hpv⟩ := HPX.out
    rw [hpv] at HRS cS
    clear hpv HPX
    go_wp2_with fail
    refine HRS.out.mono ?_
    rintro e w3 ⟨hrs, hv3, hm3⟩
    have aw3 := hm3.away (HV.out.below HB2.out)
    have HM3 := hide ((Mv.of HB2.out).trans hm3)
    have HV3 := hide hv3
    have HS3 := hide (HS2.out.away aw3)
    have HB3 := hide ((HHB.out.below HB2.out).away aw3)
    have cI3 := cell_same (aw3.ifc HCI.out) HCI.out
    have p33 := HS3.out.c3
    have htn : ((j : Int) + 1).toNat = j + 1 := by omega
    have hwp : wrap64 ((j : Int) + 1) = (j : Int) + 1 := by unfold wrap64; omega
    rcases hrs with ⟨hE, rfl⟩ | ⟨bs, m, ps, ls, cs, rfl, hsm, hnm⟩
    · have HRES : Hid (SettleJ S A db F w n (j + 1) j bb nb y (fun k m => m.join k nb) (badE A) w3 ∧ Dv base A db F d w3 ∧ Mv db F w w3) := ⟨.inl ⟨hE, rfl⟩, HV3.out, HM3.out⟩
      unfold badE at HRES ⊢
      clear hv3 hm3 aw3 hE HRS p3 cS HS2
      go_wp2
      go_ret2
      exact HRES.out
    go_wp2_with fail
    refine (readc_nd tb bb _).mono ?_
    rintro e w2' ⟨rfl, rfl⟩
    have HSM2 := hide hsm
    have HNM := hide hnm
    have HMF := hide (S.fit hnm)
    have HIA := hide (isleaf_any bs m ps ls cs w3 HSM2.out)
    have HIB := hide (isleaf_any bb nb pb lb cb w3 HB3.out)
    clear hsm hnm hv3 hm3 aw3
    by_cases hkd : m.us.length = 0 ↔ nb.us.length = 0
    · have HKD2 := hide hkd
      have hdd : decide (m.us.length = 0) = decide (nb.us.length = 0) := by
        rw [Bool.eq_iff_iff, decide_eq_true_eq, decide_eq_true_eq]
        first | exact hkd | exact hkd.symm
      rw [hdd] at HIA
      generalize decide (nb.us.length = 0) = bk at *
      clear hkd hdd
      obtain ⟨k, z, hlk⟩ := HLP.out
      have HLK := hide hlk
      have hmk : mayKey k := HH.out.fine.2.2.1 _ (List.mem_of_getElem? hlk)
      obtain ⟨la2, lc2, hlf, -, -, hlc⟩ := HS3.out.lks
      subst hlf
      have hLL : j < n.lk.length := HI.out.2.2.2
      obtain ⟨g2, o2, rfl, cK, -⟩ := hlc j hLL
      have hek : n.lk[j] = (k, z) := by
        have := List.getElem?_eq_getElem hLL
        rw [hlk] at this
        exact (Option.some.inj this).symm
      rw [show (⟨[], n.f, n.lk, n.us.set (j + 1) (.nd bb)⟩ : SN).lk[j] = (k, z) from hek] at cK
      have cK2 : w3.cell? ⟨g2, o2 + j * 2, none⟩ = some (.string k) := by simpa using cK
      have p2 := HS3.out.c2
      clear cK
      have hL1 : (j : Int) < (n.lk.length : Int) := by omega
      have HJ := hide (njoin_fit bs bb m nb ps ls cs pb lb cb k w3 HSM2.out HB3.out HMF.out.1 HKIN.out HMF.out.2.1 (by have := HSM.out; unfold SN.min at this; split at this <;> omega) (by have := HKD2.out; first | exact this | exact this.symm) hmk)
      have HWO : Hid (∀ W, Below w3.heap.size w3 W → Calls Tryz.prog 127 #[.pointer (some ⟨b2, 0, none⟩), .int .i64 (j : Int)] W fun e w' => New W ⟨[], n.f, B.remL n.lk j, C.remL (n.us.set (j + 1) (.nd bb)) (j + 1)⟩ e w') := fun W hW => wolink_any A b2 _ _ _ _ j W (HS3.out.below hW) hLL (by show (n.us.set (j + 1) _).length = n.lk.length + 1; rw [List.length_set]; exact HI.out.2.1) (HV3.out.below hW).errC
      have hr1 : (B.remL n.lk j).length = n.lk.length - 1 := by unfold B.remL; rw [List.length_append, List.length_take, List.length_drop]; omega
      have hr2 : (C.remL (n.us.set (j + 1) (.nd bb)) (j + 1)).length = n.us.length - 1 := by unfold C.remL; rw [List.length_append, List.length_take, List.length_drop, List.length_set]; have := HI.out; omega
      have HWN : Hid (∀ W b5 p5 l5 c5 bj pj lj cj, Below w3.heap.size w3 W → SNR W b5 ⟨[], n.f, B.remL n.lk j, C.remL (n.us.set (j + 1) (.nd bb)) (j + 1)⟩ p5 l5 c5 → SNR W bj ((fun k m => m.join k nb) k m) pj lj cj → Calls Tryz.prog 124 #[.pointer (some ⟨b5, 0, none⟩), .int .i64 (j : Int), .pointer (some ⟨bj, 0, none⟩)] W fun e w' => ∃ b', e = .returned (.pointer (some ⟨b', 0, none⟩)) ∧ WithS W ⟨[], n.f, B.remL n.lk j, C.remL (n.us.set (j + 1) (.nd bb)) (j + 1)⟩ j bj ((fun k m => m.join k nb) k m) (.returned (.pointer (some ⟨b', 0, none⟩))) w' ∧ Below W.heap.size W w') := fun W b5 p5 l5 c5 bj pj lj cj hW h5 hj => by
        refine (wnode_any A b5 bj _ _ p5 l5 c5 pj lj cj j W h5 hj (by show j < (C.remL _ _).length; rw [hr2]; have := HI.out; omega) (by show (C.remL _ _).length = (B.remL _ _).length + 1; rw [hr1, hr2]; have := HI.out; omega) (by show (B.remL _ _).length ≤ 3999; rw [hr1]; have := HI.out; omega) (join_kin HMF.out.1 HKIN.out (by have := HKD2.out; first | exact this | exact this.symm)) (HV3.out.below hW).errC).mono fun e w' hh => ?_
        rcases hh with ⟨g1, b', p', l', c', rfl, g2, g3⟩ | ⟨g1, a, k, c, ba, bc, pa, la, ca, pc, lc, cc, g2, g3, g4, b', p', l', c', rfl, g5, g6⟩
        · exact ⟨b', rfl, .inl ⟨g1, b', p', l', c', rfl, g2, g3⟩, g3⟩
        · exact ⟨b', rfl, .inr ⟨g1, a, k, c, ba, bc, pa, la, ca, pc, lc, cc, g2, g3, g4, b', p', l', c', rfl, g5, g6⟩, g6⟩
      clear hlc hek hmk hlk HLP hr1 hr2
      go_wp2_with fail
      refine HIA.out.mono ?_
      rintro e w3' ⟨rfl, rfl⟩
      go_wp2_with fail
      refine HIB.out.mono ?_
      rintro e w3' ⟨rfl, rfl⟩
      clear HIA HIB
      cases bk
      all_goals
        go_wp2_with fail
        refine HJ.out.mono ?_
        rintro e w4 ⟨bj, pj, lj, cj, rfl, hj, hb4⟩
        have HJ4 := hide hj
        have HB4 := hide hb4
        clear hj hb4 cK2 p2
        go_wp2_with fail
        refine (HWO.out w4 HB4.out).mono ?_
        rintro e w5 ⟨b5, p5, l5, c5, rfl, h5, hb5⟩
        have HS5 := hide h5
        have HJ5 := hide (HJ4.out.below hb5)
        have HB5 := hide (Below.next HB4.out hb5)
        clear h5 hb5
        go_wp2_with fail
        refine (HWN.out w5 b5 p5 l5 c5 bj pj lj cj HB5.out HS5.out HJ5.out).mono ?_
        rintro e w6 ⟨b', rfl, hws, hb6⟩
        have HRES : Hid (SettleJ S A db F w n (j + 1) j bb nb y (fun k m => m.join k nb) (.returned (.tuple #[.pointer (some ⟨b', 0, none⟩), .nilIface])) w6 ∧ Dv base A db F d w6 ∧ Mv db F w w6) := ⟨.inr ⟨b', w5, m, k, z, bj, pj, lj, cj, rfl, HM3.out.trans (Mv.of HB5.out), HLK.out, S.na (Away.of HB5.out) HNM.out, HKD2.out, HJ5.out, hws⟩, HV3.out.below (Below.next HB5.out hb6), HM3.out.trans (Mv.of (Below.next HB5.out hb6))⟩
        clear hws hb6
        go_wp2
        go_ret2
        exact HRES.out
    · have hE : S.E := HKD.out.resolve_right fun h => hkd (h w3 m HNM.out)
      have g8 : w3.cell? ⟨8, 0, none⟩ = some (.iface 360 (.pointer (some (A 8)))) := HV3.out.g 8 (by decide)
      have HRES : Hid (∀ k, SettleJ S A db F w n (j + 1) j bb nb y (fun k m => m.join k nb) (.returned (.tuple #[.pointer none, .iface 360 (.pointer (some (A 8)))])) (w3.drewN k) ∧ Dv base A db F d (w3.drewN k) ∧ Mv db F w (w3.drewN k)) := fun k => ⟨.inl ⟨hE, rfl⟩, HV3.out.below (below_drewN' (Below.refl _ _) _), HM3.out.trans (Mv.of (below_drewN' (Below.refl _ _) _))⟩
      have hdd : decide (m.us.length = 0) = !decide (nb.us.length = 0) := by
        by_cases h1 : m.us.length = 0 <;> by_cases h2 : nb.us.length = 0 <;> simp_all
      rw [hdd] at HIA
      generalize decide (nb.us.length = 0) = bk at *
      clear hkd hdd hE
      go_wp2_with fail
      refine HIA.out.mono ?_
      rintro e w3' ⟨rfl, rfl⟩
      go_wp2_with fail
      refine HIB.out.mono ?_
      rintro e w3' ⟨rfl, rfl⟩
      clear HIA HIB
      cases bk
      all_goals
        go_wp2_with fail
        go_quiet (fail)
        go_wp2
        go_ret2
        exact HRES.out _

end Go.Proofs.YtnaedmmfiiebaaaGreatDoor.T
