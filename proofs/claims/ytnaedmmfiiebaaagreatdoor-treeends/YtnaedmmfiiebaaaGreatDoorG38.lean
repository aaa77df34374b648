import Derived.Test.YtnaedmmfiiebaaaGreatDoorTSettle2
namespace Go.Proofs.YtnaedmmfiiebaaaGreatDoor.T
open Go.RowKit

theorem Way.unsnoc {d : S.V.Dev} {X : Type} {S : Sys d X} {Pk : SN → Nat → Prop} {w : World} : ∀ {t : List (Stp X)} {x z : X} {s : Stp X}, Way S Pk w x (t ++ [s]) z → Way S Pk w x t s.x ∧ OkS S w s ∧ ¬ s.n.us.length = 0 ∧ Pk s.n s.at' ∧ s.at' < s.n.us.length ∧ S.sub s.x s.at' z
  | [], _, _, _, ⟨h1, h2, h3, h4, h5, z, h6, h7⟩ => by
    have h7 : z = _ := h7
    subst h7
    exact ⟨h1.symm, h2, h3, h4, h5, h1 ▸ h6⟩
  | _ :: _, _, _, _, ⟨h1, h2, h3, h4, h5, z, h6, h7⟩ => by
    obtain ⟨g1, g2⟩ := Way.unsnoc h7
    exact ⟨⟨h1, h2, h3, h4, h5, z, h6, g1⟩, g2⟩
/-- What a step upwards answers. -/
def UpS {d : S.V.Dev} {X : Type} (S : Sys d X) (A : Nat → Addr) (Fl : World → SN → X → Prop) (x : X) (e : Ending) (w' : World) : Prop :=
  (S.E ∧ e = badE A) ∨ ∃ b' n' pv lv cv, e = .returned (.tuple #[.pointer (some ⟨b', 0, none⟩), .nilIface]) ∧ SNR w' b' n' pv lv cv ∧ Fl w' n' x
set_option maxRecDepth 100000 in
set_option maxHeartbeats 4000000 in
theorem change_sys {base : Nat} {A : Nat → Addr} {db : Nat} {F : Nat → Prop} {d : S.V.Dev} {X : Type} (S : Sys d X) (Pk : SN → Nat → Prop) (Fl : World → SN → X → Prop) (hfk : ∀ W n x, Fl W n x → n.kin) (tb : Nat) (rv : Value) (a : Option Addr) (c : Nat) (l : List W.Lk) (ss : List (Stp X)) (x y : X) (pv : Value) (ps : List Pr) (w0 w : World)
    (hL : l = [] ∧ ss = [] ∨ ∃ q, l = ss.map Stp.lk ++ [q]) (hss : ss.length ≤ 64) (ho : StO w w0.heap.size (.slice a l.length c) l) (hway : Way S Pk w x ss y) (hp : PrR w pv ps) (hpm : (∀ p ∈ ps, mayP p = true) ∧ ps.length ≤ 4000) (hfl : ∀ W, Fl W ⟨ps, 0, [], []⟩ y)
    (ht : B.RowAt w tb #[.pointer (some ⟨db, 0, none⟩), rv] 100) (hv : Dv base A db F d w) (hv0 : Dv base A db F d w0) (hm : Mv db F w0 w)
    (hset : ∀ (W : World) (s : Stp X) (z : X) (bb : Nat) (nb : SN) (pb lb cb : Value), Dv base A db F d W → B.RowAt W tb #[.pointer (some ⟨db, 0, none⟩), rv] 100 → OkS S W s → ¬ s.n.us.length = 0 → Pk s.n s.at' → s.at' < s.n.us.length → S.sub s.x s.at' z → SNR W bb nb pb lb cb → Fl W nb z →
      Calls Tryz.prog 82 #[.pointer (some ⟨tb, 0, none⟩), .agg #[.pointer (some ⟨s.b, 0, none⟩), .int .i64 (s.at' : Int)], .pointer (some ⟨bb, 0, none⟩)] W fun e w' => UpS S A Fl s.x e w' ∧ Dv base A db F d w' ∧ Mv db F W w') :
    Calls Tryz.prog 47 #[.pointer (some ⟨tb, 0, none⟩), .slice a l.length c, pv] w fun e w' =>
      (S.E ∧ e = .returned (.iface 360 (.pointer (some (A 8)))) ∧ Dv base A db F d w' ∧ Mv db F w0 w' ∧ B.RowAt w' tb #[.pointer (some ⟨db, 0, none⟩), rv] 100) ∨
      ∃ (W W2 : World) (b : Nat) (n : SN) (pn ln cn u : Value), e = .returned .nilIface ∧ SNR W b n pn ln cn ∧ Fl W n x ∧ RootS W b n (.returned u) W2 ∧ Dv base A db F d W2 ∧ Mv db F w0 W2 ∧ B.RowAt W2 tb #[.pointer (some ⟨db, 0, none⟩), rv] 100 ∧ w' = W2.setCell ⟨tb, 1, none⟩ u := by
  obtain ⟨xa, xc, hpf⟩ := hp.form
  subst hpf
  obtain ⟨P, hP⟩ : ∃ P, P = ps.length := ⟨_, rfl⟩
  obtain ⟨L, hLn⟩ : ∃ L, L = l.length := ⟨_, rfl⟩
  rw [← hP] at hp ⊢
  rw [← hLn] at ho ⊢
  have q0 := below_new w (.cells #[.slice xa P xc, .int .i64 0, .slice none 0 0, .slice none 0 0] 155)
  have xr := B.RowAt.new w #[.slice xa P xc, .int .i64 0, .slice none 0 0, .slice none 0 0] 155
  have HR : Hid (SNR (w.alloc (.cells #[.slice xa P xc, .int .i64 0, .slice none 0 0, .slice none 0 0] 155)) w.heap.size ⟨ps, 0, [], []⟩ (.slice xa P xc) (.slice none 0 0) (.slice none 0 0)) := ⟨xr, hp.below q0, B.LkR.nil _, (C.LkO.nil _ 0).at, hpm.1, hpm.2, (fun p hp => by simp at hp), by simp, by simp⟩
  have hlen : ((L : Int) - 2 = (ss.length : Int) - 1 ∧ L = ss.length + 1) ∨ (L = 0 ∧ ss = []) := by
    rcases hL with ⟨h1, h2⟩ | ⟨q, h1⟩
    · right; rw [hLn, h1]; exact ⟨rfl, h2⟩
    · left; rw [hLn, h1, List.length_append, List.length_map]; exact ⟨by simp; omega, by simp⟩
  have HLEN := hide hlen
  have HSS := hide hss
  have HL := hide hL
  have HO := hide (ho.below q0)
  have HW := hide (hway.away (Away.of q0))
  have HT := hide (ht.below q0)
  have HV := hide (hv.below q0)
  have HV0 := hide hv0
  have HM := hide (hm.trans (Mv.of q0))
  have HFL := hide hfl
  have HSET := hide hset
  have HFK := hide hfk
  have HLN := hide hLn
  have hLs : (L : Int) ≤ 65 := by
    rcases hlen with ⟨_, h⟩ | ⟨h, _⟩ <;> omega
  have hL0 : (0 : Int) ≤ (L : Int) := by omega
  clear hL hss ho hway hp hpm hfl ht hv hv0 hm hset hfk hLn hP q0 xr hlen
  go_enter Tryz.func47, Tryz.ntmps47
  go_wp2
  go_loopw [7, 8] (fun nv iv wr => ∃ (s1 s2 : List (Stp X)) (z : X) (bb : Nat) (nb : SN) (pb lb cb : Value) (i : Int), nv = .pointer (some ⟨bb, 0, none⟩) ∧ iv = .int .i64 i ∧ ss = s1 ++ s2 ∧ (i = (s1.length : Int) - 1 ∨ i = -2 ∧ ss = []) ∧ Way S Pk wr x s1 z ∧ SNR wr bb nb pb lb cb ∧ Fl wr nb z ∧ StO wr w0.heap.size (.slice a L c) l ∧ Dv base A db F d wr ∧ Mv db F w0 wr ∧ B.RowAt wr tb #[.pointer (some ⟨db, 0, none⟩), rv] 100) (fun _ iv _ => (intOf iv + 1).toNat)
  case atStart =>
    refine ⟨ss, [], y, _, _, _, _, _, (L : Int) - 2, rfl, rfl, by simp, ?_, HW.out, HR.out, HFL.out _, HO.out, HV.out, HM.out, HT.out⟩
    rcases HLEN.out with ⟨h, _⟩ | ⟨h1, h2⟩
    · exact .inl h
    · right; subst h1; exact ⟨by omega, h2⟩
  case round =>
    obtain ⟨s1, s2, z, bb, nb, pb, lb, cb, i, rfl, rfl, hsp, hi, hway, hs, hfl, ho, hv, hm, ht⟩ := hrel
    clear HW HR HO HV HM HT
    rcases List.eq_nil_or_concat s1 with rfl | ⟨t, s, rfl⟩
    · have hi0 : ¬ (0 : Int) ≤ i := by
        rcases hi with h | ⟨h, _⟩
        · simp at h; omega
        · omega
      have hz : x = z := hway
      subst hz
      have HRO := hide (rootof_any A bb nb pb lb cb wr hs (HFK.out _ _ _ hfl) hv.errC)
      have HS := hide hs
      have HF := hide hfl
      have HV1 := hide hv
      have HM1 := hide hm
      have HT1 := hide ht
      clear hsp hi hway hs hfl ho hv hm ht
      go_wp2_with fail
      refine HRO.out.mono ?_
      rintro e w2 hro
      have hb2 := hro.1
      obtain ⟨u, hu, huf⟩ : ∃ u, e = .returned u ∧ (u = .nilIface ∨ ∃ t x, u = .iface t x) := by
        rcases hro.2 with ⟨_, _, _, _, _, _, _, _, _, _, _, _, _, _, _, _, _, _, _, h, _⟩ | ⟨_, _, _, p, _, h⟩ | ⟨_, _, _, h⟩ | ⟨_, _, h⟩
        · exact ⟨_, h, .inr (val_form _)⟩
        · exact ⟨_, h, .inr (val_form _)⟩
        · exact ⟨_, h, .inl rfl⟩
        · exact ⟨_, h, .inr (val_form _)⟩
      subst hu
      have ht2 := HT1.out.below hb2
      have k1 := ht2.c1
      have k2 := ht2.free 1
      have HRES : Hid (SNR wr bb nb pb lb cb ∧ Fl wr nb x ∧ RootS wr bb nb (.returned u) w2 ∧ Dv base A db F d w2 ∧ Mv db F w0 w2 ∧ B.RowAt w2 tb #[.pointer (some ⟨db, 0, none⟩), rv] 100) := ⟨HS.out, HF.out, hro, HV1.out.below hb2, HM1.out.trans (Mv.of hb2), ht2⟩
      clear hro hb2 ht2 HRO
      rcases huf with rfl | ⟨ut, ux, rfl⟩
      · go_wp2
        go_ret
        exact .inr ⟨wr, w2, bb, nb, pb, lb, cb, _, rfl, HRES.out.1, HRES.out.2.1, HRES.out.2.2.1, HRES.out.2.2.2.1, HRES.out.2.2.2.2.1, HRES.out.2.2.2.2.2, rfl⟩
      · go_wp2
        go_ret
        exact .inr ⟨wr, w2, bb, nb, pb, lb, cb, _, rfl, HRES.out.1, HRES.out.2.1, HRES.out.2.2.1, HRES.out.2.2.2.1, HRES.out.2.2.2.2.1, HRES.out.2.2.2.2.2, rfl⟩
    · have hii : i = (t.length : Int) := by
        rcases hi with h | ⟨_, h⟩
        · rw [List.concat_eq_append, List.length_append] at h; simp at h; omega
        · rw [h] at hsp
          have := congrArg List.length hsp
          simp at this
      subst hii
      rw [List.concat_eq_append] at hway hsp
      obtain ⟨hw1, hok, hnl, hpk, hlt, hsub⟩ := hway.unsnoc
      have hq : l[t.length]? = some s.lk ∧ t.length < L := by
        rcases HL.out with ⟨_, h2⟩ | ⟨q, h1⟩
        · rw [h2] at hsp
          have := congrArg List.length hsp
          simp at this
        · refine ⟨?_, ?_⟩
          · rw [h1, hsp]; simp
          · rw [HLN.out, h1, hsp]; simp
      have hr := ho.1.at
      have htl : t.length < l.length := by rw [← HLN.out]; exact hq.2
      have hlk : l[t.length] = s.lk := by
        have := List.getElem?_eq_getElem htl
        rw [hq.1] at this
        exact (Option.some.inj this).symm
      obtain ⟨g, o, rfl, c1, c2⟩ := W.LkR.spot hr t.length htl
      rw [hlk] at c1 c2
      have c1' : wr.cell? ⟨g, o + t.length * 2, none⟩ = some (.pointer (some ⟨s.b, 0, none⟩)) := c1
      have c2' : wr.cell? ⟨g, o + t.length * 2 + 1, none⟩ = some (.int .i64 (s.at' : Int)) := c2
      have HCALL := hide (HSET.out wr s z bb nb pb lb cb hv ht hok hnl hpk hlt hsub hs hfl)
      have hi0 : (0 : Int) ≤ (t.length : Int) := by omega
      have hi1 : (t.length : Int) < (L : Int) := by omega
      have HO1 := hide ho
      have HV1 := hide hv
      have HM1 := hide hm
      have HT1 := hide ht
      have HW1 := hide hw1
      have HSP := hide hsp
      clear hsp hi hway hs hfl ho hv hm ht hok hnl hpk hlt hsub hq hr htl hlk c1 c2 hw1
      go_wp2_with fail
      refine HCALL.out.mono ?_
      rintro e w1 ⟨hup, hv1, hm1⟩
      have aw := hm1.away HV1.out
      have HT2 := hide (tree_away aw HT1.out)
      have HM2 := hide (HM1.out.trans hm1)
      have HV2 := hide hv1
      rcases hup with ⟨hE, rfl⟩ | ⟨b', n', pv', lv', cv', rfl, hs', hf'⟩
      · have HRES : Hid (S.E ∧ Dv base A db F d w1 ∧ Mv db F w0 w1 ∧ B.RowAt w1 tb #[.pointer (some ⟨db, 0, none⟩), rv] 100) := ⟨hE, HV2.out, HM2.out, HT2.out⟩
        unfold badE
        clear hE hv1 hm1 aw HCALL c1' c2'
        go_wp2
        go_ret
        exact .inl ⟨HRES.out.1, rfl, HRES.out.2⟩
      · have HREL : Hid (∃ (s1 s2 : List (Stp X)) (z : X) (bb : Nat) (nb : SN) (pb lb cb : Value) (i : Int), (.pointer (some ⟨b', 0, none⟩) : Value) = .pointer (some ⟨bb, 0, none⟩) ∧ (.int .i64 ((t.length : Int) - 1) : Value) = .int .i64 i ∧ ss = s1 ++ s2 ∧ (i = (s1.length : Int) - 1 ∨ i = -2 ∧ ss = []) ∧ Way S Pk w1 x s1 z ∧ SNR w1 bb nb pb lb cb ∧ Fl w1 nb z ∧ StO w1 w0.heap.size (.slice (some ⟨g, o, none⟩) L c) l ∧ Dv base A db F d w1 ∧ Mv db F w0 w1 ∧ B.RowAt w1 tb #[.pointer (some ⟨db, 0, none⟩), rv] 100) := ⟨t, s :: s2, s.x, b', n', pv', lv', cv', _, rfl, rfl, by rw [HSP.out]; simp, .inl rfl, HW1.out.away aw, hs', hf', HO1.out.mv hm1 HV0.out.dblt, HV2.out, HM2.out, HT2.out⟩
        clear hv1 hm1 aw HCALL c1' c2' hs' hf'
        go_wp2
        go_roundw
        case rel => exact HREL.out
        case measure => simp [intOf]

end Go.Proofs.YtnaedmmfiiebaaaGreatDoor.T

namespace Go.Proofs.YtnaedmmfiiebaaaGreatDoor.T
open Go.RowKit

/-! Trees that need not be sound. -/
/-- A child below which there are at most so many nodes in memory one below the other. -/
def AnyK (w : World) : Nat → C.Ch → Prop
  | _, .pg _ => True
  | 0, .nd _ => False
  | k + 1, .nd b => ∃ n pv lv cv, SNR w b n pv lv cv ∧ Fit n ∧ ∀ p ∈ n.us, AnyK w k p
theorem AnyK.away {w w' : World} (ha : Away w w') : ∀ {k : Nat} {p : C.Ch}, AnyK w k p → AnyK w' k p
  | 0, .pg _, _ => trivial
  | _ + 1, .pg _, _ => trivial
  | _ + 1, .nd _, ⟨n, pv, lv, cv, h1, h2, h3⟩ => ⟨n, pv, lv, cv, h1.away ha, h2, fun p hp => AnyK.away ha (h3 p hp)⟩
theorem AnyK.up {w : World} : ∀ {k : Nat} {p : C.Ch}, AnyK w k p → AnyK w (k + 1) p
  | 0, .pg _, _ => trivial
  | _ + 1, .pg _, _ => trivial
  | _ + 1, .nd _, ⟨n, pv, lv, cv, h1, h2, h3⟩ => ⟨n, pv, lv, cv, h1, h2, fun p hp => AnyK.up (h3 p hp)⟩
theorem AnyK.mono {w : World} {k m : Nat} {p : C.Ch} (h : AnyK w k p) (hm : k ≤ m) : AnyK w m p := by
  induction hm with
  | refl => exact h
  | step _ ih => exact ih.up
def Any (w : World) (p : C.Ch) : Prop := ∃ k, AnyK w k p
theorem Any.away {w w' : World} {p : C.Ch} (h : Any w p) (ha : Away w w') : Any w' p := by
  obtain ⟨k, h⟩ := h
  exact ⟨k, h.away ha⟩
theorem Any.pg (w : World) (id : Int) : Any w (.pg id) := ⟨0, trivial⟩
theorem any_all {w : World} : ∀ {l : List C.Ch}, (∀ p ∈ l, Any w p) → ∃ k, ∀ p ∈ l, AnyK w k p
  | [], _ => ⟨0, fun p hp => by simp at hp⟩
  | q :: l, h => by
    obtain ⟨k, hk⟩ := any_all (l := l) fun p hp => h p (List.mem_cons_of_mem _ hp)
    obtain ⟨m, hm⟩ := h q List.mem_cons_self
    refine ⟨max k m, fun p hp => ?_⟩
    rcases List.mem_cons.1 hp with rfl | hp
    · exact hm.mono (Nat.le_max_right _ _)
    · exact (hk p hp).mono (Nat.le_max_left _ _)
theorem Any.nd {w : World} {b : Nat} {n : SN} {pv lv cv : Value} (hs : SNR w b n pv lv cv) (hf : Fit n) (hk : ∀ p ∈ n.us, Any w p) : Any w (.nd b) := by
  obtain ⟨k, h⟩ := any_all hk
  exact ⟨k + 1, n, pv, lv, cv, hs, hf, h⟩
def NAny (w : World) (n : SN) : Prop := Fit n ∧ ∀ p ∈ n.us, Any w p
theorem Any.node {w : World} {b : Nat} (h : Any w (.nd b)) : ∃ n pv lv cv, SNR w b n pv lv cv ∧ NAny w n := by
  obtain ⟨k, h⟩ := h
  cases k with
  | zero => exact absurd h id
  | succ k =>
    obtain ⟨n, pv, lv, cv, h1, h2, h3⟩ := h
    exact ⟨n, pv, lv, cv, h1, h2, fun p hp => ⟨k, h3 p hp⟩⟩
theorem SN.sz_leaf {n : SN} (h : n.us.length = 0) : n.sz = szL n.ps := by unfold SN.sz; rw [if_pos h]
theorem SN.sz_br {n : SN} (h : ¬ n.us.length = 0) : n.sz = B.szB n.lk := by unfold SN.sz; rw [if_neg h]
theorem page_any {d : S.V.Dev} {id : Int} {p : PD} (h : PGof d id = some p) (w : World) : NAny w p.sn := by
  obtain ⟨s, hs, hh⟩ := pgof_some h
  rcases hh with ⟨_, hd, rfl⟩ | ⟨_, hd, rfl⟩
  · have hc := chk_none hd.2.2
    refine ⟨⟨.inl rfl, ?_, .inl rfl⟩, fun q hq => by simp [PD.sn] at hq⟩
    rw [SN.sz_leaf (by rfl)]
    exact hc.2.2.1
  · have hc := B.chkB_none hd.2.2
    refine ⟨⟨.inr ?_, ?_, .inr ?_⟩, fun q hq => ?_⟩
    · show (pgs _ _).length = _
      rw [pgs_len]; rfl
    · rw [SN.sz_br (by show ¬ (pgs _ _).length = 0; rw [pgs_len]; omega)]
      exact hc.2.2.2.2.2.1
    · show 1 ≤ (B.brL _).length
      exact List.length_pos_iff.2 hc.1
    · obtain ⟨i, hi, rfl⟩ := List.getElem_of_mem hq
      obtain ⟨x, _, e⟩ := pgs_get _ _ i _ (List.getElem?_eq_getElem hi)
      have e : (PD.sn _).us[i] = .pg x := e
      rw [e]
      exact Any.pg w x
/-- Trees of any kind as what a tree's children are taken for. -/
def anyS (d : S.V.Dev) : Sys d Unit where
  K := fun w p _ => Any w p
  N := fun w n _ => NAny w n
  E := True
  sub := fun _ _ _ => True
  rk := fun _ => 0
  ka := fun ha h => h.away ha
  na := fun ha h => ⟨h.1, fun p hp => (h.2 p hp).away ha⟩
  kid := fun h hp => ⟨(), trivial, h.2 _ (List.mem_of_getElem? hp)⟩
  fit := fun h => h.1
  page := fun {_ id _} _ => by
    cases hp : PGof d id with
    | none => exact .inl ⟨rfl, trivial⟩
    | some p => exact .inr ⟨p, rfl, fun w' => page_any hp w'⟩
  node := fun h => h.node
  rks := .inl trivial

/-! Sizes. -/
/-- As big as a node may be on the way up. -/
def SN.maxs (n : SN) : Nat := if n.us.length = 0 then 5627 else 7884
theorem cutS_fit {n a c : SN} {k : ByteArray} (hc : CutS n a k c) (hf : (∀ p ∈ n.ps, mayP p = true) ∧ ∀ p ∈ n.lk, mayKey p.1) (hkin : n.kin) (h1 : 4072 < n.sz) (h2 : n.sz ≤ n.maxs) : Fit a ∧ Fit c ∧ (∀ p ∈ a.us, p ∈ n.us) ∧ ∀ p ∈ c.us, p ∈ n.us := by
  rcases hc with ⟨h0, i, v, hb, hv, rfl, rfl⟩ | ⟨h0, i, f2, z, hb, hv, rfl, rfl⟩
  · rw [SN.sz_leaf h0] at h1 h2
    unfold SN.maxs at h2
    rw [if_pos h0] at h2
    have hlen := szL_max hf.1
    have hsl : (szsN n.ps).length = n.ps.length := by simp [szsN]
    have hget : ∀ j (hj : j < (szsN n.ps).length), 1 ≤ (szsN n.ps)[j] ∧ (szsN n.ps)[j] ≤ 960 := fun j hj => by
      have hj' : j < n.ps.length := by rw [← hsl]; exact hj
      have := may_parts' (hf.1 n.ps[j] (List.getElem_mem hj'))
      simp only [szsN, List.getElem_map]; unfold szP; omega
    have hev := cut_even (m := 960) (fun j hj => by have := hget j hj; omega) (by rw [hsl]; omega) (fun j hj => (hget j hj).2) hb
    unfold gapC at hev
    rw [hsl, pre_szsN, pre_szsN, List.take_length] at hev
    have hsum : szL n.ps = szL (n.ps.take i) + szL (n.ps.drop i) := by rw [← szL_append, List.take_append_drop]
    refine ⟨⟨.inl rfl, ?_, .inl rfl⟩, ⟨.inl rfl, ?_, .inl rfl⟩, fun p hp => by simp at hp, fun p hp => by simp at hp⟩
    · rw [SN.sz_leaf rfl]; show szL (n.ps.take i) ≤ 4072; omega
    · rw [SN.sz_leaf rfl]; show szL (n.ps.drop i) ≤ 4072; omega
  · have hlen := hkin.resolve_left h0
    rw [SN.sz_br h0, ← szKs_szB] at h1 h2
    unfold SN.maxs at h2
    rw [if_neg h0] at h2
    have hkeys : ∀ q ∈ n.lk.map (·.1), mayKey q := fun q hq => by
      obtain ⟨p, hp, rfl⟩ := List.mem_map.1 hq
      exact hf.2 p hp
    have hmx := szKs_max hkeys
    obtain ⟨ks, hks⟩ : ∃ ks, ks = n.lk.map (·.1) := ⟨_, rfl⟩
    have hkl : ks.length = n.lk.length := by rw [hks, List.length_map]
    rw [← hks] at h1 h2 hkeys hmx hb
    have hsl : (szsKs ks).length = ks.length := by simp [szsKs]
    have hget : ∀ j (hj : j < (szsKs ks).length), 8 ≤ (szsKs ks)[j] ∧ (szsKs ks)[j] ≤ 262 := fun j hj => by
      have hj' : j < ks.length := by rw [← hsl]; exact hj
      have := hkeys ks[j] (List.getElem_mem hj')
      simp only [szsKs, List.getElem_map]; unfold mayKey at this; omega
    have hev := pivot_even (m := 262) (fun j hj => by have := hget j hj; omega) (by rw [hsl]; omega) (fun j hj => (hget j hj).2) hb
    have hib := hb.1
    rw [hsl] at hib
    have hki : ks[i]? = some k := by rw [hks, List.getElem?_map, hv]; rfl
    obtain ⟨hi', hvi⟩ := List.getElem?_eq_some_iff.1 hki
    have e1 := pre_szsKs ks i
    have e2 := pre_szsKs ks (i + 1)
    have e3 := pre_szsKs ks ks.length
    rw [List.take_length] at e3
    have hsplit : ks = ks.take i ++ k :: ks.drop (i + 1) := by rw [← hvi, ← List.drop_eq_getElem_cons hi', List.take_append_drop]
    have e4 := szKs_append (ks.take i) (k :: ks.drop (i + 1))
    have e5 := szKs_cons k (ks.drop (i + 1))
    rw [← hsplit] at e4
    have e6 : szKs (ks.take (i + 1)) = szKs (ks.take i) + (7 + k.size) := by
      have := szKs_append (ks.take i) [k]
      rw [List.take_succ_eq_append_getElem hi', hvi]
      have e7 := szKs_cons k []
      have e8 : szKs [] = 6 := rfl
      omega
    have hkm := hkeys k (by rw [← hvi]; exact List.getElem_mem hi')
    unfold mayKey at hkm
    unfold gapP at hev
    rw [hsl] at hev
    have ea : szKs (ks.take i) = B.szB (n.lk.take i) := by rw [hks, ← List.map_take, szKs_szB]
    have ec : szKs (ks.drop (i + 1)) = B.szB (n.lk.drop (i + 1)) := by rw [hks, ← List.map_drop, szKs_szB]
    have l1 : ¬ (n.us.take (i + 1)).length = 0 := by rw [List.length_take]; omega
    have l2 : ¬ (n.us.drop (i + 1)).length = 0 := by rw [List.length_drop]; omega
    refine ⟨⟨.inr ?_, ?_, .inr ?_⟩, ⟨.inr ?_, ?_, .inr ?_⟩, fun p hp => List.mem_of_mem_take hp, fun p hp => List.mem_of_mem_drop hp⟩
    · show (n.us.take (i + 1)).length = (n.lk.take i).length + 1
      rw [List.length_take, List.length_take]; omega
    · rw [SN.sz_br l1]; show B.szB (n.lk.take i) ≤ 4072; rw [← ea]; omega
    · show 1 ≤ (n.lk.take i).length; rw [List.length_take]; omega
    · show (n.us.drop (i + 1)).length = (n.lk.drop (i + 1)).length + 1
      rw [List.length_drop, List.length_drop]; omega
    · rw [SN.sz_br l2]; show B.szB (n.lk.drop (i + 1)) ≤ 4072; rw [← ec]; omega
    · show 1 ≤ (n.lk.drop (i + 1)).length; rw [List.length_drop]; omega

end Go.Proofs.YtnaedmmfiiebaaaGreatDoor.T

namespace Go.Proofs.YtnaedmmfiiebaaaGreatDoor.T
open Go.RowKit

/-- A node on the way up. -/
def FlA (w : World) (n : SN) (_ : Unit) : Prop := n.kin ∧ n.sz ≤ n.maxs ∧ ∀ p ∈ n.us, Any w p
theorem szB_ins (l : List B.Lk) (i : Nat) (q : B.Lk) : B.szB (B.insL l i q) = B.szB l + (7 + q.1.size) := by
  have e1 := szKs_append ((l.take i).map (·.1)) (q.1 :: (l.drop i).map (·.1))
  have e2 := szKs_cons q.1 ((l.drop i).map (·.1))
  have e3 := szKs_append ((l.take i).map (·.1)) ((l.drop i).map (·.1))
  rw [← List.map_append, List.take_append_drop, szKs_szB] at e3
  have e4 : B.szB (B.insL l i q) = szKs ((l.take i).map (·.1) ++ q.1 :: (l.drop i).map (·.1)) := by
    rw [← szKs_szB]; unfold B.insL; rw [List.map_append, List.map_cons]
  omega
theorem szB_rem (l : List B.Lk) (i : Nat) : B.szB (B.remL l i) ≤ B.szB l := by
  have e1 := szKs_append ((l.take i).map (·.1)) ((l.drop (i + 1)).map (·.1))
  rw [← List.map_append, szKs_szB] at e1
  have e1' : B.szB (B.remL l i) + 6 = szKs ((l.take i).map (·.1)) + szKs ((l.drop (i + 1)).map (·.1)) := e1
  have e3 := szKs_append ((l.take i).map (·.1)) ((l.drop i).map (·.1))
  rw [← List.map_append, List.take_append_drop, szKs_szB] at e3
  by_cases h : i < l.length
  · have e4 := szKs_cons l[i].1 ((l.drop (i + 1)).map (·.1))
    rw [List.drop_eq_getElem_cons h, List.map_cons] at e3
    omega
  · have : l.drop (i + 1) = [] := List.drop_eq_nil_of_le (by omega)
    rw [this] at e1'
    have := szKs_six ((l.drop i).map (·.1))
    have e8 : szKs (([] : List B.Lk).map (·.1)) = 6 := rfl
    omega
theorem szB_join (a b : List B.Lk) (k : ByteArray) (f : Int) : B.szB (B.joinL a k f b) + 6 = B.szB a + B.szB b + (7 + k.size) := by
  have e1 := szKs_append (a.map (·.1)) (k :: b.map (·.1))
  have e2 := szKs_cons k (b.map (·.1))
  rw [szKs_szB] at e1 e2
  have e4 : B.szB (B.joinL a k f b) = szKs (a.map (·.1) ++ k :: b.map (·.1)) := by
    rw [← szKs_szB]; unfold B.joinL; rw [List.map_append, List.map_cons]
  omega
theorem WithS.below {w : World} {n : SN} {i bb : Nat} {nb : SN} {e : Ending} {w' : World} (h : WithS w n i bb nb e w') : Below w.heap.size w w' := by
  rcases h with ⟨_, _, _, _, _, _, _, h⟩ | ⟨_, _, _, _, _, _, _, _, _, _, _, _, _, _, _, _, _, _, _, _, _, h⟩
  · exact h
  · exact h
theorem with_any {w2 w' : World} {n nb : SN} {i bb : Nat} {pb lb cb : Value} {e : Ending} (hlen : n.us.length = n.lk.length + 1) (hsz : B.szB n.lk ≤ 4072) (hkids : ∀ j p, j ≠ i → n.us[j]? = some p → Any w2 p) (hi : i < n.us.length) (hs : SNR w2 bb nb pb lb cb) (hfl : FlA w2 nb ()) (hfit : ¬ 4072 < nb.sz → Fit nb) (hw : WithS w2 n i bb nb e w') :
    ∃ b' n' pv lv cv, e = .returned (.pointer (some ⟨b', 0, none⟩)) ∧ SNR w' b' n' pv lv cv ∧ FlA w' n' () := by
  have aw := Away.of hw.below
  have hset : ∀ x, Any w' x → ∀ q ∈ n.us.set i x, Any w' q := fun x hx q hq => by
    obtain ⟨j, hj, rfl⟩ := List.getElem_of_mem hq
    by_cases e : j = i
    · subst e
      rw [List.getElem_set_self]; exact hx
    · rw [List.getElem_set_ne (fun h => e h.symm)]
      exact (hkids j _ e (List.getElem?_eq_getElem _)).away aw
  rcases hw with ⟨g1, b', pv, lv, cv, rfl, g2, g3⟩ | ⟨g1, a, k, c, ba, bc, pa, la, ca, pc, lc, cc, g2, ha, hc, b', pv, lv, cv, rfl, g5, g6⟩
  · have hl : ¬ (n.us.set i (.nd bb)).length = 0 := by rw [List.length_set]; omega
    refine ⟨b', _, pv, lv, cv, rfl, g2, .inr ?_, ?_, fun p hp => ?_⟩
    · show (n.us.set i _).length = n.lk.length + 1
      rw [List.length_set]; exact hlen
    · rw [SN.sz_br hl]
      unfold SN.maxs
      rw [if_neg hl]
      show B.szB n.lk ≤ 7884
      omega
    · exact hset _ (Any.nd (hs.away aw) (hfit g1) (fun q hq => (hfl.2.2 q hq).away aw)) p hp
  · obtain ⟨f1, f2, f3, f4⟩ := cutS_fit g2 ⟨hs.fine.1, hs.fine.2.2.1⟩ hfl.1 g1 hfl.2.1
    have hk := g2.key hs.fine.1 hs.fine.2.2.1
    have hl : ¬ (C.insL (n.us.set i (.nd ba)) (i + 1) (.nd bc)).length = 0 := by unfold C.insL; simp
    refine ⟨b', _, pv, lv, cv, rfl, g5, .inr ?_, ?_, fun p hp => ?_⟩
    · show (C.insL (n.us.set i _) (i + 1) _).length = (B.insL n.lk i (k, 0)).length + 1
      unfold C.insL B.insL
      simp only [List.length_append, List.length_cons, List.length_take, List.length_drop, List.length_set]
      omega
    · rw [SN.sz_br hl]
      unfold SN.maxs
      rw [if_neg hl]
      show B.szB (B.insL n.lk i (k, 0)) ≤ 7884
      rw [szB_ins]
      have : k.size ≤ 255 := hk.2
      show B.szB n.lk + (7 + k.size) ≤ 7884
      omega
    · have hp : p ∈ C.insL (n.us.set i (.nd ba)) (i + 1) (.nd bc) := hp
      unfold C.insL at hp
      have hset := hset (.nd ba) (Any.nd ha f1 (fun q hq => (hfl.2.2 q (f3 q hq)).away aw))
      rcases List.mem_append.1 hp with hp | hp
      · exact hset p (List.mem_of_mem_take hp)
      · rcases List.mem_cons.1 hp with rfl | hp
        · exact Any.nd hc f2 (fun q hq => (hfl.2.2 q (f4 q hq)).away aw)
        · exact hset p (List.mem_of_mem_drop hp)
theorem FlA.away {w w' : World} {n : SN} (h : FlA w n ()) (ha : Away w w') : FlA w' n () := ⟨h.1, h.2.1, fun p hp => (h.2.2 p hp).away ha⟩
theorem szB_nil : B.szB [] = 6 := rfl
/-- What two nodes together are. -/
theorem join_any {w : World} {a b : SN} {k : ByteArray} (ha : a.kin) (hb : b.kin) (hs : a.us.length = 0 ↔ b.us.length = 0) (hk : mayKey k) (hka : ∀ p ∈ a.us, Any w p) (hkb : ∀ p ∈ b.us, Any w p) (hsz : a.sz < a.min ∧ b.sz ≤ 4072 ∨ a.sz ≤ 4072 ∧ b.sz < b.min) : FlA w (a.join k b) () ∧ (¬ 4072 < (a.join k b).sz → Fit (a.join k b)) := by
  have hkin := join_kin (key := k) ha hb hs
  unfold SN.min at hsz
  by_cases h0 : a.us.length = 0
  · have h1 := hs.1 h0
    rw [SN.sz_leaf h0, SN.sz_leaf h1, if_pos h0, if_pos h1] at hsz
    have e : a.join k b = ⟨a.ps ++ b.ps, 0, [], []⟩ := by unfold SN.join; rw [if_pos h0]
    rw [e] at hkin ⊢
    refine ⟨⟨hkin, ?_, fun p hp => by simp at hp⟩, fun h => ⟨hkin, by omega, .inl rfl⟩⟩
    rw [SN.sz_leaf (by rfl)]
    unfold SN.maxs
    rw [if_pos (by rfl)]
    show szL (a.ps ++ b.ps) ≤ 5627
    rw [szL_append]; omega
  · have h1 : ¬ b.us.length = 0 := fun h => h0 (hs.2 h)
    rw [SN.sz_br h0, SN.sz_br h1, if_neg h0, if_neg h1] at hsz
    have e : a.join k b = ⟨[], a.f, B.joinL a.lk k b.f b.lk, a.us ++ b.us⟩ := by unfold SN.join; rw [if_neg h0]
    rw [e] at hkin ⊢
    have hl : ¬ (a.us ++ b.us).length = 0 := by rw [List.length_append]; omega
    refine ⟨⟨hkin, ?_, fun p hp => ?_⟩, fun h => ⟨hkin, by omega, .inr ?_⟩⟩
    · rw [SN.sz_br hl]
      unfold SN.maxs
      rw [if_neg hl]
      show B.szB (B.joinL a.lk k b.f b.lk) ≤ 7884
      have := szB_join a.lk b.lk k b.f
      have : k.size ≤ 255 := hk.2
      omega
    · rcases List.mem_append.1 hp with hp | hp
      · exact hka p hp
      · exact hkb p hp
    · show 1 ≤ (B.joinL a.lk k b.f b.lk).length
      unfold B.joinL
      rw [List.length_append, List.length_cons]; omega

theorem settle_any {base : Nat} {A : Nat → Addr} {db : Nat} {F : Nat → Prop} {d : S.V.Dev} (Pk : SN → Nat → Prop) (tb : Nat) (rv : Value) (W : World) (s : Stp Unit) (z : Unit) (bb : Nat) (nb : SN) (pb lb cb : Value) (hv : Dv base A db F d W) (ht : B.RowAt W tb #[.pointer (some ⟨db, 0, none⟩), rv] 100) (hok : OkS (anyS d) W s) (hnl : ¬ s.n.us.length = 0) (_ : Pk s.n s.at') (hlt : s.at' < s.n.us.length) (_ : (anyS d).sub s.x s.at' z) (hs : SNR W bb nb pb lb cb) (hfl : FlA W nb z) :
    Calls Tryz.prog 82 #[.pointer (some ⟨tb, 0, none⟩), .agg #[.pointer (some ⟨s.b, 0, none⟩), .int .i64 (s.at' : Int)], .pointer (some ⟨bb, 0, none⟩)] W fun e w' => UpS (anyS d) A FlA s.x e w' ∧ Dv base A db F d w' ∧ Mv db F W w' := by
  obtain ⟨⟨pv, lv, cv, hsn⟩, hn⟩ := hok
  have hn : NAny W s.n := hn
  obtain ⟨b, n, i, x⟩ := s
  simp only at *
  have hlen := hn.1.1.resolve_left hnl
  have hsz := hn.1.2.1
  rw [SN.sz_br hnl] at hsz
  have h1 := hn.1.2.2.resolve_left hnl
  have hmx := B.szB_len n.lk
  by_cases hsm : nb.sz < nb.min
  · have hp : ∃ p, n.us[if i = 0 then 1 else i - 1]? = some p := ⟨_, List.getElem?_eq_getElem (by split <;> omega)⟩
    obtain ⟨p, hp⟩ := hp
    have hsb : nb.sz ≤ 4072 := by unfold SN.min at hsm; split at hsm <;> omega
    have hfin : ∀ (jn : ByteArray → SN → SN) (l : Nat), l < n.lk.length → (i = l ∨ i = l + 1) → (∀ (w2 : World) k m, mayKey k → NAny w2 m → (m.us.length = 0 ↔ nb.us.length = 0) → FlA w2 nb () → FlA w2 (jn k m) () ∧ (¬ 4072 < (jn k m).sz → Fit (jn k m))) → ∀ e w', SettleJ (anyS d) A db F W n i l bb nb () jn e w' → UpS (anyS d) A FlA x e w' := by
      intro jn l hl hil hj e w' hh
      rcases hh with ⟨_, rfl⟩ | ⟨b', w2, m, k, zz, bj, pj, lj, cj, rfl, hm2, hlk, hnm, hkd, hsj, hws⟩
      · exact .inl ⟨trivial, rfl⟩
      · have aw := hm2.away hv
        obtain ⟨j1, j2⟩ := hj w2 k m (hsn.fine.2.2.1 _ (List.mem_of_getElem? hlk)) hnm hkd (hfl.away aw)
        have hr1 : (B.remL n.lk l).length = n.lk.length - 1 := by unfold B.remL; rw [List.length_append, List.length_take, List.length_drop]; omega
        have hr2 : (C.remL (n.us.set i (.nd bb)) (l + 1)).length = n.us.length - 1 := by unfold C.remL; rw [List.length_append, List.length_take, List.length_drop, List.length_set]; omega
        obtain ⟨b2, n2, p2, l2, c2, he, g1, g2⟩ := with_any (n := ⟨[], n.f, B.remL n.lk l, C.remL (n.us.set i (.nd bb)) (l + 1)⟩) (by show (C.remL _ _).length = (B.remL _ _).length + 1; omega) (by show B.szB (B.remL n.lk l) ≤ 4072; have := szB_rem n.lk l; omega) (fun j q hj hq => by
          have hq : (C.remL (n.us.set i (.nd bb)) (l + 1))[j]? = some q := hq
          have hjl : j < (C.remL (n.us.set i (.nd bb)) (l + 1)).length := (List.getElem?_eq_some_iff.1 hq).1
          unfold C.remL at hq
          by_cases hjl2 : j < l + 1
          · rw [List.getElem?_append_left (by rw [List.length_take, List.length_set]; omega), List.getElem?_take, if_pos hjl2, List.getElem?_set_ne (by omega)] at hq
            exact (hn.2 q (List.mem_of_getElem? hq)).away aw
          · rw [List.getElem?_append_right (by rw [List.length_take, List.length_set]; omega), List.getElem?_drop, List.length_take, List.length_set, List.getElem?_set_ne (by omega)] at hq
            exact (hn.2 q (List.mem_of_getElem? hq)).away aw) (by show l < (C.remL _ _).length; omega) hsj j1 j2 hws
        cases he
        exact .inr ⟨b', n2, p2, l2, c2, rfl, g1, g2⟩
    cases i with
    | zero =>
      refine (settle_zero (anyS d) tb rv b bb n nb pv lv cv pb lb cb () p W hsn hs hlt hlen (by omega) (by omega) hfl.1 hsm hp (hn.2 p (List.mem_of_getElem? hp)) ht hv (.inl trivial)).mono fun e w' hh => ?_
      exact ⟨hfin _ 0 (by omega) (.inl rfl) (fun w2 k m hk hm hkd hfb => join_any hfb.1 hm.1.1 hkd.symm hk hfb.2.2 hm.2 (.inl ⟨hsm, hm.1.2.1⟩)) e w' hh.1, hh.2⟩
    | succ j =>
      have hp : n.us[j]? = some p := hp
      have hc := settle_succ (anyS d) tb rv b bb n nb pv lv cv pb lb cb j () p W hsn hs hlt hlen (by omega) (by omega) hfl.1 hsm hp (hn.2 p (List.mem_of_getElem? hp)) ht hv (.inl trivial)
      rw [show ((j + 1 : Nat) : Int) = (j : Int) + 1 by omega]
      refine hc.mono fun e w' hh => ?_
      exact ⟨hfin _ j (by omega) (.inr rfl) (fun w2 k m hk hm hkd hfb => join_any hm.1.1 hfb.1 hkd hk hm.2 hfb.2.2 (.inr ⟨hm.1.2.1, hsm⟩)) e w' hh.1, hh.2⟩
  · refine (settle_plain A tb b bb n nb pv lv cv pb lb cb i W hsn hs hlt hlen (by omega) hfl.1 hsm hv.errC).mono fun e w' hh => ?_
    obtain ⟨b', rfl, hws⟩ := hh
    have hbw := hws.below
    obtain ⟨b2, n2, p2, l2, c2, he, g1, g2⟩ := with_any hlen hsz (fun j p _ hj => hn.2 p (List.mem_of_getElem? hj)) hlt hs hfl (fun h => ⟨hfl.1, by omega, by
      by_cases h0 : nb.us.length = 0
      · exact .inl h0
      · right
        unfold SN.min at hsm
        rw [SN.sz_br h0, if_neg h0] at hsm
        cases hlk : nb.lk with
        | nil => rw [hlk, szB_nil] at hsm; omega
        | cons _ _ => simp⟩) hws
    cases he
    exact ⟨.inr ⟨b', n2, p2, l2, c2, rfl, g1, g2⟩, hv.below hbw, Mv.of hbw⟩

end Go.Proofs.YtnaedmmfiiebaaaGreatDoor.T
