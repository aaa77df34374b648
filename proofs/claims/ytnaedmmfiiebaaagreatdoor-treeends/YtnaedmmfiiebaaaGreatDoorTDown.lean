import Derived.Test.YtnaedmmfiiebaaaGreatDoorG35
namespace Go.Proofs.YtnaedmmfiiebaaaGreatDoor.T
open Go.RowKit

/-- A step of a way, with what its node stands for. -/
structure Stp (X : Type) where
  b : Nat
  n : SN
  at' : Nat
  x : X
def Stp.lk {X : Type} (s : Stp X) : W.Lk := (s.b, (s.at' : Int))
def OkS {d : S.V.Dev} {X : Type} (S : Sys d X) (w : World) (s : Stp X) : Prop := (∃ pv lv cv, SNR w s.b s.n pv lv cv) ∧ S.N w s.n s.x
theorem OkS.away {d : S.V.Dev} {X : Type} {S : Sys d X} {w w' : World} {s : Stp X} (h : OkS S w s) (ha : Away w w') : OkS S w' s := by
  obtain ⟨⟨pv, lv, cv, h1⟩, h2⟩ := h
  exact ⟨⟨pv, lv, cv, h1.away ha⟩, S.na ha h2⟩
/-- A way down from x to y. -/
def Way {d : S.V.Dev} {X : Type} (S : Sys d X) (Pk : SN → Nat → Prop) (w : World) : X → List (Stp X) → X → Prop
  | x, [], y => x = y
  | x, s :: t, y => s.x = x ∧ OkS S w s ∧ ¬ s.n.us.length = 0 ∧ Pk s.n s.at' ∧ s.at' < s.n.us.length ∧ ∃ z, S.sub x s.at' z ∧ Way S Pk w z t y
theorem Way.away {d : S.V.Dev} {X : Type} {S : Sys d X} {Pk : SN → Nat → Prop} {w w' : World} (ha : Away w w') : ∀ {t : List (Stp X)} {x y : X}, Way S Pk w x t y → Way S Pk w' x t y
  | [], _, _, h => h
  | _ :: _, _, _, ⟨h1, h2, h3, h4, h5, z, h6, h7⟩ => ⟨h1, h2.away ha, h3, h4, h5, z, h6, Way.away ha h7⟩
theorem Way.snoc {d : S.V.Dev} {X : Type} {S : Sys d X} {Pk : SN → Nat → Prop} {w : World} : ∀ {t : List (Stp X)} {x y z : X} {s : Stp X}, Way S Pk w x t y → s.x = y → OkS S w s → ¬ s.n.us.length = 0 → Pk s.n s.at' → s.at' < s.n.us.length → S.sub y s.at' z → Way S Pk w x (t ++ [s]) z
  | [], _, _, z, _, h, g1, g2, g3, g4, g5, g6 => by
    have h : _ = _ := h
    subst h
    exact ⟨g1, g2, g3, g4, g5, z, g6, rfl⟩
  | _ :: _, _, _, _, _, ⟨h1, h2, h3, h4, h5, z, h6, h7⟩, g1, g2, g3, g4, g5, g6 => ⟨h1, h2, h3, h4, h5, z, h6, Way.snoc h7 g1 g2 g3 g4 g5 g6⟩
theorem Way.rank {d : S.V.Dev} {X : Type} {S : Sys d X} {Pk : SN → Nat → Prop} {w : World} : ∀ {t : List (Stp X)} {x y : X}, Way S Pk w x t y → S.E ∨ S.rk y + t.length ≤ S.rk x
  | [], _, _, h => by
    have h : _ = _ := h
    subst h
    exact .inr (Nat.le_refl _)
  | s :: t, x, _, ⟨_, _, _, _, _, z, h6, h7⟩ => by
    rcases S.rks with h | h
    · exact .inl h
    · rcases Way.rank h7 with g | g
      · exact .inl g
      · have := h x s.at' z h6
        right; rw [List.length_cons]; omega
/-- What stays: all blocks but the device's and the list's. -/
def Kept (db : Nat) (v : Value) (w w' : World) : Prop := w.heap.size ≤ w'.heap.size ∧ ∀ k, k < w.heap.size → k ≠ db → v.ownBlock ≠ some k → w'.heap[k]? = w.heap[k]?
theorem Kept.mv {db : Nat} {F : Nat → Prop} {v : Value} {w w1 w2 : World} (h : Kept db v w w1) (hm : Mv db F w1 w2) : Kept db v w w2 := ⟨Nat.le_trans h.1 hm.size, fun k hk hd hv => (hm.one.block k (Nat.lt_of_lt_of_le hk h.1) hd).trans (h.2 k hk hd hv)⟩
theorem Kept.below {db : Nat} {v : Value} {w w1 w2 : World} (h : Kept db v w w1) (hb : Below w1.heap.size w1 w2) : Kept db v w w2 := ⟨Nat.le_trans h.1 hb.size, fun k hk hd hv => (hb.block k (Nat.lt_of_lt_of_le hk h.1)).trans (h.2 k hk hd hv)⟩
theorem Kept.grow {db : Nat} {v vv : Value} {w w1 w2 : World} {o : Obj} (h : Kept db v w w1) (hob : ∀ g, vv.ownBlock = some g → v.ownBlock = some g ∨ w.heap.size ≤ g) (hg : (w1.alloc o).grownBy w2 vv.ownBlock) : Kept db v w w2 := by
  have hs := hg.size
  simp at hs
  refine ⟨Nat.le_trans h.1 (by omega), fun k hk hd hv => ?_⟩
  have hk1 := Nat.lt_of_lt_of_le hk h.1
  rw [hg.block k (by simp; omega) (fun e => by
    rcases hob k e.symm with e' | e'
    · exact hv e'
    · omega), heap_alloc_old w1 o hk1]
  exact h.2 k hk hd hv
def slLen : Value → Nat
  | .slice _ n _ => n
  | _ => 0
/-- What goDown answers. -/
def DownS {d : S.V.Dev} {X : Type} (S : Sys d X) (Pk : SN → Nat → Prop) (A : Nat → Addr) (pre : List W.Lk) (x : X) (bs : Nat) (e : Ending) (w' : World) : Prop :=
  (S.E ∧ e = .returned (.tuple #[.slice none 0 0, .iface 360 (.pointer (some (A 8)))])) ∨
  ∃ (ss : List (Stp X)) (s : Stp X) (a : Option Addr) (c : Nat), e = .returned (.tuple #[.slice a (pre.length + ss.length + 1) c, .nilIface]) ∧ StO w' bs (.slice a (pre.length + ss.length + 1) c) (pre ++ ss.map Stp.lk ++ [s.lk]) ∧ Way S Pk w' x ss s.x ∧ OkS S w' s ∧ s.n.us.length = 0 ∧ s.at' = 0 ∧ pre.length + ss.length ≤ 63

set_option maxRecDepth 100000 in
set_option maxHeartbeats 4000000 in
theorem godown_key {base : Nat} {A : Nat → Addr} {db : Nat} {F : Nat → Prop} {d : S.V.Dev} {X : Type} (S : Sys d X) (Pk : SN → Nat → Prop) (Q : World → Prop) (hQ : ∀ W W', Away W W' → Q W → Q W') (pre : List W.Lk) (v : Value) (p : C.Ch) (x : X) (tb : Nat) (rv : Value) (kb : Nat) (w0 w : World)
    (hk : S.K w p x) (ht : B.RowAt w tb #[.pointer (some ⟨db, 0, none⟩), rv] 100) (hv : Dv base A db F d w) (hm : Mv db F w0 w) (hv0 : Dv base A db F d w0) (ho : StO w w0.heap.size v pre) (hq : Q w) (hpre : pre.length ≤ 64) (hlim : S.E ∨ S.rk x + pre.length + 1 ≤ 64)
    (hpick : ∀ W b n pv lv cv y, Q W → SNR W b n pv lv cv → S.N W n y → ¬ n.us.length = 0 → Calls Tryz.prog 80 #[.agg #[.int .i64 n.f, lv], .pointer (some ⟨kb, 0, none⟩)] W fun e w' => ∃ q : Nat, e = .returned (.int .i64 (q : Int)) ∧ Pk n q ∧ q < n.us.length ∧ Below W.heap.size W w') :
    Calls Tryz.prog 89 #[.pointer (some ⟨tb, 0, none⟩), v, p.val, .func (.func 80) #[] #[.pointer (some ⟨kb, 0, none⟩)]] w fun e w' => DownS S Pk A pre x w0.heap.size e w' ∧ Dv base A db F d w' ∧ Mv db F w0 w' ∧ Kept db v w w' := by
  obtain ⟨va, vc, hvf⟩ := ho.1.form
  subst hvf
  obtain ⟨pt, px, hpv⟩ := val_form p
  obtain ⟨m0, hm0⟩ : ∃ m, m = pre.length := ⟨_, rfl⟩
  have HM0 := hide hm0
  rw [← hm0] at ho hpre hlim ⊢
  have HK := hide hk
  have HT := hide ht
  have HV := hide hv
  have HM := hide hm
  have HO := hide ho
  have HQ := hide hq
  have HL := hide hlim
  have HP := hide hpick
  have HAW := hide hQ
  have HPV := hide hpv
  have HDB := hide hv0.dblt
  have HV0 := hide hv0
  have HPRE := hide hpre
  have hmf : ∀ (fn : Fn) (first cap : Array Value) (w : World), (Instr.makeFunc fn first cap).run Tryz.prog w = .ok (.func fn first cap) w := fun _ _ _ _ => rfl
  rw [hpv]
  clear hk ht hv hm ho hq hlim hpick hQ hpv hm0 hv0 hpre
  go_enter Tryz.func89, Tryz.ntmps89
  go_wp2
  go_loopw [1, 2] (fun vv cc wr => ∃ (ss : List (Stp X)) (y : X) (p' : C.Ch) (a : Option Addr) (c : Nat), vv = .slice a (m0 + ss.length) c ∧ cc = p'.val ∧ StO wr w0.heap.size (.slice a (m0 + ss.length) c) (pre ++ ss.map Stp.lk) ∧ Way S Pk wr x ss y ∧ S.K wr p' y ∧ m0 + ss.length ≤ 64 ∧ Dv base A db F d wr ∧ Mv db F w0 wr ∧ B.RowAt wr tb #[.pointer (some ⟨db, 0, none⟩), rv] 100 ∧ Q wr ∧ Kept db (.slice va m0 vc) w wr ∧ ∀ g, (Value.slice a (m0 + ss.length) c).ownBlock = some g → (Value.slice va m0 vc).ownBlock = some g ∨ w.heap.size ≤ g) (fun vv _ _ => 65 - slLen vv)
  case atStart => exact ⟨[], x, p, va, vc, rfl, HPV.out.symm, by simpa using HO.out, rfl, HK.out, HPRE.out, HV.out, HM.out, HT.out, HQ.out, ⟨Nat.le_refl _, fun _ _ _ _ => rfl⟩, fun g hg => .inl hg⟩
  case round =>
    obtain ⟨ss, y, p', a, c, rfl, rfl, ho, hway, hk, hlen, hv, hm, ht, hq, hkp, hob⟩ := hrel
    obtain ⟨L, hL⟩ : ∃ L, L = m0 + ss.length := ⟨_, rfl⟩
    rw [← hL] at ho hlen hob ⊢
    have HRA := hide (readat_sys S p' y tb rv (L + 1) wr hk ht hv (by
      rcases hway.rank with h | h
      · exact .inl h
      · rcases HL.out with g | g
        · exact .inl g
        · right; omega))
    rw [show ((L + 1 : Nat) : Int) = (L : Int) + 1 by omega] at HRA
    obtain ⟨pt', px', hpv'⟩ := val_form p'
    rw [hpv'] at HRA ⊢
    have HO1 := hide ho
    have HW1 := hide hway
    have HV1 := hide hv
    have HMM := hide hm
    have HT1 := hide ht
    have HQ1 := hide hq
    have HKP := hide hkp
    have HOB := hide hob
    have HLL := hide hL
    have HLE := hide hlen
    have hLs : (L : Int) ≤ 64 := by omega
    have hL0 : (0 : Int) ≤ (L : Int) := by omega
    clear hkp hob ho hway hk hv hm ht hq hL hpv' hlen HO HK HV HM HT HQ HPV
    go_wp2_with fail
    refine HRA.out.mono ?_
    rintro e w1 ⟨⟨hrs, hdeep⟩, hv1, hm1⟩
    have aw1 := hm1.away HV1.out
    have HMM1 := hide (HMM.out.trans hm1)
    have HKP1 := hide (HKP.out.mv hm1)
    have HV2 := hide hv1
    have HO2 := hide (HO1.out.mv hm1 HDB.out)
    have HT2 := hide (tree_away aw1 HT1.out)
    have HQ2 := hide (HAW.out _ _ aw1 HQ1.out)
    have HW2 := hide (HW1.out.away aw1)
    rcases hrs with ⟨hE, rfl⟩ | ⟨b, n, pv, lv, cv, rfl, hs, hn⟩
    · have HRES : Hid (DownS S Pk A pre x w0.heap.size (.returned (.tuple #[.slice none 0 0, .iface 360 (.pointer (some (A 8)))])) w1 ∧ Dv base A db F d w1 ∧ Mv db F w0 w1 ∧ Kept db (.slice va m0 vc) w w1) := ⟨.inl ⟨hE, rfl⟩, HV2.out, HMM1.out, HKP1.out⟩
      unfold badE
      clear hdeep hv1 hm1 aw1 HRA HO1 HW1 HV1 HMM HT1 HQ1 hE
      go_wp2
      go_ret2
      exact HRES.out
    · have hL64 : L ≤ 63 := by
        rcases Nat.lt_or_ge 64 (L + 1) with h | h
        · have := hdeep h
          unfold badE at this
          simp at this
        · omega
      have HS := hide hs
      have HN := hide hn
      have HIS := hide (isleaf_any b n pv lv cv w1 hs)
      clear hdeep hv1 hm1 aw1 HRA HO1 HW1 HV1 HMM HT1 HQ1 hs hn
      by_cases h0 : n.us.length = 0
      · rw [show decide (n.us.length = 0) = true by simp [h0]] at HIS
        obtain ⟨a', c', w2, hrun, ho2, hg, aw, -⟩ := HO2.out.push w0.heap.size _ _ (b, 0) w1 (by rw [List.length_append, List.length_map, ← HM0.out, ← HLL.out]; omega) (HMM1.out.size)
        rw [show (pre ++ ss.map Stp.lk).length = L by rw [List.length_append, List.length_map, ← HM0.out, ← HLL.out]] at hrun ho2
        have q0 := below_new w1 (.cells #[.pointer (some ⟨b, 0, none⟩), .int .i64 0] 159)
        have HRES : Hid (DownS S Pk A pre x w0.heap.size (.returned (.tuple #[.slice a' (L + 1) c', .nilIface])) w2 ∧ Dv base A db F d w2 ∧ Mv db F w0 w2 ∧ Kept db (.slice va m0 vc) w w2) := by
          have hbg : Below w0.heap.size w1 w2 := ((below_new w1 _).mono HMM1.out.size).grown hg (by simp; exact Nat.le_succ_of_le HMM1.out.size) (fun k hk => (HO2.out.1.blk k hk).1)
          obtain ⟨hdv, hmv⟩ := HV2.out.grown hbg HMM1.out HV0.out
          exact ⟨.inr ⟨ss, ⟨b, n, 0, y⟩, a', c', by rw [← HM0.out, ← HLL.out], by rw [← HM0.out, ← HLL.out]; exact ho2, (HW2.out.away aw), ⟨⟨pv, lv, cv, HS.out.away aw⟩, S.na aw HN.out⟩, h0, rfl, by rw [← HM0.out, ← HLL.out]; exact hL64⟩, hdv, hmv, HKP1.out.grow HOB.out hg⟩
        clear ho2 hg aw q0 h0 HS HN HW2 HO2
        go_wp2_with fail
        refine HIS.out.mono ?_
        rintro e w1' ⟨rfl, rfl⟩
        have hrun2 : (Builtin.append_ #[101, 101] 101 #[.slice a L c, .slice (some ⟨w1.heap.size, 0, none⟩) 1 1]).run Tryz.prog (w1.alloc (.cells #[.pointer (some ⟨b, 0, none⟩), .int .i64 0] 159)) = .ok (.slice a' (L + 1) c') w2 := hrun
        clear hrun
        go_wp2_with (first | (at_builtin; refine wpList_append_run 101 rfl (.tmp 27) (.tmp 30) rfl rfl _ _ rfl rfl _ _ hrun2 ?_))
        go_ret2
        exact HRES.out
      · rw [show decide (n.us.length = 0) = false by simp [h0]] at HIS
        have HPK := hide (HP.out w1 b n pv lv cv y HQ2.out HS.out HN.out h0)
        have p1 := HS.out.c1
        have p2 := HS.out.c2
        obtain ⟨la, lc, hlf⟩ := HS.out.lks.form
        subst hlf
        have H0 := hide h0
        clear h0
        go_wp2_with fail
        refine HIS.out.mono ?_
        rintro e w1' ⟨rfl, rfl⟩
        go_wp2_with fail
        refine HPK.out.mono ?_
        rintro e w2 ⟨q, rfl, hpk, hqlt, hb2⟩
        have HPQ := hide hpk
        have aw2 := Away.of hb2
        obtain ⟨a', c', w3, hrun, ho3, hg, aw, hob3⟩ := (HO2.out.below hb2).push w0.heap.size _ _ (b, (q : Int)) w2 (by rw [List.length_append, List.length_map, ← HM0.out, ← HLL.out]; omega) (Nat.le_trans HMM1.out.size hb2.size)
        rw [show (pre ++ ss.map Stp.lk).length = L by rw [List.length_append, List.length_map, ← HM0.out, ← HLL.out]] at hrun ho3 hob3
        have q0 := below_new w2 (.cells #[.pointer (some ⟨b, 0, none⟩), .int .i64 (q : Int)] 159)
        have hs3 := (HS.out.away aw2).away aw
        have hn3 := S.na aw (S.na aw2 HN.out)
        obtain ⟨pc, hpc⟩ : ∃ pc, n.us[q]? = some pc := ⟨_, List.getElem?_eq_getElem hqlt⟩
        obtain ⟨z, hsub, hkz⟩ := S.kid hn3 hpc
        have hdm : Dv base A db F d w3 ∧ Mv db F w0 w3 := by
          have hbg : Below w0.heap.size w1 w3 := (((hb2.mono HMM1.out.size).alloc (Nat.le_trans HMM1.out.size hb2.size) _).grown hg (by simp; exact Nat.le_succ_of_le (Nat.le_trans HMM1.out.size hb2.size)) (fun k hk => (HO2.out.1.blk k hk).1))
          obtain ⟨hdv, hmv⟩ := HV2.out.grown hbg HMM1.out HV0.out
          exact ⟨hdv, hmv⟩
        have HREL : Hid (∃ (ss : List (Stp X)) (y : X) (p' : C.Ch) (a : Option Addr) (c : Nat), (.slice a' (L + 1) c' : Value) = .slice a (m0 + ss.length) c ∧ pc.val = p'.val ∧ StO w3 w0.heap.size (.slice a (m0 + ss.length) c) (pre ++ ss.map Stp.lk) ∧ Way S Pk w3 x ss y ∧ S.K w3 p' y ∧ m0 + ss.length ≤ 64 ∧ Dv base A db F d w3 ∧ Mv db F w0 w3 ∧ B.RowAt w3 tb #[.pointer (some ⟨db, 0, none⟩), rv] 100 ∧ Q w3 ∧ Kept db (.slice va m0 vc) w w3 ∧ ∀ g, (Value.slice a (m0 + ss.length) c).ownBlock = some g → (Value.slice va m0 vc).ownBlock = some g ∨ w.heap.size ≤ g) := by
          have e1 : m0 + (ss ++ [(⟨b, n, q, y⟩ : Stp X)]).length = L + 1 := by rw [List.length_append, HLL.out]; rfl
          refine ⟨ss ++ [⟨b, n, q, y⟩], z, pc, a', c', by rw [e1], rfl, ?_, ((HW2.out.away aw2).away aw).snoc rfl ⟨⟨_, _, _, hs3⟩, hn3⟩ H0.out HPQ.out hqlt hsub, hkz, by rw [e1]; omega, hdm.1, hdm.2, tree_away aw (tree_away aw2 HT2.out), HAW.out _ _ aw (HAW.out _ _ aw2 HQ2.out), (HKP1.out.below hb2).grow HOB.out hg, fun gg hgg => by
            rw [e1] at hgg
            rcases hob3 gg hgg with h | h
            · exact HOB.out gg h
            · exact .inr (Nat.le_trans HKP1.out.1 (Nat.le_trans hb2.size h))⟩
          rw [e1, List.map_append, ← List.append_assoc]
          exact ho3
        have p3 := hs3.c3
        obtain ⟨ca, cc, hcf, -, -, hcell⟩ := hs3.kids
        rw [C.lks_length, Nat.mul_one] at hcf
        subst hcf
        obtain ⟨g, o, rfl, cq⟩ := hcell q pc.val (by unfold C.lks; rw [List.getElem?_map, hpc]; rfl)
        obtain ⟨zt, zx, hzv⟩ := val_form pc
        rw [hzv] at cq HREL
        have hrun2 : (Builtin.append_ #[101, 101] 101 #[.slice a L c, .slice (some ⟨w2.heap.size, 0, none⟩) 1 1]).run Tryz.prog (w2.alloc (.cells #[.pointer (some ⟨b, 0, none⟩), .int .i64 (q : Int)] 159)) = .ok (.slice a' (L + 1) c') w3 := hrun
        have hq1 : (q : Int) < (n.us.length : Int) := by omega
        have hq0 : (0 : Int) ≤ (q : Int) := by omega
        clear hob3 hrun ho3 hg aw q0 hs3 hn3 hpc hsub hkz hdm hcell hzv hb2 aw2 hpk hqlt HPK HIS HW2 HO2 HS HN p1 p2
        go_wp2_with (first | (at_builtin; refine wpList_append_run 101 rfl (.tmp 38) (.tmp 42) rfl rfl _ _ rfl rfl _ _ hrun2 ?_))
        go_roundw
        case rel => exact HREL.out
        case measure => simp [slLen]; omega

set_option maxRecDepth 100000 in
set_option maxHeartbeats 4000000 in
theorem godown_first {base : Nat} {A : Nat → Addr} {db : Nat} {F : Nat → Prop} {d : S.V.Dev} {X : Type} (S : Sys d X) (Pk : SN → Nat → Prop) (Q : World → Prop) (hQ : ∀ W W', Away W W' → Q W → Q W') (pre : List W.Lk) (v : Value) (p : C.Ch) (x : X) (tb : Nat) (rv : Value) (w0 w : World)
    (hk : S.K w p x) (ht : B.RowAt w tb #[.pointer (some ⟨db, 0, none⟩), rv] 100) (hv : Dv base A db F d w) (hm : Mv db F w0 w) (hv0 : Dv base A db F d w0) (ho : StO w w0.heap.size v pre) (hq : Q w) (hpre : pre.length ≤ 64) (hlim : S.E ∨ S.rk x + pre.length + 1 ≤ 64)
    (hpick : ∀ W b n pv lv cv y, Q W → SNR W b n pv lv cv → S.N W n y → ¬ n.us.length = 0 → Calls Tryz.prog 57 #[.agg #[.int .i64 n.f, lv]] W fun e w' => ∃ q : Nat, e = .returned (.int .i64 (q : Int)) ∧ Pk n q ∧ q < n.us.length ∧ Below W.heap.size W w') :
    Calls Tryz.prog 89 #[.pointer (some ⟨tb, 0, none⟩), v, p.val, .func (.func 57) #[] #[]] w fun e w' => DownS S Pk A pre x w0.heap.size e w' ∧ Dv base A db F d w' ∧ Mv db F w0 w' ∧ Kept db v w w' := by
  obtain ⟨va, vc, hvf⟩ := ho.1.form
  subst hvf
  obtain ⟨pt, px, hpv⟩ := val_form p
  obtain ⟨m0, hm0⟩ : ∃ m, m = pre.length := ⟨_, rfl⟩
  have HM0 := hide hm0
  rw [← hm0] at ho hpre hlim ⊢
  have HK := hide hk
  have HT := hide ht
  have HV := hide hv
  have HM := hide hm
  have HO := hide ho
  have HQ := hide hq
  have HL := hide hlim
  have HP := hide hpick
  have HAW := hide hQ
  have HPV := hide hpv
  have HDB := hide hv0.dblt
  have HV0 := hide hv0
  have HPRE := hide hpre
  have hmf : ∀ (fn : Fn) (first cap : Array Value) (w : World), (Instr.makeFunc fn first cap).run Tryz.prog w = .ok (.func fn first cap) w := fun _ _ _ _ => rfl
  rw [hpv]
  clear hk ht hv hm ho hq hlim hpick hQ hpv hm0 hv0 hpre
  go_enter Tryz.func89, Tryz.ntmps89
  go_wp2
  go_loopw [1, 2] (fun vv cc wr => ∃ (ss : List (Stp X)) (y : X) (p' : C.Ch) (a : Option Addr) (c : Nat), vv = .slice a (m0 + ss.length) c ∧ cc = p'.val ∧ StO wr w0.heap.size (.slice a (m0 + ss.length) c) (pre ++ ss.map Stp.lk) ∧ Way S Pk wr x ss y ∧ S.K wr p' y ∧ m0 + ss.length ≤ 64 ∧ Dv base A db F d wr ∧ Mv db F w0 wr ∧ B.RowAt wr tb #[.pointer (some ⟨db, 0, none⟩), rv] 100 ∧ Q wr ∧ Kept db (.slice va m0 vc) w wr ∧ ∀ g, (Value.slice a (m0 + ss.length) c).ownBlock = some g → (Value.slice va m0 vc).ownBlock = some g ∨ w.heap.size ≤ g) (fun vv _ _ => 65 - slLen vv)
  case atStart => exact ⟨[], x, p, va, vc, rfl, HPV.out.symm, by simpa using HO.out, rfl, HK.out, HPRE.out, HV.out, HM.out, HT.out, HQ.out, ⟨Nat.le_refl _, fun _ _ _ _ => rfl⟩, fun g hg => .inl hg⟩
  case round =>
    obtain ⟨ss, y, p', a, c, rfl, rfl, ho, hway, hk, hlen, hv, hm, ht, hq, hkp, hob⟩ := hrel
    obtain ⟨L, hL⟩ : ∃ L, L = m0 + ss.length := ⟨_, rfl⟩
    rw [← hL] at ho hlen hob ⊢
    have HRA := hide (readat_sys S p' y tb rv (L + 1) wr hk ht hv (by
      rcases hway.rank with h | h
      · exact .inl h
      · rcases HL.out with g | g
        · exact .inl g
        · right; omega))
    rw [show ((L + 1 : Nat) : Int) = (L : Int) + 1 by omega] at HRA
    obtain ⟨pt', px', hpv'⟩ := val_form p'
    rw [hpv'] at HRA ⊢
    have HO1 := hide ho
    have HW1 := hide hway
    have HV1 := hide hv
    have HMM := hide hm
    have HT1 := hide ht
    have HQ1 := hide hq
    have HKP := hide hkp
    have HOB := hide hob
    have HLL := hide hL
    have HLE := hide hlen
    have hLs : (L : Int) ≤ 64 := by omega
    have hL0 : (0 : Int) ≤ (L : Int) := by omega
    clear hkp hob ho hway hk hv hm ht hq hL hpv' hlen HO HK HV HM HT HQ HPV
    go_wp2_with fail
    refine HRA.out.mono ?_
    rintro e w1 ⟨⟨hrs, hdeep⟩, hv1, hm1⟩
    have aw1 := hm1.away HV1.out
    have HMM1 := hide (HMM.out.trans hm1)
    have HKP1 := hide (HKP.out.mv hm1)
    have HV2 := hide hv1
    have HO2 := hide (HO1.out.mv hm1 HDB.out)
    have HT2 := hide (tree_away aw1 HT1.out)
    have HQ2 := hide (HAW.out _ _ aw1 HQ1.out)
    have HW2 := hide (HW1.out.away aw1)
    rcases hrs with ⟨hE, rfl⟩ | ⟨b, n, pv, lv, cv, rfl, hs, hn⟩
    · have HRES : Hid (DownS S Pk A pre x w0.heap.size (.returned (.tuple #[.slice none 0 0, .iface 360 (.pointer (some (A 8)))])) w1 ∧ Dv base A db F d w1 ∧ Mv db F w0 w1 ∧ Kept db (.slice va m0 vc) w w1) := ⟨.inl ⟨hE, rfl⟩, HV2.out, HMM1.out, HKP1.out⟩
      unfold badE
      clear hdeep hv1 hm1 aw1 HRA HO1 HW1 HV1 HMM HT1 HQ1 hE
      go_wp2
      go_ret2
      exact HRES.out
    · have hL64 : L ≤ 63 := by
        rcases Nat.lt_or_ge 64 (L + 1) with h | h
        · have := hdeep h
          unfold badE at this
          simp at this
        · omega
      have HS := hide hs
      have HN := hide hn
      have HIS := hide (isleaf_any b n pv lv cv w1 hs)
      clear hdeep hv1 hm1 aw1 HRA HO1 HW1 HV1 HMM HT1 HQ1 hs hn
      by_cases h0 : n.us.length = 0
      · rw [show decide (n.us.length = 0) = true by simp [h0]] at HIS
        obtain ⟨a', c', w2, hrun, ho2, hg, aw, -⟩ := HO2.out.push w0.heap.size _ _ (b, 0) w1 (by rw [List.length_append, List.length_map, ← HM0.out, ← HLL.out]; omega) (HMM1.out.size)
        rw [show (pre ++ ss.map Stp.lk).length = L by rw [List.length_append, List.length_map, ← HM0.out, ← HLL.out]] at hrun ho2
        have q0 := below_new w1 (.cells #[.pointer (some ⟨b, 0, none⟩), .int .i64 0] 159)
        have HRES : Hid (DownS S Pk A pre x w0.heap.size (.returned (.tuple #[.slice a' (L + 1) c', .nilIface])) w2 ∧ Dv base A db F d w2 ∧ Mv db F w0 w2 ∧ Kept db (.slice va m0 vc) w w2) := by
          have hbg : Below w0.heap.size w1 w2 := ((below_new w1 _).mono HMM1.out.size).grown hg (by simp; exact Nat.le_succ_of_le HMM1.out.size) (fun k hk => (HO2.out.1.blk k hk).1)
          obtain ⟨hdv, hmv⟩ := HV2.out.grown hbg HMM1.out HV0.out
          exact ⟨.inr ⟨ss, ⟨b, n, 0, y⟩, a', c', by rw [← HM0.out, ← HLL.out], by rw [← HM0.out, ← HLL.out]; exact ho2, (HW2.out.away aw), ⟨⟨pv, lv, cv, HS.out.away aw⟩, S.na aw HN.out⟩, h0, rfl, by rw [← HM0.out, ← HLL.out]; exact hL64⟩, hdv, hmv, HKP1.out.grow HOB.out hg⟩
        clear ho2 hg aw q0 h0 HS HN HW2 HO2
        go_wp2_with fail
        refine HIS.out.mono ?_
        rintro e w1' ⟨rfl, rfl⟩
        have hrun2 : (Builtin.append_ #[101, 101] 101 #[.slice a L c, .slice (some ⟨w1.heap.size, 0, none⟩) 1 1]).run Tryz.prog (w1.alloc (.cells #[.pointer (some ⟨b, 0, none⟩), .int .i64 0] 159)) = .ok (.slice a' (L + 1) c') w2 := hrun
        clear hrun
        go_wp2_with (first | (at_builtin; refine wpList_append_run 101 rfl (.tmp 27) (.tmp 30) rfl rfl _ _ rfl rfl _ _ hrun2 ?_))
        go_ret2
        exact HRES.out
      · rw [show decide (n.us.length = 0) = false by simp [h0]] at HIS
        have HPK := hide (HP.out w1 b n pv lv cv y HQ2.out HS.out HN.out h0)
        have p1 := HS.out.c1
        have p2 := HS.out.c2
        obtain ⟨la, lc, hlf⟩ := HS.out.lks.form
        subst hlf
        have H0 := hide h0
        clear h0
        go_wp2_with fail
        refine HIS.out.mono ?_
        rintro e w1' ⟨rfl, rfl⟩
        go_wp2_with fail
        refine HPK.out.mono ?_
        rintro e w2 ⟨q, rfl, hpk, hqlt, hb2⟩
        have HPQ := hide hpk
        have aw2 := Away.of hb2
        obtain ⟨a', c', w3, hrun, ho3, hg, aw, hob3⟩ := (HO2.out.below hb2).push w0.heap.size _ _ (b, (q : Int)) w2 (by rw [List.length_append, List.length_map, ← HM0.out, ← HLL.out]; omega) (Nat.le_trans HMM1.out.size hb2.size)
        rw [show (pre ++ ss.map Stp.lk).length = L by rw [List.length_append, List.length_map, ← HM0.out, ← HLL.out]] at hrun ho3 hob3
        have q0 := below_new w2 (.cells #[.pointer (some ⟨b, 0, none⟩), .int .i64 (q : Int)] 159)
        have hs3 := (HS.out.away aw2).away aw
        have hn3 := S.na aw (S.na aw2 HN.out)
        obtain ⟨pc, hpc⟩ : ∃ pc, n.us[q]? = some pc := ⟨_, List.getElem?_eq_getElem hqlt⟩
        obtain ⟨z, hsub, hkz⟩ := S.kid hn3 hpc
        have hdm : Dv base A db F d w3 ∧ Mv db F w0 w3 := by
          have hbg : Below w0.heap.size w1 w3 := (((hb2.mono HMM1.out.size).alloc (Nat.le_trans HMM1.out.size hb2.size) _).grown hg (by simp; exact Nat.le_succ_of_le (Nat.le_trans HMM1.out.size hb2.size)) (fun k hk => (HO2.out.1.blk k hk).1))
          obtain ⟨hdv, hmv⟩ := HV2.out.grown hbg HMM1.out HV0.out
          exact ⟨hdv, hmv⟩
        have HREL : Hid (∃ (ss : List (Stp X)) (y : X) (p' : C.Ch) (a : Option Addr) (c : Nat), (.slice a' (L + 1) c' : Value) = .slice a (m0 + ss.length) c ∧ pc.val = p'.val ∧ StO w3 w0.heap.size (.slice a (m0 + ss.length) c) (pre ++ ss.map Stp.lk) ∧ Way S Pk w3 x ss y ∧ S.K w3 p' y ∧ m0 + ss.length ≤ 64 ∧ Dv base A db F d w3 ∧ Mv db F w0 w3 ∧ B.RowAt w3 tb #[.pointer (some ⟨db, 0, none⟩), rv] 100 ∧ Q w3 ∧ Kept db (.slice va m0 vc) w w3 ∧ ∀ g, (Value.slice a (m0 + ss.length) c).ownBlock = some g → (Value.slice va m0 vc).ownBlock = some g ∨ w.heap.size ≤ g) := by
          have e1 : m0 + (ss ++ [(⟨b, n, q, y⟩ : Stp X)]).length = L + 1 := by rw [List.length_append, HLL.out]; rfl
          refine ⟨ss ++ [⟨b, n, q, y⟩], z, pc, a', c', by rw [e1], rfl, ?_, ((HW2.out.away aw2).away aw).snoc rfl ⟨⟨_, _, _, hs3⟩, hn3⟩ H0.out HPQ.out hqlt hsub, hkz, by rw [e1]; omega, hdm.1, hdm.2, tree_away aw (tree_away aw2 HT2.out), HAW.out _ _ aw (HAW.out _ _ aw2 HQ2.out), (HKP1.out.below hb2).grow HOB.out hg, fun gg hgg => by
            rw [e1] at hgg
            rcases hob3 gg hgg with h | h
            · exact HOB.out gg h
            · exact .inr (Nat.le_trans HKP1.out.1 (Nat.le_trans hb2.size h))⟩
          rw [e1, List.map_append, ← List.append_assoc]
          exact ho3
        have p3 := hs3.c3
        obtain ⟨ca, cc, hcf, -, -, hcell⟩ := hs3.kids
        rw [C.lks_length, Nat.mul_one] at hcf
        subst hcf
        obtain ⟨g, o, rfl, cq⟩ := hcell q pc.val (by unfold C.lks; rw [List.getElem?_map, hpc]; rfl)
        obtain ⟨zt, zx, hzv⟩ := val_form pc
        rw [hzv] at cq HREL
        have hrun2 : (Builtin.append_ #[101, 101] 101 #[.slice a L c, .slice (some ⟨w2.heap.size, 0, none⟩) 1 1]).run Tryz.prog (w2.alloc (.cells #[.pointer (some ⟨b, 0, none⟩), .int .i64 (q : Int)] 159)) = .ok (.slice a' (L + 1) c') w3 := hrun
        have hq1 : (q : Int) < (n.us.length : Int) := by omega
        have hq0 : (0 : Int) ≤ (q : Int) := by omega
        clear hob3 hrun ho3 hg aw q0 hs3 hn3 hpc hsub hkz hdm hcell hzv hb2 aw2 hpk hqlt HPK HIS HW2 HO2 HS HN p1 p2
        go_wp2_with (first | (at_builtin; refine wpList_append_run 101 rfl (.tmp 38) (.tmp 42) rfl rfl _ _ rfl rfl _ _ hrun2 ?_))
        go_roundw
        case rel => exact HREL.out
        case measure => simp [slLen]; omega

set_option maxRecDepth 100000 in
set_option maxHeartbeats 4000000 in
theorem godown_last {base : Nat} {A : Nat → Addr} {db : Nat} {F : Nat → Prop} {d : S.V.Dev} {X : Type} (S : Sys d X) (Pk : SN → Nat → Prop) (Q : World → Prop) (hQ : ∀ W W', Away W W' → Q W → Q W') (pre : List W.Lk) (v : Value) (p : C.Ch) (x : X) (tb : Nat) (rv : Value) (w0 w : World)
    (hk : S.K w p x) (ht : B.RowAt w tb #[.pointer (some ⟨db, 0, none⟩), rv] 100) (hv : Dv base A db F d w) (hm : Mv db F w0 w) (hv0 : Dv base A db F d w0) (ho : StO w w0.heap.size v pre) (hq : Q w) (hpre : pre.length ≤ 64) (hlim : S.E ∨ S.rk x + pre.length + 1 ≤ 64)
    (hpick : ∀ W b n pv lv cv y, Q W → SNR W b n pv lv cv → S.N W n y → ¬ n.us.length = 0 → Calls Tryz.prog 55 #[.agg #[.int .i64 n.f, lv]] W fun e w' => ∃ q : Nat, e = .returned (.int .i64 (q : Int)) ∧ Pk n q ∧ q < n.us.length ∧ Below W.heap.size W w') :
    Calls Tryz.prog 89 #[.pointer (some ⟨tb, 0, none⟩), v, p.val, .func (.func 55) #[] #[]] w fun e w' => DownS S Pk A pre x w0.heap.size e w' ∧ Dv base A db F d w' ∧ Mv db F w0 w' ∧ Kept db v w w' := by
  obtain ⟨va, vc, hvf⟩ := ho.1.form
  subst hvf
  obtain ⟨pt, px, hpv⟩ := val_form p
  obtain ⟨m0, hm0⟩ : ∃ m, m = pre.length := ⟨_, rfl⟩
  have HM0 := hide hm0
  rw [← hm0] at ho hpre hlim ⊢
  have HK := hide hk
  have HT := hide ht
  have HV := hide hv
  have HM := hide hm
  have HO := hide ho
  have HQ := hide hq
  have HL := hide hlim
  have HP := hide hpick
  have HAW := hide hQ
  have HPV := hide hpv
  have HDB := hide hv0.dblt
  have HV0 := hide hv0
  have HPRE := hide hpre
  have hmf : ∀ (fn : Fn) (first cap : Array Value) (w : World), (Instr.makeFunc fn first cap).run Tryz.prog w = .ok (.func fn first cap) w := fun _ _ _ _ => rfl
  rw [hpv]
  clear hk ht hv hm ho hq hlim hpick hQ hpv hm0 hv0 hpre
  go_enter Tryz.func89, Tryz.ntmps89
  go_wp2
  go_loopw [1, 2] (fun vv cc wr => ∃ (ss : List (Stp X)) (y : X) (p' : C.Ch) (a : Option Addr) (c : Nat), vv = .slice a (m0 + ss.length) c ∧ cc = p'.val ∧ StO wr w0.heap.size (.slice a (m0 + ss.length) c) (pre ++ ss.map Stp.lk) ∧ Way S Pk wr x ss y ∧ S.K wr p' y ∧ m0 + ss.length ≤ 64 ∧ Dv base A db F d wr ∧ Mv db F w0 wr ∧ B.RowAt wr tb #[.pointer (some ⟨db, 0, none⟩), rv] 100 ∧ Q wr ∧ Kept db (.slice va m0 vc) w wr ∧ ∀ g, (Value.slice a (m0 + ss.length) c).ownBlock = some g → (Value.slice va m0 vc).ownBlock = some g ∨ w.heap.size ≤ g) (fun vv _ _ => 65 - slLen vv)
  case atStart => exact ⟨[], x, p, va, vc, rfl, HPV.out.symm, by simpa using HO.out, rfl, HK.out, HPRE.out, HV.out, HM.out, HT.out, HQ.out, ⟨Nat.le_refl _, fun _ _ _ _ => rfl⟩, fun g hg => .inl hg⟩
  case round =>
    obtain ⟨ss, y, p', a, c, rfl, rfl, ho, hway, hk, hlen, hv, hm, ht, hq, hkp, hob⟩ := hrel
    obtain ⟨L, hL⟩ : ∃ L, L = m0 + ss.length := ⟨_, rfl⟩
    rw [← hL] at ho hlen hob ⊢
    have HRA := hide (readat_sys S p' y tb rv (L + 1) wr hk ht hv (by
      rcases hway.rank with h | h
      · exact .inl h
      · rcases HL.out with g | g
        · exact .inl g
        · right; omega))
    rw [show ((L + 1 : Nat) : Int) = (L : Int) + 1 by omega] at HRA
    obtain ⟨pt', px', hpv'⟩ := val_form p'
    rw [hpv'] at HRA ⊢
    have HO1 := hide ho
    have HW1 := hide hway
    have HV1 := hide hv
    have HMM := hide hm
    have HT1 := hide ht
    have HQ1 := hide hq
    have HKP := hide hkp
    have HOB := hide hob
    have HLL := hide hL
    have HLE := hide hlen
    have hLs : (L : Int) ≤ 64 := by omega
    have hL0 : (0 : Int) ≤ (L : Int) := by omega
    clear hkp hob ho hway hk hv hm ht hq hL hpv' hlen HO HK HV HM HT HQ HPV
    go_wp2_with fail
    refine HRA.out.mono ?_
    rintro e w1 ⟨⟨hrs, hdeep⟩, hv1, hm1⟩
    have aw1 := hm1.away HV1.out
    have HMM1 := hide (HMM.out.trans hm1)
    have HKP1 := hide (HKP.out.mv hm1)
    have HV2 := hide hv1
    have HO2 := hide (HO1.out.mv hm1 HDB.out)
    have HT2 := hide (tree_away aw1 HT1.out)
    have HQ2 := hide (HAW.out _ _ aw1 HQ1.out)
    have HW2 := hide (HW1.out.away aw1)
    rcases hrs with ⟨hE, rfl⟩ | ⟨b, n, pv, lv, cv, rfl, hs, hn⟩
    · have HRES : Hid (DownS S Pk A pre x w0.heap.size (.returned (.tuple #[.slice none 0 0, .iface 360 (.pointer (some (A 8)))])) w1 ∧ Dv base A db F d w1 ∧ Mv db F w0 w1 ∧ Kept db (.slice va m0 vc) w w1) := ⟨.inl ⟨hE, rfl⟩, HV2.out, HMM1.out, HKP1.out⟩
      unfold badE
      clear hdeep hv1 hm1 aw1 HRA HO1 HW1 HV1 HMM HT1 HQ1 hE
      go_wp2
      go_ret2
      exact HRES.out
    · have hL64 : L ≤ 63 := by
        rcases Nat.lt_or_ge 64 (L + 1) with h | h
        · have := hdeep h
          unfold badE at this
          simp at this
        · omega
      have HS := hide hs
      have HN := hide hn
      have HIS := hide (isleaf_any b n pv lv cv w1 hs)
      clear hdeep hv1 hm1 aw1 HRA HO1 HW1 HV1 HMM HT1 HQ1 hs hn
      by_cases h0 : n.us.length = 0
      · rw [show decide (n.us.length = 0) = true by simp [h0]] at HIS
        obtain ⟨a', c', w2, hrun, ho2, hg, aw, -⟩ := HO2.out.push w0.heap.size _ _ (b, 0) w1 (by rw [List.length_append, List.length_map, ← HM0.out, ← HLL.out]; omega) (HMM1.out.size)
        rw [show (pre ++ ss.map Stp.lk).length = L by rw [List.length_append, List.length_map, ← HM0.out, ← HLL.out]] at hrun ho2
        have q0 := below_new w1 (.cells #[.pointer (some ⟨b, 0, none⟩), .int .i64 0] 159)
        have HRES : Hid (DownS S Pk A pre x w0.heap.size (.returned (.tuple #[.slice a' (L + 1) c', .nilIface])) w2 ∧ Dv base A db F d w2 ∧ Mv db F w0 w2 ∧ Kept db (.slice va m0 vc) w w2) := by
          have hbg : Below w0.heap.size w1 w2 := ((below_new w1 _).mono HMM1.out.size).grown hg (by simp; exact Nat.le_succ_of_le HMM1.out.size) (fun k hk => (HO2.out.1.blk k hk).1)
          obtain ⟨hdv, hmv⟩ := HV2.out.grown hbg HMM1.out HV0.out
          exact ⟨.inr ⟨ss, ⟨b, n, 0, y⟩, a', c', by rw [← HM0.out, ← HLL.out], by rw [← HM0.out, ← HLL.out]; exact ho2, (HW2.out.away aw), ⟨⟨pv, lv, cv, HS.out.away aw⟩, S.na aw HN.out⟩, h0, rfl, by rw [← HM0.out, ← HLL.out]; exact hL64⟩, hdv, hmv, HKP1.out.grow HOB.out hg⟩
        clear ho2 hg aw q0 h0 HS HN HW2 HO2
        go_wp2_with fail
        refine HIS.out.mono ?_
        rintro e w1' ⟨rfl, rfl⟩
        have hrun2 : (Builtin.append_ #[101, 101] 101 #[.slice a L c, .slice (some ⟨w1.heap.size, 0, none⟩) 1 1]).run Tryz.prog (w1.alloc (.cells #[.pointer (some ⟨b, 0, none⟩), .int .i64 0] 159)) = .ok (.slice a' (L + 1) c') w2 := hrun
        clear hrun
        go_wp2_with (first | (at_builtin; refine wpList_append_run 101 rfl (.tmp 27) (.tmp 30) rfl rfl _ _ rfl rfl _ _ hrun2 ?_))
        go_ret2
        exact HRES.out
      · rw [show decide (n.us.length = 0) = false by simp [h0]] at HIS
        have HPK := hide (HP.out w1 b n pv lv cv y HQ2.out HS.out HN.out h0)
        have p1 := HS.out.c1
        have p2 := HS.out.c2
        obtain ⟨la, lc, hlf⟩ := HS.out.lks.form
        subst hlf
        have H0 := hide h0
        clear h0
        go_wp2_with fail
        refine HIS.out.mono ?_
        rintro e w1' ⟨rfl, rfl⟩
        go_wp2_with fail
        refine HPK.out.mono ?_
        rintro e w2 ⟨q, rfl, hpk, hqlt, hb2⟩
        have HPQ := hide hpk
        have aw2 := Away.of hb2
        obtain ⟨a', c', w3, hrun, ho3, hg, aw, hob3⟩ := (HO2.out.below hb2).push w0.heap.size _ _ (b, (q : Int)) w2 (by rw [List.length_append, List.length_map, ← HM0.out, ← HLL.out]; omega) (Nat.le_trans HMM1.out.size hb2.size)
        rw [show (pre ++ ss.map Stp.lk).length = L by rw [List.length_append, List.length_map, ← HM0.out, ← HLL.out]] at hrun ho3 hob3
        have q0 := below_new w2 (.cells #[.pointer (some ⟨b, 0, none⟩), .int .i64 (q : Int)] 159)
        have hs3 := (HS.out.away aw2).away aw
        have hn3 := S.na aw (S.na aw2 HN.out)
        obtain ⟨pc, hpc⟩ : ∃ pc, n.us[q]? = some pc := ⟨_, List.getElem?_eq_getElem hqlt⟩
        obtain ⟨z, hsub, hkz⟩ := S.kid hn3 hpc
        have hdm : Dv base A db F d w3 ∧ Mv db F w0 w3 := by
          have hbg : Below w0.heap.size w1 w3 := (((hb2.mono HMM1.out.size).alloc (Nat.le_trans HMM1.out.size hb2.size) _).grown hg (by simp; exact Nat.le_succ_of_le (Nat.le_trans HMM1.out.size hb2.size)) (fun k hk => (HO2.out.1.blk k hk).1))
          obtain ⟨hdv, hmv⟩ := HV2.out.grown hbg HMM1.out HV0.out
          exact ⟨hdv, hmv⟩
        have HREL : Hid (∃ (ss : List (Stp X)) (y : X) (p' : C.Ch) (a : Option Addr) (c : Nat), (.slice a' (L + 1) c' : Value) = .slice a (m0 + ss.length) c ∧ pc.val = p'.val ∧ StO w3 w0.heap.size (.slice a (m0 + ss.length) c) (pre ++ ss.map Stp.lk) ∧ Way S Pk w3 x ss y ∧ S.K w3 p' y ∧ m0 + ss.length ≤ 64 ∧ Dv base A db F d w3 ∧ Mv db F w0 w3 ∧ B.RowAt w3 tb #[.pointer (some ⟨db, 0, none⟩), rv] 100 ∧ Q w3 ∧ Kept db (.slice va m0 vc) w w3 ∧ ∀ g, (Value.slice a (m0 + ss.length) c).ownBlock = some g → (Value.slice va m0 vc).ownBlock = some g ∨ w.heap.size ≤ g) := by
          have e1 : m0 + (ss ++ [(⟨b, n, q, y⟩ : Stp X)]).length = L + 1 := by rw [List.length_append, HLL.out]; rfl
          refine ⟨ss ++ [⟨b, n, q, y⟩], z, pc, a', c', by rw [e1], rfl, ?_, ((HW2.out.away aw2).away aw).snoc rfl ⟨⟨_, _, _, hs3⟩, hn3⟩ H0.out HPQ.out hqlt hsub, hkz, by rw [e1]; omega, hdm.1, hdm.2, tree_away aw (tree_away aw2 HT2.out), HAW.out _ _ aw (HAW.out _ _ aw2 HQ2.out), (HKP1.out.below hb2).grow HOB.out hg, fun gg hgg => by
            rw [e1] at hgg
            rcases hob3 gg hgg with h | h
            · exact HOB.out gg h
            · exact .inr (Nat.le_trans HKP1.out.1 (Nat.le_trans hb2.size h))⟩
          rw [e1, List.map_append, ← List.append_assoc]
          exact ho3
        have p3 := hs3.c3
        obtain ⟨ca, cc, hcf, -, -, hcell⟩ := hs3.kids
        rw [C.lks_length, Nat.mul_one] at hcf
        subst hcf
        obtain ⟨g, o, rfl, cq⟩ := hcell q pc.val (by unfold C.lks; rw [List.getElem?_map, hpc]; rfl)
        obtain ⟨zt, zx, hzv⟩ := val_form pc
        rw [hzv] at cq HREL
        have hrun2 : (Builtin.append_ #[101, 101] 101 #[.slice a L c, .slice (some ⟨w2.heap.size, 0, none⟩) 1 1]).run Tryz.prog (w2.alloc (.cells #[.pointer (some ⟨b, 0, none⟩), .int .i64 (q : Int)] 159)) = .ok (.slice a' (L + 1) c') w3 := hrun
        have hq1 : (q : Int) < (n.us.length : Int) := by omega
        have hq0 : (0 : Int) ≤ (q : Int) := by omega
        clear hob3 hrun ho3 hg aw q0 hs3 hn3 hpc hsub hkz hdm hcell hzv hb2 aw2 hpk hqlt HPK HIS HW2 HO2 HS HN p1 p2
        go_wp2_with (first | (at_builtin; refine wpList_append_run 101 rfl (.tmp 38) (.tmp 42) rfl rfl _ _ rfl rfl _ _ hrun2 ?_))
        go_roundw
        case rel => exact HREL.out
        case measure => simp [slLen]; omega

end Go.Proofs.YtnaedmmfiiebaaaGreatDoor.T
