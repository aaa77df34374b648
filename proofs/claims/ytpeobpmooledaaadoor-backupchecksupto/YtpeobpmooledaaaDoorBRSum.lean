import Derived.Test.YtpeobpmooledaaaDoorBSum2
import Derived.Test.YtpeobpmooledaaaDoorRefCrc
namespace Go.Proofs.YtpeobpmooledaaaDoor
open Go.RowKit
attribute [local go_sem ↓] Go.wp_at_zero Go.wp_at_succ

/-- append of bytes to bytes of the call's own. -/
theorem app_bb (base : Nat) (W : World) (v s : Value) (xs us : List UInt8) (w : World) (hW : Below base W w) (hbw : base ≤ W.heap.size) (hown : BO w base v xs) (hs : RowR w s (u8s us)) (hb : xs.length + us.length ≤ 140737488355328) :
    ∃ a' c' n' w', (Builtin.append_ #[41, 41] 41 #[v, s]).run Tryd.prog w = .ok (.slice a' n' c') w' ∧ n' = (xs ++ us).length ∧ BO w' base (.slice a' n' c') (xs ++ us) ∧ Below base W w' ∧ w.grownBy w' v.ownBlock := by
  have hbase := Nat.le_trans hbw hW.size
  obtain ⟨a', c', w', hr, ho, hg⟩ := append_bb base v s xs us w hown hs hb hbase
  rw [← List.length_append] at hr ho
  exact ⟨a', c', _, w', hr, rfl, ho, hW.grown hg hbase (fun k hk => (hown.lt k hk).1), hg⟩
theorem BO.kept {w w' : World} {base : Nat} {v : Value} {l : List UInt8} {row : Option Nat} (h : BO w base v l) (hg : w.grownBy w' row) (hne : ∀ k, row = some k → k < base) : BO w' base v l := by
  refine ⟨h.1, ?_⟩
  rcases h.2 with h' | ⟨g, cap, cur, h', h1, h2, hr⟩
  · exact .inl h'
  · exact .inr ⟨g, cap, cur, h', h1, (hg.block g (Array.getElem?_eq_some_iff.1 h2).1 (fun e => by have := hne g e.symm; omega)).trans h2, hr⟩
set_option maxHeartbeats 1000000 in
theorem rbo_any (n m : Nat) (w : World) (hn : n < 18446744073709551616) (h1 : 1 ≤ m) (h8 : m ≤ 8) (hfit : n < 2 ^ (8 * m)) :
    Calls Tryd.prog 26 #[.int .i64 (n : Int), .int .i64 (m : Int)] w fun e w' => ∃ v, e = .returned v ∧ BO w' w.heap.size v (beBytes n m) ∧ Below w.heap.size w w' := by
  have HP := hide (rput_ok n m w hn h1 h8 hfit)
  have hw : IntKind.u64.wrap (n : Int) = (n : Int) := by rw [IntKind.wrap_u64]; omega
  have HL := hide (beBytes_len n m h8)
  clear hfit
  go_enter Tryd.func26, Tryd.ntmps26
  go_wp2_with fail
  refine HP.out.mono ?_
  rintro e w1 ⟨v, rfl, ho, hb⟩
  have HO : Hid (BO w1 w.heap.size v (beBytes n m)) := by show BO _ _ _ _; unfold BO; rw [HL.out]; exact ho
  have HB := hide hb
  clear ho hb HP
  go_wp2
  go_ret
  exact ⟨_, rfl, HO.out, HB.out⟩
theorem RowAt.grown {w w' : World} {b : Nat} {cs : Array Value} {t : TypeId} {row : Option Nat} (h : RowAt w b cs t) (hg : w.grownBy w' row) (hn : ∀ k, row = some k → b ≠ k) : RowAt w' b cs t := by
  unfold RowAt; rw [hg.block b h.lt (fun e => hn b e.symm rfl)]; exact h
/-- A row of another type is no block of bytes. -/
theorem RowAt.own {w : World} {b base : Nat} {cs : Array Value} {v : Value} {l : List UInt8} (h : RowAt w b cs 38) (ho : BO w base v l) : ∀ k, v.ownBlock = some k → k ≠ b := by
  intro k hk e
  subst e
  rcases ho.2 with ⟨rfl, _⟩ | ⟨g, cap, cur, rfl, h1, h2, hr⟩
  · simp [Value.ownBlock] at hk
  · simp [Value.ownBlock] at hk
    subst hk
    unfold RowAt at h
    rw [h2] at h
    cases h
/-- A row of another type stays where a byte is put behind bytes of the call's own. -/
theorem RowAt.pushed {w w' : World} {b base : Nat} {cs : Array Value} {v r : Value} {xs : List UInt8} {c : UInt8} (h : RowAt w b cs 38) (ho : BO w base v xs)
    (hrun : (Builtin.append_ #[41, 41] 41 #[v, .slice (some ⟨w.heap.size, 0, none⟩) 1 1]).run Tryd.prog (w.alloc (.cells #[.int .u8 (c.toNat : Int)] 5)) = .ok r w') (hb : xs.length + 1 ≤ 140737488355328) (hbase : base ≤ w.heap.size) : RowAt w' b cs 38 := by
  have hbn := below_new w (.cells #[.int .u8 (c.toNat : Int)] 5)
  obtain ⟨a', c', w2, hrun2, -, hgr⟩ := append_bb base v _ xs [c] _ (ho.below hbn) (one_u8 w c) hb (Nat.le_trans hbase hbn.size)
  rw [hrun] at hrun2
  cases hrun2
  exact RowAt.grown (h.below hbn) hgr (fun k hk => (RowAt.own h ho k hk).symm)
theorem idsB_len (l : List Int) : (idsB l).length = 4 * l.length := by
  induction l with
  | nil => rfl
  | cons x r ih => simp only [idsB, List.flatMap_cons, List.length_append, List.length_cons, beBytes_len _ 4 (by decide)] at ih ⊢; omega
theorem pcB_len (p : Pc) : (pcB p).length = 12 + p.dat.size := by
  simp only [pcB, List.length_append, beBytes_len _ 4 (by decide), beBytes_len _ 8 (by decide), bsize]
theorem pcsB_len : ∀ (l : List Pc), (∀ p ∈ l, p.dat.size ≤ 1048576) → (pcsB l).length ≤ 1048588 * l.length
  | [], _ => Nat.le_refl _
  | x :: r, h => by
    have ih := pcsB_len r (fun p hp => h p (List.mem_cons_of_mem _ hp))
    have := h x (by simp)
    simp only [pcsB, List.flatMap_cons, List.length_append, List.length_cons, pcB_len] at ih ⊢
    omega
theorem len_take {α : Type} {l : List α} {k : Nat} (h : k ≤ l.length) : (l.take k).length = k := by rw [List.length_take]; omega

set_option maxRecDepth 100000 in
set_option maxHeartbeats 32000000 in
theorem rasum_any (a : Ar) (P R : Nat) (vi vp : Value) (w : World) (hf : SumFit a P R) (hr : ArR w a vi vp) :
    Calls Tryd.prog 14 #[.agg (arC a vi vp)] w fun e w' => e = .returned (.int .u32 ((crcV (arB a) : Nat) : Int)) ∧ Below w.heap.size w w' := by
  obtain ⟨W1, hW1⟩ : ∃ W1, w.alloc (.cells (arC a vi vp) 29) = W1 := ⟨_, rfl⟩
  have x1 : RowAt W1 w.heap.size (arC a vi vp) 29 := by rw [← hW1]; exact arC_row _ _ _ _
  have hb1 : Below w.heap.size w W1 := by rw [← hW1]; exact below_new w _
  have HX := hide (fun W (hb : Below W1.heap.size W1 W) => x1.below hb)
  have HR := hide (fun W (hb : Below W1.heap.size W1 W) => (hr.below hb1).below hb)
  have HB1 := hide hb1
  have HF := hide hf
  have HDA := hide (arB_eq hf)
  have HPG := hide hf.pg
  have HRT := hide hf.rt
  obtain ⟨x, cap, hv, -⟩ := hr.ids
  obtain ⟨xp, capp, hvp⟩ := hr.pcs.form
  obtain ⟨n, hn⟩ : ∃ n, n = a.ids.length := ⟨_, rfl⟩
  obtain ⟨m, hm⟩ : ∃ m, m = a.pcs.length := ⟨_, rfl⟩
  rw [ints_length, ← hn] at hv
  rw [← hm] at hvp
  subst hv hvp
  have HW : Hid (w.alloc (.cells #[.int .i64 a.pg, .int .i64 a.rt, .int .u64 (a.tx : Int), .int .u64 (a.si : Int), .slice x n cap, .slice xp m capp, .int .u32 (a.sum : Int)] 29) = W1) := hW1
  have HN := hide hn
  have HM := hide hm
  have hnb : n ≤ 1048640 := by rw [hn]; exact hf.ni
  have hmb : m ≤ 1048640 := by rw [hm]; exact hf.np
  rw [← hn, ← hm] at HDA
  have B4 := hide (fun y (hy : y < 4294967296) W => rbo_any y 4 W (by omega) (by decide) (by decide) (by omega))
  have B8 := hide (fun y (hy : y < 18446744073709551616) W => rput_ok y 8 W hy (by decide) (by decide) hy)
  have L4 := hide (fun y => beBytes_len y 4 (by decide))
  have L8 := hide (fun y => beBytes_len y 8 (by decide))
  obtain ⟨Q, hQ⟩ : ∃ Q : Ending → World → Prop, Q = fun e w' => e = .returned (.int .u32 ((crcV (arB a) : Nat) : Int)) ∧ Below w.heap.size w w' := ⟨_, rfl⟩
  rw [← hQ]
  have HQ := hide hQ
  clear hQ hW1 hb1 x1 hn hm hf hr
  unfold arC
  go_enter Tryd.func14, Tryd.ntmps14
  go_wp2_with fail
  rw [HW.out]
  rw [HPG.out.1]
  refine (B4.out P HPG.out.2 W1).mono ?_
  rintro e U1 ⟨v1, rfl, ho1, hb1⟩
  have HO1 := hide ho1
  have HBA := hide hb1
  clear ho1 hb1
  have q1 : U1.cell? ⟨w.heap.size, 1, none⟩ = some (.int .i64 (R : Int)) := by rw [← HRT.out.1]; exact (HX.out _ HBA.out).a1
  obtain ⟨a1, d1, rfl⟩ := HO1.out.form
  go_wp2_with fail
  refine (B4.out R HRT.out.2 U1).mono ?_
  rintro e U2 ⟨v2, rfl, ho2, hb2⟩
  obtain ⟨a3, d3, n3, U3, hrun, hn3, ho3, hb3, -⟩ := app_bb W1.heap.size W1 _ v2 _ (beBytes R 4) U2 (Below.next HBA.out hb2) (Nat.le_refl _) (HO1.out.below hb2) (rowR_of_owns ho2) (by rw [L4.out, L4.out]; decide)
  have HRUN := hide hrun
  have HO3 := hide ho3
  have HB3 := hide hb3
  clear ho2 hb2 hrun ho3 hb3 HO1 HBA q1 hn3
  have q2 := (HX.out _ HB3.out).a2
  go_wp2_with (first | (at_builtin; refine wpList_append_run 41 rfl _ _ rfl rfl _ _ rfl rfl _ _ HRUN.out ?_))
  clear HRUN
  refine (B8.out a.tx HF.out.tx U3).mono ?_
  rintro e U4 ⟨v4, rfl, ho4, hb4⟩
  have ho4' : BO U4 U3.heap.size v4 (beBytes a.tx 8) := by unfold BO; rw [L8.out]; exact ho4
  have HT4 := hide ho4'
  have HO4 := hide (HO3.out.below hb4)
  have HB4 := hide (Below.next HB3.out hb4)
  clear ho4 ho4' hb4 q2 HO3 HB3
  have q3 := (HX.out _ HB4.out).a3
  go_wp2_with fail
  refine (B8.out a.si HF.out.si U4).mono ?_
  rintro e U5 ⟨v5, rfl, ho5, hb5⟩
  have ho5' : BO U5 U4.heap.size v5 (beBytes a.si 8) := by unfold BO; rw [L8.out]; exact ho5
  have HB5 := hide (Below.next HB4.out hb5)
  obtain ⟨a6, d6, n6, U6, hrun, hn6, ho6, hb6, hg6⟩ := app_bb W1.heap.size W1 _ v4 _ (beBytes a.tx 8) U5 HB5.out (Nat.le_refl _) (HO4.out.below hb5) ((rowR_of_owns HT4.out).below hb5) (by rw [List.length_append, L4.out, L4.out, L8.out]; decide)
  have ho5'' := ho5'.kept hg6 (fun k hk => (HO4.out.lt k hk).2)
  have HRUN := hide hrun
  obtain ⟨a7, d7, n7, U7, hrun2, hn7, ho7, hb7, -⟩ := app_bb W1.heap.size W1 _ v5 _ (beBytes a.si 8) U6 hb6 (Nat.le_refl _) ho6 (rowR_of_owns ho5'') (by rw [List.length_append, List.length_append, L4.out, L4.out, L8.out, L8.out]; decide)
  have HRUN2 := hide hrun2
  have HO7 := hide ho7
  have HB7 := hide hb7
  clear ho5 ho5' ho5'' hb5 hrun hrun2 ho6 hb6 hg6 ho7 hb7 HT4 HO4 HB4 HB5 q3 hn6 hn7
  have q4 := (HX.out _ HB7.out).a4
  go_wp2_with (first | (at_builtin; refine wpList_append_run 41 rfl _ _ rfl rfl _ _ rfl rfl _ _ HRUN.out ?_) | (at_builtin; refine wpList_append_run 41 rfl _ _ rfl rfl _ _ rfl rfl _ _ HRUN2.out ?_))
  clear HRUN HRUN2
  refine (B4.out n (by omega) U7).mono ?_
  rintro e U8 ⟨v8, rfl, ho8, hb8⟩
  obtain ⟨a9, d9, n9, U9, hrun, hn9, ho9, hb9, -⟩ := app_bb W1.heap.size W1 _ v8 _ (beBytes n 4) U8 (Below.next HB7.out hb8) (Nat.le_refl _) (HO7.out.below hb8) (rowR_of_owns ho8) (by rw [List.length_append, List.length_append, List.length_append, L4.out, L4.out, L8.out, L8.out, L4.out]; decide)
  obtain ⟨pre, hpre⟩ : ∃ pre, pre = (((beBytes P 4 ++ beBytes R 4) ++ beBytes a.tx 8) ++ beBytes a.si 8) ++ beBytes n 4 := ⟨_, rfl⟩
  have HPL : Hid (pre.length = 28) := by show _ = _; rw [hpre, List.length_append, List.length_append, List.length_append, List.length_append, L4.out, L4.out, L8.out, L8.out, L4.out]
  rw [← hpre] at hn9 ho9 HDA
  have HN9 := hide hn9
  have HRUN := hide hrun
  have HO9 := hide ho9
  have HB9 := hide hb9
  clear ho8 hb8 hrun ho9 hb9 HO7 HB7 q4 hpre hn9
  go_wp2_with (first | (at_builtin; refine wpList_append_run 41 rfl _ _ rfl rfl _ _ rfl rfl _ _ HRUN.out ?_))
  clear HRUN
  go_wp2
  go_loopw [3, 8] (fun p i wr => ∃ (k mm : Nat) (y : Option Addr) (f : Nat), k ≤ n ∧ i = .int .i64 k ∧ p = .slice y mm f ∧ Hid (mm = (pre ++ idsB (a.ids.take k)).length) ∧ Hid (BO wr W1.heap.size (.slice y mm f) (pre ++ idsB (a.ids.take k))) ∧ Hid (Below W1.heap.size W1 wr)) (fun _ i _ => n - (intOf i).toNat)
  case atStart => exact ⟨0, n9, a9, d9, Nat.zero_le _, rfl, rfl, by show _ = _; rw [HN9.out]; simp [idsB], by show BO _ _ _ _; simpa [idsB] using HO9.out, HB9.out⟩
  case round =>
    obtain ⟨k, mm, y, f, hk, rfl, rfl, hmm, hown, hbw⟩ := hrel
    have q4 := (HX.out _ hbw.out).a4
    by_cases hlt : k < n
    · have hkl : k < a.ids.length := by have := HN.out; omega
      obtain ⟨a9, cap9, he9, _, _, hc⟩ := (HR.out _ hbw.out).ids
      obtain ⟨g, o, ha, hcell⟩ := hc k _ (ints_get a.ids k hkl)
      obtain ⟨rfl, -, rfl⟩ : x = a9 ∧ n = (ints a.ids).length ∧ cap = cap9 := by simpa using he9
      subst ha
      have HTK : Hid (a.ids.take (k + 1) = a.ids.take k ++ [a.ids[k]]) := List.take_succ_eq_append_getElem hkl
      obtain ⟨z, hz, hzl⟩ := HF.out.ids a.ids[k] (List.getElem_mem _)
      rw [hz] at hcell HTK
      have HTB : Hid (pre ++ idsB (a.ids.take (k + 1)) = (pre ++ idsB (a.ids.take k)) ++ beBytes z 4) := by show _ = _; rw [HTK.out, idsB_snoc, List.append_assoc]
      have hltI : (k : Int) < (n : Int) := by omega
      have j0 : (0 : Int) ≤ (k : Int) := by omega
      have HTL : Hid ((pre ++ idsB (a.ids.take k)).length ≤ 4194588) := by show _ ≤ _; rw [List.length_append, HPL.out, idsB_len, len_take (by omega)]; omega
      obtain ⟨T, hT⟩ : ∃ T, T = pre ++ idsB (a.ids.take k) := ⟨_, rfl⟩
      rw [← hT] at hmm hown HTB HTL
      clear hc he9 hz hT HTK
      go_wp2_with fail
      refine (B4.out z hzl wr).mono ?_
      rintro e V1 ⟨v1, rfl, ho1, hb1⟩
      obtain ⟨a2, d2, n2, V2, hrun, hn2, ho2, hb2, -⟩ := app_bb W1.heap.size W1 _ v1 _ (beBytes z 4) V1 (Below.next hbw.out hb1) (Nat.le_refl _) (hown.out.below hb1) (rowR_of_owns ho1) (by rw [L4.out]; have := HTL.out; omega)
      rw [← HTB.out] at ho2
      rw [← HTB.out] at hn2
      have HLL := hide hn2
      have HRUN := hide hrun
      have HO2 := hide ho2
      have HB2 := hide hb2
      clear ho1 hb1 hrun ho2 hb2 q4 hcell hown hbw hn2
      go_wp2_with (first | (at_builtin; refine wpList_append_run 41 rfl _ _ rfl rfl _ _ rfl rfl _ _ HRUN.out ?_))
      go_wp2
      go_roundw
      case rel => exact ⟨k + 1, n2, a2, d2, by omega, by go_num, rfl, HLL.out, HO2.out, HB2.out⟩
      case measure => simp [intOf]; omega
    · have hltI : ¬ (k : Int) < (n : Int) := by omega
      have hkn : k = n := by omega
      subst hkn
      obtain ⟨pr2, hpr2⟩ : ∃ pr2, pr2 = pre ++ idsB a.ids := ⟨_, rfl⟩
      have hTK : pre ++ idsB (a.ids.take k) = pr2 := by rw [hpr2, HN.out, List.take_length]
      rw [hTK] at hmm hown
      rw [← hpr2] at HDA
      have HP2 : Hid (pr2.length ≤ 4194588) := by show _ ≤ _; rw [hpr2, List.length_append, HPL.out, idsB_len, ← HN.out]; omega
      have q5 := (HX.out _ hbw.out).a5
      clear hTK hpr2
      go_wp2_with fail
      clear q4 q5
      refine (B4.out m (by omega) wr).mono ?_
      rintro e V1 ⟨v1, rfl, ho1, hb1⟩
      obtain ⟨a2, d2, n2, V2, hrun, hn2, ho2, hb2, -⟩ := app_bb W1.heap.size W1 _ v1 _ (beBytes m 4) V1 (Below.next hbw.out hb1) (Nat.le_refl _) (hown.out.below hb1) (rowR_of_owns ho1) (by rw [L4.out]; have := HP2.out; omega)
      obtain ⟨pr3, hpr3⟩ : ∃ pr3, pr3 = pr2 ++ beBytes m 4 := ⟨_, rfl⟩
      rw [← hpr3] at hn2 ho2 HDA
      have HN2 := hide hn2
      have HP3 : Hid (pr3.length ≤ 4194592) := by show _ ≤ _; rw [hpr3, List.length_append, L4.out]; have := HP2.out; omega
      have HRUN := hide hrun
      have HO2 := hide ho2
      have HB2 := hide hb2
      clear ho1 hb1 hrun ho2 hb2 hown hbw hpr3 HP2 hn2
      go_wp2_with (first | (at_builtin; refine wpList_append_run 41 rfl _ _ rfl rfl _ _ rfl rfl _ _ HRUN.out ?_))
      clear HRUN
      go_wp2
      go_loopw [3, 9] (fun p i wr => ∃ (k mm : Nat) (y : Option Addr) (f : Nat), k ≤ m ∧ i = .int .i64 k ∧ p = .slice y mm f ∧ Hid (mm = (pr3 ++ pcsB (a.pcs.take k)).length) ∧ Hid (BO wr W1.heap.size (.slice y mm f) (pr3 ++ pcsB (a.pcs.take k))) ∧ Hid (Below W1.heap.size W1 wr)) (fun _ i _ => m - (intOf i).toNat)
      case atStart => exact ⟨0, n2, a2, d2, Nat.zero_le _, rfl, rfl, by show _ = _; rw [HN2.out]; simp [pcsB], by show BO _ _ _ _; simpa [pcsB] using HO2.out, HB2.out⟩
      case round =>
        obtain ⟨j, mm, y, f, hj, rfl, rfl, hmm, hown, hbw⟩ := hrel
        have q5 := (HX.out _ hbw.out).a5
        by_cases hltm : j < m
        · have hjl : j < a.pcs.length := by have := HM.out; omega
          obtain ⟨a9, cap9, he9, _, _, hc⟩ := (HR.out _ hbw.out).pcs
          obtain ⟨g, o, ha, c0, c1, c2⟩ := hc j hjl
          obtain ⟨rfl, -, rfl⟩ : xp = a9 ∧ m = a.pcs.length ∧ capp = cap9 := by simpa using he9
          subst ha
          have HTK : Hid (a.pcs.take (j + 1) = a.pcs.take j ++ [a.pcs[j]]) := List.take_succ_eq_append_getElem hjl
          obtain ⟨⟨z, hz, hzl⟩, hzt, hzd⟩ := HF.out.pcs a.pcs[j] (List.getElem_mem _)
          obtain ⟨p, hp⟩ : ∃ p, p = a.pcs[j] := ⟨_, rfl⟩
          rw [← hp] at c0 c1 c2 hz hzt hzd HTK
          have HTB : Hid (pr3 ++ pcsB (a.pcs.take (j + 1)) = (((pr3 ++ pcsB (a.pcs.take j)) ++ beBytes z 4) ++ beBytes p.tx 8) ++ p.dat.data.toList) := by
            show _ = _; rw [HTK.out, pcsB_snoc _ p z hz]; simp
          rw [hz] at c0
          have HTL : Hid ((pr3 ++ pcsB (a.pcs.take j)).length ≤ 1200000000000) := by
            show _ ≤ _
            have h1 := pcsB_len (a.pcs.take j) (fun q hq => (HF.out.pcs q (List.mem_of_mem_take hq)).2.2)
            rw [len_take (by omega)] at h1
            rw [List.length_append]
            have := HP3.out
            omega
          have hltI : (j : Int) < (m : Int) := by omega
          have j0 : (0 : Int) ≤ (j : Int) := by omega
          obtain ⟨W3, hW3⟩ : ∃ W3, wr.alloc (.cells #[.int .i64 (z : Int), .int .u64 (p.tx : Int), .string p.dat] 38) = W3 := ⟨_, rfl⟩
          have x3 : RowAt W3 wr.heap.size #[.int .i64 (z : Int), .int .u64 (p.tx : Int), .string p.dat] 38 := by rw [← hW3]; exact RowAt.new _ _ _
          have hb3 : Below wr.heap.size wr W3 := by rw [← hW3]; exact below_new _ _
          obtain ⟨T, hT⟩ : ∃ T, T = pr3 ++ pcsB (a.pcs.take j) := ⟨_, rfl⟩
          rw [← hT] at HTB HTL hmm hown
          have HX3 := hide x3
          have HW3 := hide hW3
          have HO3 := hide (hown.out.below hb3)
          have HB3 := hide (Below.next hbw.out hb3)
          have HOW : Hid (∀ k, (Value.slice y mm f).ownBlock = some k → k < wr.heap.size) := fun k hk => (hown.out.lt k hk).2
          have HZD := hide hzd
          have HZT := hide hzt
          clear hc he9 hp hz hzd hzt x3 hb3 hT hW3 hown hbw HTK
          go_wp2_with fail
          rw [HW3.out]
          clear HW3 c0 c1 c2 q5
          refine (B4.out z hzl W3).mono ?_
          rintro e V1 ⟨v1, rfl, ho1, hb1⟩
          obtain ⟨a2, d2, n2, V2, hrun, hn2, ho2, hb2, hg2⟩ := app_bb W1.heap.size W1 _ v1 _ (beBytes z 4) V1 (Below.next HB3.out hb1) (Nat.le_refl _) (HO3.out.below hb1) (rowR_of_owns ho1) (by rw [L4.out]; have := HTL.out; omega)
          have HX4 := hide (RowAt.grown (HX3.out.below hb1) hg2 (fun k hk => Nat.ne_of_gt (HOW.out k hk)))
          have HPB : Hid (wr.heap.size < V2.heap.size) := Nat.lt_of_lt_of_le (HX3.out.below hb1).lt hg2.size
          have HRUN := hide hrun
          have HO4 := hide ho2
          have HB4 := hide hb2
          have HOW4 : Hid (∀ k, (Value.slice a2 n2 d2).ownBlock = some k → k ≠ wr.heap.size) := RowAt.own HX4.out HO4.out
          clear ho1 hb1 hrun ho2 hb2 hg2 HX3 HO3 HB3 HOW hn2
          have c1 : V2.cell? ⟨wr.heap.size, 1, none⟩ = some (.int .u64 (p.tx : Int)) := HX4.out.cell 1 (by simp)
          go_wp2_with (first | (at_builtin; refine wpList_append_run 41 rfl _ _ rfl rfl _ _ rfl rfl _ _ HRUN.out ?_))
          clear HRUN c1
          refine (B8.out p.tx HZT.out V2).mono ?_
          rintro e V3 ⟨v3, rfl, ho3, hb3⟩
          obtain ⟨a4, d4, n4, V4, hrun, hn4, ho4, hb4, hg4⟩ := app_bb W1.heap.size W1 _ v3 _ (beBytes p.tx 8) V3 (Below.next HB4.out hb3) (Nat.le_refl _) (HO4.out.below hb3) (rowR_of_owns ho3) (by rw [List.length_append, L4.out, L8.out]; have := HTL.out; omega)
          have HX5 := hide (RowAt.grown (HX4.out.below hb3) hg4 (fun k hk => (HOW4.out k hk).symm))
          obtain ⟨T4, hT4⟩ : ∃ T4, T4 = (T ++ beBytes z 4) ++ beBytes p.tx 8 := ⟨_, rfl⟩
          rw [← hT4] at hn4 ho4 HTB
          have HN4 := hide hn4
          have HRUN := hide hrun
          have HO5 := hide ho4
          have HB5 := hide hb4
          have HL5 : Hid (T4.length ≤ 1200000000012) := by show _ ≤ _; rw [hT4, List.length_append, List.length_append, L4.out, L8.out]; have := HTL.out; omega
          clear ho3 hb3 hrun ho4 hb4 hg4 HX4 HO4 HB4 HOW4 HPB hT4 HTL hmm hn4
          go_wp2_with (first | (at_builtin; refine wpList_append_run 41 rfl _ _ rfl rfl _ _ rfl rfl _ _ HRUN.out ?_))
          clear HRUN
          obtain ⟨s, hs⟩ : ∃ s, s = p.dat := ⟨_, rfl⟩
          obtain ⟨N, hNs⟩ : ∃ N, N = s.size := ⟨_, rfl⟩
          rw [← hs] at HX5 HZD HTB
          have HNS := hide hNs
          have HSL : Hid (s.data.toList.length = N) := by show _ = _; rw [hNs]; rfl
          have hNb : N ≤ 1048576 := by rw [hNs]; exact HZD.out
          clear hs hNs
          go_wp2
          go_loopw [3, 13] (fun pp i wv => ∃ (k nn : Nat) (y : Option Addr) (f : Nat), k ≤ N ∧ i = .int .i64 k ∧ pp = .slice y nn f ∧ Hid (nn = (T4 ++ s.data.toList.take k).length) ∧ Hid (BO wv W1.heap.size (.slice y nn f) (T4 ++ s.data.toList.take k)) ∧ Hid (RowAt wv wr.heap.size #[.int .i64 (z : Int), .int .u64 (p.tx : Int), .string s] 38) ∧ Hid (Below W1.heap.size W1 wv)) (fun _ i _ => N - (intOf i).toNat)
          case atStart => exact ⟨0, n4, a4, d4, Nat.zero_le _, rfl, rfl, by show _ = _; rw [HN4.out]; simp, by show BO _ _ _ _; simpa using HO5.out, HX5.out, HB5.out⟩
          case round =>
            obtain ⟨k, nn, y4, f4, hk, rfl, rfl, hnn, hown, hrow, hbw⟩ := hrel
            have c2 := hrow.out.cell 2 (by simp)
            by_cases hlt : k < N
            · have hltI : (k : Int) < (N : Int) := by omega
              have j0 : (0 : Int) ≤ (k : Int) := by omega
              have hks : k < s.data.toList.length := by rw [HSL.out]; exact hlt
              have hkz : k < s.size := by rw [← HNS.out]; exact hlt
              have HTK : Hid (T4 ++ s.data.toList.take (k + 1) = (T4 ++ s.data.toList.take k) ++ [s[k]]) := by
                have e : s.data.toList[k] = s[k] := rfl
                show _ = _; rw [List.take_add_one, List.getElem?_eq_getElem hks, e]; simp
              have hzl2 : (T4 ++ s.data.toList.take k).length ≤ 1200001048588 := by rw [List.length_append, List.length_take]; have := HL5.out; omega
              obtain ⟨a5, d5, V5, hrun, ho5, hb5⟩ := push_u8 W1.heap.size (.slice y4 nn f4) _ s[k] _ hown.out (by omega) hbw.out.size
              have hgq := RowAt.pushed hrow.out hown.out hrun (by omega) hbw.out.size
              rw [← hnn.out] at hrun ho5
              have HRUN := hide hrun
              have HO6 := hide ho5
              have HB6 := hide (hbw.out.trans hb5)
              have HNN : Hid (nn + 1 = (T4 ++ s.data.toList.take (k + 1)).length) := by show _ = _; rw [HTK.out, List.length_append, ← hnn.out]; rfl
              have HR6 := hide hgq
              have hltI2 : (k : Int) < (s.size : Int) := by omega
              clear hrun ho5 hb5 hown hbw hzl2 hnn hrow hgq
              go_wp2_with (first | (at_builtin; refine wpList_append_run 41 rfl _ _ rfl rfl _ _ rfl rfl _ _ HRUN.out ?_))
              go_wp2
              go_roundw
              case rel => exact ⟨k + 1, nn + 1, a5, d5, by omega, by go_num, rfl, HNN.out, by show BO _ _ _ _; rw [HTK.out]; exact HO6.out, HR6.out, HB6.out⟩
              case measure => simp [intOf]; omega
            · have hltI : ¬ (k : Int) < (N : Int) := by omega
              have hkN : k = N := by omega
              subst hkN
              have hltI2 : ¬ (k : Int) < (s.size : Int) := by have := HNS.out; omega
              have hTT : T4 ++ s.data.toList.take k = pr3 ++ pcsB (a.pcs.take (j + 1)) := by rw [HTB.out, List.take_of_length_le (by rw [HSL.out]; exact Nat.le_refl _)]
              rw [hTT] at hnn hown
              clear hTT hrow
              go_wp2
              go_roundw
              case rel => exact ⟨j + 1, nn, y4, f4, by omega, by go_num, rfl, hnn, hown, hbw⟩
              case measure => simp [intOf]; omega
        · have hltI : ¬ (j : Int) < (m : Int) := by omega
          have hkn : j = m := by omega
          subst hkn
          have hTK : pr3 ++ pcsB (a.pcs.take j) = arB a := by rw [HDA.out, HM.out, List.take_length]
          have HTL : Hid ((arB a).length ≤ 1200000000000) := by
            show _ ≤ _
            have h1 := pcsB_len a.pcs (fun q hq => (HF.out.pcs q hq).2.2)
            rw [HDA.out, List.length_append]
            have := HP3.out
            have := HM.out
            omega
          rw [hTK] at hown hmm
          have HC := hide (ref_rd (.slice y mm f) (arB a) wr (by have := HTL.out; omega) (rd_of_owns hown.out))
          clear hTK hown
          go_wp2_with fail
          clear q5
          refine HC.out.mono ?_
          rintro e V2 ⟨rfl, rfl⟩
          go_wp2
          rw [HQ.out]
          exact ⟨rfl, Below.next HB1.out hbw.out⟩
end Go.Proofs.YtpeobpmooledaaaDoor
