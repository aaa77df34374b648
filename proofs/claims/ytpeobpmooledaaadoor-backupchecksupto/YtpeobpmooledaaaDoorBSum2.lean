import Derived.Test.YtpeobpmooledaaaDoorBSum
namespace Go.Proofs.YtpeobpmooledaaaDoor
open Go.RowKit
attribute [local go_sem ↓] Go.wp_at_zero Go.wp_at_succ

/-- The numbers of an archive that its sum is taken of fit their bytes. -/
structure SumFit (a : Ar) (P R : Nat) : Prop where
  pg : a.pg = (P : Int) ∧ P < 4294967296
  rt : a.rt = (R : Int) ∧ R < 4294967296
  tx : a.tx < 18446744073709551616
  si : a.si < 18446744073709551616
  ids : ∀ x ∈ a.ids, ∃ n : Nat, x = (n : Int) ∧ n < 4294967296
  pcs : ∀ p ∈ a.pcs, (∃ n : Nat, p.id = (n : Int) ∧ n < 4294967296) ∧ p.tx < 18446744073709551616 ∧ p.dat.size ≤ 1048576
  ni : a.ids.length ≤ 1048640
  np : a.pcs.length ≤ 1048640
/-- Where a sum stands: so many bytes are summed, all but the sum's block is as it was at W. -/
structure Ev (sb : Nat) (W w : World) (l : List UInt8) : Prop where
  sum : SumAt w sb l
  sole : M.Sole sb W w
theorem Ev.row {sb : Nat} {W w : World} {l : List UInt8} (h : Ev sb W w l) {b : Nat} {cs : Array Value} {t : TypeId} (hr : RowAt W b cs t) (hn : b ≠ sb) : RowAt w b cs t := Sole.keep h.sole hr hn
theorem Ev.below {sb : Nat} {W w w' : World} {l : List UInt8} (h : Ev sb W w l) (hb : Below w.heap.size w w') : Ev sb W w' l := ⟨h.sum.below hb, h.sole.trans (M.Sole.of_below hb)⟩
theorem idsB_snoc (l : List Int) (n : Nat) : idsB (l ++ [(n : Int)]) = idsB l ++ beBytes n 4 := by simp [idsB]
theorem pcsB_snoc (l : List Pc) (p : Pc) (n : Nat) (h : p.id = (n : Int)) : pcsB (l ++ [p]) = ((pcsB l ++ beBytes n 4) ++ beBytes p.tx 8) ++ p.dat.data.toList := by simp [pcsB, pcB, h]
theorem arB_eq {a : Ar} {P R : Nat} (h : SumFit a P R) : arB a = (((((((beBytes P 4 ++ beBytes R 4) ++ beBytes a.tx 8) ++ beBytes a.si 8) ++ beBytes a.ids.length 4) ++ idsB a.ids) ++ beBytes a.pcs.length 4) ++ pcsB a.pcs) := by
  unfold arB hdB; rw [h.pg.1, h.rt.1]; rfl
theorem rd_of_rdB {w : World} {v : Value} {l : List UInt8} (h : S.RdB w v l) (_hl : l.length ≤ 1048576) : Rd w v l := by
  rcases h with h | ⟨g, cap, hv, h1, h2, h3, h4⟩
  · exact .inl h
  · exact .inr ⟨g, cap, hv, h1, by unfold maxLen; omega, h3, h4⟩

set_option maxRecDepth 100000 in
set_option maxHeartbeats 16000000 in
theorem beach_any (w0 : World) (a : Ar) (P R : Nat) (vi vp : Value) (sb : Nat) (w : World) (hf : SumFit a P R) (ht : Tab w0) (hr : ArR w0 a vi vp) (hb0 : Below w0.heap.size w0 w) (hsb : w0.heap.size ≤ sb) (hs : SumAt w sb []) :
    Calls Tryd.prog 20 #[.agg (arC a vi vp), fnV sb] w fun e w' => e = .returned (.tuple #[]) ∧ SumAt w' sb (arB a) ∧ M.Sole sb w w' := by
  obtain ⟨W2, hW2⟩ : ∃ W2, (w.alloc (.cells (arC a vi vp) 29)).alloc (.cells #[fnV sb] 47) = W2 := ⟨_, rfl⟩
  have hbA : Below w.heap.size w W2 := by rw [← hW2]; exact Below.next (below_new w _) (below_new _ _)
  have x1 : RowAt W2 w.heap.size (arC a vi vp) 29 := by rw [← hW2]; exact (arC_row _ _ _ _).below (below_new _ _)
  have x2 : RowAt W2 (w.heap.size + 1) #[fnV sb] 47 := by
    rw [← hW2]
    have := RowAt.new (w.alloc (.cells (arC a vi vp) 29)) #[fnV sb] 47
    rwa [World.size_alloc] at this
  have hsl : sb < w.heap.size := RowAt.lt hs
  have hE : Ev sb W2 W2 [] := ⟨hs.below hbA, M.Sole.refl _ _⟩
  have hT : ∀ wr l, Ev sb W2 wr l → Below w0.heap.size w0 wr := fun wr l h => h.sole.below (Below.next hb0 hbA) hsb
  have hc1 : ∀ wr l, Ev sb W2 wr l → wr.cell? ⟨w.heap.size + 1, 0, none⟩ = some (fnV sb) := fun wr l h => (h.row x2 (by omega)).cell 0 (by simp)
  have K1 := hide (fun wr l n (h : Ev sb W2 wr l) (hn : n < 4294967296) => beach1_any (w.heap.size + 1) sb n l wr hn (hc1 wr l h) h.sum (ht.below (hT wr l h)))
  have K2 := hide (fun wr l n (h : Ev sb W2 wr l) (hn : n < 18446744073709551616) => beach2_any (w.heap.size + 1) sb n l wr hn (hc1 wr l h) h.sum (ht.below (hT wr l h)))
  have K3 := hide (fun wr l v p (h : Ev sb W2 wr l) (hp : p.length ≤ 1048576) (hv : Rd wr v p) => bsum1_any sb v p l wr (by omega) h.sum hv (ht.below (hT wr l h)))
  have HR := hide (fun wr l (h : Ev sb W2 wr l) => hr.below (hT wr l h))
  have HX := hide (fun wr l (h : Ev sb W2 wr l) => h.row x1 (Nat.ne_of_gt hsl))
  have HC := hide hc1
  have HE := hide hE
  have HF := hide hf
  have HSL := hide hsl
  have HBA := hide hbA
  have HDA := hide (arB_eq hf)
  obtain ⟨x, cap, hv, -⟩ := hr.ids
  obtain ⟨xp, capp, hvp⟩ := hr.pcs.form
  obtain ⟨n, hn⟩ : ∃ n, n = a.ids.length := ⟨_, rfl⟩
  obtain ⟨m, hm⟩ : ∃ m, m = a.pcs.length := ⟨_, rfl⟩
  rw [ints_length, ← hn] at hv
  rw [← hm] at hvp
  subst hv hvp
  have HW : Hid ((w.alloc (.cells #[.int .i64 a.pg, .int .i64 a.rt, .int .u64 (a.tx : Int), .int .u64 (a.si : Int), .slice x n cap, .slice xp m capp, .int .u32 (a.sum : Int)] 29)).alloc (.cells #[.func (.func 21) #[] #[.pointer (some ⟨sb, 0, none⟩)]] 47) = W2) := hW2
  have HN := hide hn
  have HM := hide hm
  have hnb : n ≤ 1048640 := by rw [hn]; exact hf.ni
  have hmb : m ≤ 1048640 := by rw [hm]; exact hf.np
  rw [← hn, ← hm] at HDA
  obtain ⟨Q, hQ⟩ : ∃ Q : Ending → World → Prop, Q = fun e w' => e = .returned (.tuple #[]) ∧ SumAt w' sb (arB a) ∧ M.Sole sb w w' := ⟨_, rfl⟩
  rw [← hQ]
  have HQ := hide hQ
  have HPG := hide hf.pg
  have HRT := hide hf.rt
  clear hQ hW2 hbA x1 x2 hsl hE hT hc1 hn hm hf ht hr hb0 hs
  unfold arC fnV
  go_enter Tryd.func20, Tryd.ntmps20
  go_wp2_with fail
  rw [HW.out]
  clear HW
  rw [HPG.out.1]
  refine (K1.out W2 [] P HE.out HPG.out.2).mono ?_
  rintro e U1 ⟨rfl, hs1, hq1⟩
  have HE1 : Hid (Ev sb W2 U1 (beBytes P 4)) := ⟨hs1, hq1⟩
  clear hs1 hq1 HE
  have q1 : U1.cell? ⟨w.heap.size, 1, none⟩ = some (.int .i64 (R : Int)) := by rw [← HRT.out.1]; exact (HX.out _ _ HE1.out).a1
  go_wp2_with fail
  refine (K1.out U1 _ R HE1.out HRT.out.2).mono ?_
  rintro e U2 ⟨rfl, hs1, hq1⟩
  have HE2 : Hid (Ev sb W2 U2 (beBytes P 4 ++ beBytes R 4)) := ⟨hs1, HE1.out.sole.trans hq1⟩
  clear q1 hs1 hq1 HE1
  have q2 := (HX.out _ _ HE2.out).a2
  go_wp2_with fail
  refine (K2.out U2 _ a.tx HE2.out HF.out.tx).mono ?_
  rintro e U3 ⟨rfl, hs1, hq1⟩
  have HE3 : Hid (Ev sb W2 U3 ((beBytes P 4 ++ beBytes R 4) ++ beBytes a.tx 8)) := ⟨hs1, HE2.out.sole.trans hq1⟩
  clear q2 hs1 hq1 HE2
  have q3 := (HX.out _ _ HE3.out).a3
  go_wp2_with fail
  refine (K2.out U3 _ a.si HE3.out HF.out.si).mono ?_
  rintro e U4 ⟨rfl, hs1, hq1⟩
  have HE4 : Hid (Ev sb W2 U4 (((beBytes P 4 ++ beBytes R 4) ++ beBytes a.tx 8) ++ beBytes a.si 8)) := ⟨hs1, HE3.out.sole.trans hq1⟩
  clear q3 hs1 hq1 HE3
  have q4 := (HX.out _ _ HE4.out).a4
  go_wp2_with fail
  refine (K1.out U4 _ n HE4.out (by omega)).mono ?_
  rintro e U5 ⟨rfl, hs1, hq1⟩
  obtain ⟨pre, hpre⟩ : ∃ pre, pre = (((beBytes P 4 ++ beBytes R 4) ++ beBytes a.tx 8) ++ beBytes a.si 8) ++ beBytes n 4 := ⟨_, rfl⟩
  have HE5 : Hid (Ev sb W2 U5 pre) := by show Ev _ _ _ _; rw [hpre]; exact ⟨hs1, HE4.out.sole.trans hq1⟩
  rw [← hpre] at HDA
  clear q4 hs1 hq1 HE4 hpre
  have q4 := (HX.out _ _ HE5.out).a4
  go_wp2
  go_loopw [39] (fun i wr => ∃ k : Nat, k ≤ n ∧ i = .int .i64 k ∧ Hid (Ev sb W2 wr (pre ++ idsB (a.ids.take k)))) (fun i _ => n - (intOf i).toNat)
  case atStart => exact ⟨0, Nat.zero_le _, rfl, by show Ev _ _ _ _; simpa [idsB] using HE5.out⟩
  case round =>
    obtain ⟨k, hk, rfl, hev⟩ := hrel
    by_cases hlt : k < n
    · have hkl : k < a.ids.length := by have := HN.out; omega
      obtain ⟨a9, cap9, he9, _, _, hc⟩ := (HR.out _ _ hev.out).ids
      obtain ⟨g, o, ha, hcell⟩ := hc k _ (ints_get a.ids k hkl)
      obtain ⟨rfl, -, rfl⟩ : x = a9 ∧ n = (ints a.ids).length ∧ cap = cap9 := by simpa using he9
      subst ha
      have HTK : Hid (a.ids.take (k + 1) = a.ids.take k ++ [a.ids[k]]) := List.take_succ_eq_append_getElem hkl
      obtain ⟨y, hy, hyl⟩ := HF.out.ids a.ids[k] (List.getElem_mem _)
      rw [hy] at hcell HTK
      have hltI : (k : Int) < (n : Int) := by omega
      have j0 : (0 : Int) ≤ (k : Int) := by omega
      have HK := hide (K1.out wr _ y hev.out hyl)
      clear hc he9 hy hyl q4
      go_wp2_with fail
      refine HK.out.mono ?_
      rintro e U6 ⟨rfl, hs1, hq1⟩
      have HE6 : Hid (Ev sb W2 U6 (pre ++ idsB (a.ids.take (k + 1)))) := by
        show Ev _ _ _ _
        rw [HTK.out, idsB_snoc, ← List.append_assoc]
        exact ⟨hs1, hev.out.sole.trans hq1⟩
      clear hs1 hq1 HK hev hcell
      go_wp2
      go_roundw
      case rel => exact ⟨k + 1, by omega, by go_num, HE6.out⟩
      case measure => simp [intOf]; omega
    · have hltI : ¬ (k : Int) < (n : Int) := by omega
      have hkn : k = n := by omega
      subst hkn
      obtain ⟨pr2, hpr2⟩ : ∃ pr2, pr2 = pre ++ idsB a.ids := ⟨_, rfl⟩
      have HE6 : Hid (Ev sb W2 wr pr2) := by show Ev _ _ _ _; rw [hpr2]; have := hev.out; rwa [HN.out, List.take_length] at this
      rw [← hpr2] at HDA
      clear hev q4 hpr2
      have q5 := (HX.out _ _ HE6.out).a5
      go_wp2_with fail
      refine (K1.out wr _ m HE6.out (by omega)).mono ?_
      rintro e U7 ⟨rfl, hs1, hq1⟩
      obtain ⟨pr3, hpr3⟩ : ∃ pr3, pr3 = pr2 ++ beBytes m 4 := ⟨_, rfl⟩
      have HE7 : Hid (Ev sb W2 U7 pr3) := by show Ev _ _ _ _; rw [hpr3]; exact ⟨hs1, HE6.out.sole.trans hq1⟩
      rw [← hpr3] at HDA
      clear q5 hs1 hq1 HE6 hpr3
      have q5 := (HX.out _ _ HE7.out).a5
      go_wp2
      go_loopw [55] (fun i wr => ∃ k : Nat, k ≤ m ∧ i = .int .i64 k ∧ Hid (Ev sb W2 wr (pr3 ++ pcsB (a.pcs.take k)))) (fun i _ => m - (intOf i).toNat)
      case atStart => exact ⟨0, Nat.zero_le _, rfl, by show Ev _ _ _ _; simpa [pcsB] using HE7.out⟩
      case round =>
        clear q5
        obtain ⟨j, hj, rfl, hev⟩ := hrel
        by_cases hltm : j < m
        · have hjl : j < a.pcs.length := by have := HM.out; omega
          obtain ⟨a9, cap9, he9, _, _, hc⟩ := (HR.out _ _ hev.out).pcs
          obtain ⟨g, o, ha, c0, c1, c2⟩ := hc j hjl
          obtain ⟨rfl, -, rfl⟩ : xp = a9 ∧ m = a.pcs.length ∧ capp = cap9 := by simpa using he9
          subst ha
          have HTK : Hid (a.pcs.take (j + 1) = a.pcs.take j ++ [a.pcs[j]]) := List.take_succ_eq_append_getElem hjl
          obtain ⟨⟨y, hy, hyl⟩, hyt, hyd⟩ := HF.out.pcs a.pcs[j] (List.getElem_mem _)
          obtain ⟨p, hp⟩ : ∃ p, p = a.pcs[j] := ⟨_, rfl⟩
          rw [← hp] at c0 c1 c2 hy hyt hyd HTK
          have HTB : Hid (pr3 ++ pcsB (a.pcs.take (j + 1)) = (((pr3 ++ pcsB (a.pcs.take j)) ++ beBytes y 4) ++ beBytes p.tx 8) ++ p.dat.data.toList) := by
            show _ = _; rw [HTK.out, pcsB_snoc _ p y hy]; simp
          rw [hy] at c0
          have hltI : (j : Int) < (m : Int) := by omega
          have j0 : (0 : Int) ≤ (j : Int) := by omega
          obtain ⟨W3, hW3⟩ : ∃ W3, wr.alloc (.cells #[.int .i64 (y : Int), .int .u64 (p.tx : Int), .string p.dat] 38) = W3 := ⟨_, rfl⟩
          have x3 : RowAt W3 wr.heap.size #[.int .i64 (y : Int), .int .u64 (p.tx : Int), .string p.dat] 38 := by rw [← hW3]; exact RowAt.new _ _ _
          have hb3 : Below wr.heap.size wr W3 := by rw [← hW3]; exact below_new _ _
          have hnp : wr.heap.size ≠ sb := by have := RowAt.lt hev.out.sum; exact fun e => by omega
          obtain ⟨T, hT⟩ : ∃ T, T = pr3 ++ pcsB (a.pcs.take j) := ⟨_, rfl⟩
          rw [← hT] at HTB
          have HE8 : Hid (Ev sb W2 W3 T) := by show Ev _ _ _ _; rw [hT]; exact hev.out.below hb3
          have HX3 := hide x3
          have HNP := hide hnp
          have HW3 := hide hW3
          have HYD := hide hyd
          have HYT := hide hyt
          clear hc he9 hp hy hyt hyd x3 hb3 hnp hT hW3 hev
          go_wp2_with fail
          rw [HW3.out]
          clear HW3 c0 c1 c2
          refine (K1.out W3 _ y HE8.out hyl).mono ?_
          rintro e U8 ⟨rfl, hs1, hq1⟩
          have HE9 : Hid (Ev sb W2 U8 (T ++ beBytes y 4)) := ⟨hs1, HE8.out.sole.trans hq1⟩
          have HX4 := hide (Sole.keep hq1 HX3.out HNP.out)
          clear hs1 hq1 HE8 HX3
          have c1 : U8.cell? ⟨wr.heap.size, 1, none⟩ = some (.int .u64 (p.tx : Int)) := HX4.out.cell 1 (by simp)
          go_wp2_with fail
          refine (K2.out U8 _ p.tx HE9.out HYT.out).mono ?_
          rintro e U9 ⟨rfl, hs1, hq1⟩
          have HE10 : Hid (Ev sb W2 U9 ((T ++ beBytes y 4) ++ beBytes p.tx 8)) := ⟨hs1, HE9.out.sole.trans hq1⟩
          have HX5 := hide (Sole.keep hq1 HX4.out HNP.out)
          clear hs1 hq1 HE9 HX4 c1
          have c2 : U9.cell? ⟨wr.heap.size, 2, none⟩ = some (.string p.dat) := HX5.out.cell 2 (by simp)
          have cf : U9.cell? ⟨w.heap.size + 1, 0, none⟩ = some (.func (.func 21) #[] #[.pointer (some ⟨sb, 0, none⟩)]) := HC.out _ _ HE10.out
          obtain ⟨cap3, W4, hcv, hrd, hb4, hs4⟩ := conv_str p.dat U9 HYD.out
          have HCV := hide hcv
          have HRD := hide (rd_of_rdB hrd (by rw [bsize]; exact HYD.out))
          have HE11 := hide (HE10.out.below hb4)
          clear hcv hrd hb4 hs4 HE10
          go_wp2_with fail
          rw [HCV.out]
          clear HCV
          go_wp2_with fail
          refine (K3.out W4 _ _ _ HE11.out (by rw [bsize]; exact HYD.out) HRD.out).mono ?_
          rintro e V1 ⟨rfl, hs1, hq1⟩
          have HE12 : Hid (Ev sb W2 V1 (pr3 ++ pcsB (a.pcs.take (j + 1)))) := by
            show Ev _ _ _ _
            rw [HTB.out]
            exact ⟨hs1, HE11.out.sole.trans hq1⟩
          clear hs1 hq1 HE11 HRD c2 cf HX5
          go_wp2
          go_roundw
          case rel => exact ⟨j + 1, by omega, by go_num, HE12.out⟩
          case measure => simp [intOf]; omega
        · have hltI : ¬ (j : Int) < (m : Int) := by omega
          have hkn : j = m := by omega
          subst hkn
          have HE8 : Hid (Ev sb W2 wr (arB a)) := by
            show Ev _ _ _ _
            rw [HDA.out]; have := hev.out; rwa [HM.out, List.take_length] at this
          clear hev
          go_wp2
          go_end0
          rw [HQ.out]
          exact ⟨rfl, HE8.out.sum, (M.Sole.of_below HBA.out).trans HE8.out.sole⟩
end Go.Proofs.YtpeobpmooledaaaDoor
