import Derived.Test.YtpeobpmooledaaaDoorGN
namespace Go.Proofs.YtpeobpmooledaaaDoor
open Go.RowKit
attribute [local go_sem ↓] Go.wp_at_zero Go.wp_at_succ

theorem chkE_form (A : Nat → Addr) (a : Ar) : ∃ t q, chkE A a = .nilIface ∨ chkE A a = .iface t q := by
  unfold chkE
  split
  · exact ⟨0, .nilIface, .inl rfl⟩
  · exact ⟨_, _, .inr rfl⟩
set_option maxRecDepth 100000 in
set_option maxHeartbeats 32000000 in
theorem lbchecks_any (A : Nat → Addr) (a : Ar) (vi vp : Value) (w : World) (hf : ArFit a) (he : EB A w) (hr : ArR w a vi vp) :
    Calls Tryd.prog 3 #[.agg (arC a vi vp)] w fun e w' => e = .returned (.bool true) ∧ Below w.heap.size w w' := by
  obtain ⟨W1, hW1⟩ : ∃ W1, w.alloc (.cells (arC a vi vp) 29) = W1 := ⟨_, rfl⟩
  have x1 : RowAt W1 w.heap.size (arC a vi vp) 29 := by rw [← hW1]; exact arC_row _ _ _ _
  have hb1 : Below w.heap.size w W1 := by rw [← hW1]; exact below_new w _
  have HX := hide x1
  have HB1 := hide hb1
  have HL := hide (larch_any a vi vp W1 hf.ni hf.np (hr.below hb1))
  have HF := hide hf
  have HE := hide (he.below hb1)
  have HR := hide (hr.below hb1)
  have HW1 : Hid (w.alloc (.cells #[.int .i64 a.pg, .int .i64 a.rt, .int .u64 (a.tx : Int), .int .u64 (a.si : Int), vi, vp, .int .u32 (a.sum : Int)] 29) = W1) := hW1
  obtain ⟨n, hn⟩ : ∃ n, n = a.ids.length := ⟨_, rfl⟩
  obtain ⟨m, hm⟩ : ∃ m, m = a.pcs.length := ⟨_, rfl⟩
  have HN := hide hn
  have HM := hide hm
  have hnb : n ≤ 1048640 := by rw [hn]; exact hf.ni
  have hmb : m ≤ 1048640 := by rw [hm]; exact hf.np
  obtain ⟨Q, hQ⟩ : ∃ Q : Ending → World → Prop, Q = fun e w' => e = .returned (.bool true) ∧ Below w.heap.size w w' := ⟨_, rfl⟩
  rw [← hQ]
  have HQ := hide hQ
  clear hQ hW1 x1 hb1 he hr hf
  unfold arC at HL ⊢
  go_enter Tryd.func3, Tryd.ntmps3
  go_wp2_with fail
  rw [HW1.out]
  refine HL.out.mono ?_
  rintro e U1 ⟨gi, ci, gp, cp, rfl, harch, hbu⟩
  rw [← hn, ← hm]
  obtain ⟨G, hG⟩ : ∃ G, G = U1.heap.size := ⟨_, rfl⟩
  obtain ⟨W2, hW2⟩ : ∃ W2, U1.alloc (.cells (arC a (.slice (some ⟨gi, 0, none⟩) n ci) (.slice (some ⟨gp, 0, none⟩) m cp)) 29) = W2 := ⟨_, rfl⟩
  have xg : RowAt W2 G (arC a (.slice (some ⟨gi, 0, none⟩) n ci) (.slice (some ⟨gp, 0, none⟩) m cp)) 29 := by rw [← hW2, hG]; exact arC_row _ _ _ _
  have hbu2 : Below U1.heap.size U1 W2 := by rw [← hW2]; exact below_new _ _
  have HA := hide (harch.below hbu2)
  have HXG := hide xg
  have HBW := hide (Below.next hbu hbu2)
  have HB2 := hide (Below.next HB1.out HBW.out)
  have HW2 : Hid (U1.alloc (.cells #[.int .i64 a.pg, .int .i64 a.rt, .int .u64 (a.tx : Int), .int .u64 (a.si : Int), .slice (some ⟨gi, 0, none⟩) n ci, .slice (some ⟨gp, 0, none⟩) m cp, .int .u32 (a.sum : Int)] 29) = W2) := hW2
  have hrd : ArR W2 a (.slice (some ⟨gi, 0, none⟩) n ci) (.slice (some ⟨gp, 0, none⟩) m cp) := by
    have h := HA.out.rd
    rw [← hn, ← hm] at h
    exact h
  have HC := hide (bcheck_any A a _ _ W2 HF.out (HE.out.below HBW.out) hrd)
  have HG := hide hG
  unfold arC at HC
  clear harch hW2 xg hbu hbu2 hrd HL hn hm HW1 hG
  go_wp2_with fail
  rw [HW2.out, ← HG.out]
  refine HC.out.mono ?_
  rintro e W3 ⟨rfl, hb3⟩
  have HB3 := hide (Below.next HB2.out hb3)
  have HBW3 := hide (Below.next HBW.out hb3)
  have HA3 := hide (HA.out.below hb3)
  have HXG3 := hide (HXG.out.below hb3)
  have HX3 := hide (HX.out.below HBW3.out)
  have HU := hide (lunt_any a _ gi ci gp cp vi vp W3 HF.out.ni HF.out.np HA3.out (HR.out.below HBW3.out))
  rw [← HN.out, ← HM.out] at HU
  unfold arC at HU
  have p0 := HXG3.out.a0
  have p1 := HXG3.out.a1
  have p2 := HXG3.out.a2
  have p3 := HXG3.out.a3
  have p4 := HXG3.out.a4
  have p5 := HXG3.out.a5
  have p6 := HXG3.out.a6
  have q0 := HX3.out.a0
  have q1 := HX3.out.a1
  have q2 := HX3.out.a2
  have q3 := HX3.out.a3
  have q4 := HX3.out.a4
  have q5 := HX3.out.a5
  have q6 := HX3.out.a6
  obtain ⟨ce, hce⟩ : ∃ ce, ce = chkE A a := ⟨_, rfl⟩
  have HCE := hide hce
  rw [← hce]
  clear hb3 HC HA HXG HX HBW HB2 HW2 hce
  go_wp2_with fail
  refine HU.out.mono ?_
  rintro e W4 ⟨rfl, hb4⟩
  clear p0 p1 p2 p3 p4 p5 p6 q0 q1 q2 q3 q4 q5 q6
  have HB4 := hide (Below.next HB3.out hb4)
  have HBW4 := hide (Below.next HBW3.out hb4)
  have HA4 := hide (HA3.out.below hb4)
  have HXG4 := hide (HXG3.out.below hb4)
  have HX4 := hide (HX3.out.below hb4)
  have q0 := HX4.out.a0
  have q1 := HX4.out.a1
  have q2 := HX4.out.a2
  have q3 := HX4.out.a3
  have q4 := HX4.out.a4
  have q5 := HX4.out.a5
  have q6 := HX4.out.a6
  have HNU := hide (fun W (hb : Below W4.heap.size W4 W) => chk_num A a W (HE.out.below (Below.next HBW4.out hb)).err)
  rw [← HCE.out] at HNU
  have HRC := hide (fun W (hb : Below W4.heap.size W4 W) => rcheck_any a vi vp W HF.out (HR.out.below (Below.next HBW4.out hb)))
  unfold arC at HRC
  have hnn : (rchkN a != rchkN a) = false := by simp
  generalize rchkN a = r at *
  clear hb4 HU HA3 HXG3 HX3 HBW3 HB3
  go_wp2
  refine wp_region_held_drew (S := (fun w' => w'.cell? ⟨w.heap.size, 0, none⟩ = some (.int .i64 a.pg) ∧ w'.cell? ⟨w.heap.size, 1, none⟩ = some (.int .i64 a.rt) ∧ w'.cell? ⟨w.heap.size, 2, none⟩ = some (.int .u64 (a.tx : Int)) ∧ w'.cell? ⟨w.heap.size, 3, none⟩ = some (.int .u64 (a.si : Int)) ∧ w'.cell? ⟨w.heap.size, 4, none⟩ = some (vi) ∧ w'.cell? ⟨w.heap.size, 5, none⟩ = some (vp) ∧ w'.cell? ⟨w.heap.size, 6, none⟩ = some (.int .u32 (a.sum : Int)))) (by kernel_rfl) ⟨q0, q1, q2, q3, q4, q5, q6⟩ (fun hHeld => ?_)
  refine wpAnyH_take (i := 0) (oi := { dst := some 16, op := Op.move (Operand.tmp 5), type := 4, pos := "copselaw23.go:97", after := #[], guard := none }) (v := ?_) rfl (by kernel_rfl) (by kernel_rfl) (by kernel_rfl) (fun _ _ _ h => h) (Or.inl ⟨by rfl, ?_⟩) (by assumption) ?_
  rotate_left
  · (intro w' hSw; (try dsimp only at hSw); go_simp; try with_reducible rfl)
  simp only [Act.put, List.setIfInBounds_toArray, List.set_cons_zero, List.set_cons_succ]
  refine wpAnyH_take (i := 1) (oi := { dst := some 17, op := Op.unOp UnOp.not 4 (Operand.tmp 16), type := 4, pos := "copselaw23.go:97", after := #[{ on := 0, ground := Ground.data }], guard := none }) (v := ?_) rfl (by kernel_rfl) (by kernel_rfl) (by kernel_rfl) (fun _ _ _ h => h) (Or.inl ⟨by rfl, ?_⟩) (by assumption) ?_
  rotate_left
  · (intro w' hSw; (try dsimp only at hSw); go_simp; try with_reducible rfl)
  simp only [Act.put, List.setIfInBounds_toArray, List.set_cons_zero, List.set_cons_succ]
  refine wpAnyH_take (i := 2) (oi := { dst := some 18, op := Op.move (Operand.tmp 17), type := 4, pos := "copselaw23.go:97", after := #[{ on := 1, ground := Ground.data }], guard := none }) (v := ?_) rfl (by kernel_rfl) (by kernel_rfl) (by kernel_rfl) (fun _ _ _ h => h) (Or.inl ⟨by rfl, ?_⟩) (by assumption) ?_
  rotate_left
  · (intro w' hSw; (try dsimp only at hSw); go_simp; try with_reducible rfl)
  simp only [Act.put, List.setIfInBounds_toArray, List.set_cons_zero, List.set_cons_succ]
  refine wpAnyH_take (i := 3) (oi := { dst := some 19, op := Op.move (Operand.tmp 4), type := 32, pos := "copselaw23.go:97", after := #[{ on := 2, ground := Ground.guard }], guard := some (2, false) }) (v := ?_) rfl (by kernel_rfl) (by kernel_rfl) (by kernel_rfl) (fun _ _ _ h => h) (Or.inl ⟨by rfl, ?_⟩) (by assumption) ?_
  rotate_left
  · (intro w' hSw; (try dsimp only at hSw); go_simp; try with_reducible rfl)
  simp only [Act.put, List.setIfInBounds_toArray, List.set_cons_zero, List.set_cons_succ]
  refine wpAnyH_take (i := 5) (oi := { dst := some 21, op := Op.load 29 (Operand.tmp 1), type := 29, pos := "copselaw23.go:97", after := #[{ on := 2, ground := Ground.guard }], guard := some (2, false) }) (v := ?_) rfl (by kernel_rfl) (by kernel_rfl) (by kernel_rfl) (fun _ _ _ h => h) (Or.inl ⟨by rfl, ?_⟩) (by assumption) ?_
  rotate_left
  · (intro w' hSw; (try dsimp only at hSw); go_simp; try with_reducible rfl)
  simp only [Act.put, List.setIfInBounds_toArray, List.set_cons_zero, List.set_cons_succ]
  refine wpAnyH_ready (rs := [4]) (by kernel_rfl) (by simp) ?_
  refine AllReadyH.cons (o := { dst := some 20, op := Op.call { callee := Callee.value (Operand.func 7), args := #[Operand.tmp 19], argTypes := #[32] }, type := 3, pos := "copselaw23.go:97", after := #[{ on := 3, ground := Ground.data }, { on := 2, ground := Ground.chain }, { on := 2, ground := Ground.guard }], guard := some (2, false) }) rfl (fun K hK => ?_) AllReadyH.nil
  clear hHeld
  go_simp
  refine (HNU.out _ (by first | exact Below.refl _ _ | exact ⟨rfl, rfl, rfl, Nat.le_refl _, fun _ _ => rfl⟩)).mono ?_
  rintro e w1 ⟨rfl, rfl⟩
  refine hK.out _ _ ⟨q0, q1, q2, q3, q4, q5, q6⟩ (fun hHeld => ?_)
  clear hK K
  refine wpAnyH_ready (rs := [6]) (by kernel_rfl) (by simp) ?_
  refine AllReadyH.cons (o := { dst := some 22, op := Op.call { callee := Callee.value (Operand.func 8), args := #[Operand.tmp 21], argTypes := #[29] }, type := 3, pos := "copselaw23.go:97", after := #[{ on := 5, ground := Ground.data }, { on := 4, ground := Ground.chain }, { on := 2, ground := Ground.guard }], guard := some (2, false) }) rfl (fun K hK => ?_) AllReadyH.nil
  clear hHeld
  go_simp
  refine (HRC.out _ (by first | exact Below.refl _ _ | exact ⟨rfl, rfl, rfl, Nat.le_refl _, fun _ _ => rfl⟩)).mono ?_
  rintro e W5 ⟨rfl, hd⟩
  have HBR : Hid (Below W4.heap.size W4 W5) := ⟨hd.os, hd.tape, hd.output, hd.size, hd.block⟩
  have hx := HX4.out.below HBR.out
  clear hd
  refine hK.out _ _ ⟨hx.a0, hx.a1, hx.a2, hx.a3, hx.a4, hx.a5, hx.a6⟩ (fun hHeld => ?_)
  clear hK K
  refine wpAnyH_take (i := 7) (oi := { dst := some 23, op := Op.binOp BinOp.neq 3 (Operand.tmp 20) (Operand.tmp 22) 3, type := 4, pos := "copselaw23.go:97", after := #[{ on := 4, ground := Ground.data }, { on := 6, ground := Ground.data }, { on := 2, ground := Ground.guard }], guard := some (2, false) }) (v := ?_) rfl (by kernel_rfl) (by kernel_rfl) (by kernel_rfl) (fun _ _ _ h => h) (Or.inl ⟨by rfl, ?_⟩) (by assumption) ?_
  rotate_left
  · (intro w' hSw; (try dsimp only at hSw); go_simp; try with_reducible rfl)
  simp only [Act.put, List.setIfInBounds_toArray, List.set_cons_zero, List.set_cons_succ]
  refine wpAnyH_take (i := 8) (oi := { dst := some 24, op := Op.pick (Operand.tmp 18) (Operand.const (Value.bool true)) (Operand.tmp 23), type := 4, pos := "copselaw23.go:97", after := #[{ on := 2, ground := Ground.data }, { on := 7, ground := Ground.data }], guard := none }) (v := ?_) rfl (by kernel_rfl) (by kernel_rfl) (by kernel_rfl) (fun _ _ _ h => h) (Or.inl ⟨by rfl, ?_⟩) (by assumption) ?_
  rotate_left
  · (intro w' hSw; (try dsimp only at hSw); go_simp; try with_reducible rfl)
  simp only [Act.put, List.setIfInBounds_toArray, List.set_cons_zero, List.set_cons_succ]
  refine wpAnyH_done (by kernel_rfl) ?_ _
  clear hHeld
  clear hx
  clear q0 q1 q2 q3 q4 q5 q6
  have HB5 := hide (Below.next HB4.out HBR.out)
  have HBW5 := hide (Below.next HBW4.out HBR.out)
  have HMD : Hid (Md W5 W1.heap.size a gi ci gp cp G 0 0) := Md.of (HA4.out.below HBR.out) (by rw [← HN.out, ← HM.out]; exact HXG4.out.below HBR.out)
  have HLT : Hid (w.heap.size ≤ W1.heap.size) := HB1.out.size
  clear HA4 HXG4 HX4 HNU HRC hnn
  go_wp2
  go_loopw [6] (fun i wr => ∃ k : Nat, k ≤ n ∧ i = .int .i64 k ∧ Hid (Md wr W1.heap.size a gi ci gp cp G k 0) ∧ Hid (Below W1.heap.size W1 wr)) (fun i _ => n - (intOf i).toNat)
  case atStart => exact ⟨0, Nat.zero_le _, rfl, HMD, HBW5⟩
  case round =>
    obtain ⟨k, hk, rfl, hmd, hbw⟩ := hrel
    have g4 : wr.cell? ⟨G, 4, none⟩ = some (.slice (some ⟨gi, 0, none⟩) n ci) := by have := hmd.out.row.a4; rwa [← HN.out] at this
    by_cases hlt : k < n
    · have hkl : k < a.ids.length := by have := HN.out; omega
      have hltI : (k : Int) < (n : Int) := by omega
      have j0 : (0 : Int) ≤ (k : Int) := by omega
      have c0 := hmd.out.get1 hkl
      have f0 := hmd.out.own1.frozenAt k
      have hms := hmd.out.set1 hkl
      obtain ⟨y, hy⟩ : ∃ y, y = a.ids[k] := ⟨_, rfl⟩
      rw [← hy] at c0 hms
      have HMS : Hid (Md (wr.setCell ⟨gi, k, none⟩ (.int .i64 (wrap64 (y + 1)))).drew W1.heap.size a gi ci gp cp G (k + 1) 0) := ⟨hms.row, hms.own1, hms.own2, hms.n1, hms.n2⟩
      have HBS : Hid (Below W1.heap.size W1 (wr.setCell ⟨gi, k, none⟩ (.int .i64 (wrap64 (y + 1)))).drew) := below_drewN' (hbw.out.setCell (p := ⟨gi, k, none⟩) hmd.out.base.1 _) 1
      have g4n : ∀ q, (wr.drewN q).cell? ⟨G, 4, none⟩ = some (.slice (some ⟨gi, 0, none⟩) n ci) := fun _ => g4
      have c0n : ∀ q, (wr.drewN q).cell? ⟨gi, k, none⟩ = some (.int .i64 y) := fun _ => c0
      have f0n : ∀ q, (wr.drewN q).frozen? ⟨gi, k, none⟩ = false := fun _ => f0
      clear hms hy hmd hbw
      go_wp2
      go_region
      go_wp2
      go_roundw
      case rel => exact ⟨k + 1, by omega, by go_num, HMS.out, HBS.out⟩
      case measure => simp [intOf]; omega
    · have hltI : ¬ (k : Int) < (n : Int) := by omega
      have hkn : n = k := by omega
      subst hkn
      have hmd0 := hmd.out
      clear HMD HB5 HBW5 HBR
      go_wp2
      clear g4
      go_loopw [7] (fun i wv => ∃ j : Nat, j ≤ m ∧ i = .int .i64 j ∧ Hid (Md wv W1.heap.size a gi ci gp cp G n j) ∧ Hid (Below W1.heap.size W1 wv)) (fun i _ => m - (intOf i).toNat)
      case atStart => exact ⟨0, Nat.zero_le _, rfl, hmd0, hbw⟩
      case round =>
        clear hmd hbw hmd0
        obtain ⟨j, hj, rfl, hmd, hbw⟩ := hrel
        have g5 := hmd.out.row.a5
        rw [← HM.out] at g5
        by_cases hltm : j < m
        · have hjl : j < a.pcs.length := by have := HM.out; omega
          have hltI : (j : Int) < (m : Int) := by omega
          have j0 : (0 : Int) ≤ (j : Int) := by omega
          have c0 := hmd.out.get2 hjl
          have f0 := hmd.out.own2.frozenAt (j * 3)
          have hms := hmd.out.set2 hjl
          obtain ⟨y, hy⟩ : ∃ y, y = a.pcs[j].id := ⟨_, rfl⟩
          rw [← hy] at c0 hms
          have HMS := hide hms
          have HBS := hide (hbw.out.setCell (p := ⟨gp, j * 3, none⟩) hmd.out.base.2 (.int .i64 (incI y)))
          have g5n : ∀ q, (World.drewN _ q).cell? ⟨G, 5, none⟩ = some (.slice (some ⟨gp, 0, none⟩) m cp) := fun _ => g5
          have c0n : ∀ q, (World.drewN _ q).cell? ⟨gp, j * 3, none⟩ = some (.int .i64 y) := fun _ => c0
          have f0n : ∀ q, (World.drewN _ q).frozen? ⟨gp, j * 3, none⟩ = false := fun _ => f0
          clear hms hy hmd hbw
          go_wp2
          go_region
          go_wp2
          go_roundw
          case rel => exact ⟨j + 1, by omega, by go_num, ⟨HMS.out.row, HMS.out.own1, HMS.out.own2, HMS.out.n1, HMS.out.n2⟩, below_drewN' HBS.out 1⟩
          case measure => simp [intOf]; omega
        · have hltI : ¬ (j : Int) < (m : Int) := by omega
          have hjm : m = j := by omega
          subst hjm
          have hmd1 := hmd.out
          rw [HN.out, HM.out] at hmd1
          have hrd := hmd1.rd
          rw [← HN.out, ← HM.out] at hrd
          have hxr := hmd.out.row
          rw [← HN.out, ← HM.out] at hxr
          have HXR := hide hxr
          clear hxr
          have HRD := hide hrd
          have HBB := hide (Below.next HB1.out hbw.out)
          have HEE := hide (HE.out.below hbw.out)
          have HC := hide (bcheck_any A (incA a) _ _ _ (incA_fit HF.out) HEE.out hrd)
          have hac : arC (incA a) (.slice (some ⟨gi, 0, none⟩) n ci) (.slice (some ⟨gp, 0, none⟩) m cp) = arC a (.slice (some ⟨gi, 0, none⟩) n ci) (.slice (some ⟨gp, 0, none⟩) m cp) := rfl
          rw [hac] at HC
          unfold arC at HC
          have q0 := HXR.out.a0
          have q1 := HXR.out.a1
          have q2 := HXR.out.a2
          have q3 := HXR.out.a3
          have q4 := HXR.out.a4
          have q6 := HXR.out.a6
          obtain ⟨cf, hcf⟩ : ∃ cf, cf = chkE A (incA a) := ⟨_, rfl⟩
          have HCF := hide hcf
          clear hmd hbw hrd hac hmd1
          go_wp2_with fail
          clear q0 q1 q2 q3 q4 q6 g5
          refine HC.out.mono ?_
          rintro e V1 ⟨rfl, hb1⟩
          rw [← hcf]
          have HXV := hide (HXR.out.below hb1)
          have HBV1 := hide (Below.next HBB.out hb1)
          have HRV := hide (HRD.out.below hb1)
          have HNU := hide (fun W (hb : Below V1.heap.size V1 W) => chk_num A (incA a) W ((HEE.out.below hb1).below hb).err)
          rw [← hcf] at HNU
          have HLA := hide (fun W (hb : Below V1.heap.size V1 W) => larch_any (incA a) _ _ W (incA_fit HF.out).ni (incA_fit HF.out).np (HRV.out.below hb))
          have HRC := hide (fun W v1 v2 (h : ArR W (incA a) v1 v2) => rcheck_any (incA a) v1 v2 W (incA_fit HF.out) h)
          have hq1 : ∀ v1 v2, arC (incA a) v1 v2 = #[.int .i64 a.pg, .int .i64 a.rt, .int .u64 (a.tx : Int), .int .u64 (a.si : Int), v1, v2, .int .u32 (a.sum : Int)] := fun _ _ => rfl
          simp only [hq1] at HLA HRC
          have hnn : (rchkN (incA a) == rchkN (incA a)) = true := by simp
          generalize rchkN (incA a) = r2 at *
          have q0 := HXV.out.a0
          have q1 := HXV.out.a1
          have q2 := HXV.out.a2
          have q3 := HXV.out.a3
          have q4 := HXV.out.a4
          have q5 := HXV.out.a5
          have q6 := HXV.out.a6
          clear hb1 HC HXR hcf hq1
          go_wp2
          refine wp_region_held_drew (S := (fun w' => w'.cell? ⟨G, 0, none⟩ = some (.int .i64 a.pg) ∧ w'.cell? ⟨G, 1, none⟩ = some (.int .i64 a.rt) ∧ w'.cell? ⟨G, 2, none⟩ = some (.int .u64 (a.tx : Int)) ∧ w'.cell? ⟨G, 3, none⟩ = some (.int .u64 (a.si : Int)) ∧ w'.cell? ⟨G, 4, none⟩ = some (.slice (some ⟨gi, 0, none⟩) n ci) ∧ w'.cell? ⟨G, 5, none⟩ = some (.slice (some ⟨gp, 0, none⟩) m cp) ∧ w'.cell? ⟨G, 6, none⟩ = some (.int .u32 (a.sum : Int)))) (by kernel_rfl) ⟨q0, q1, q2, q3, q4, q5, q6⟩ (fun hHeld => ?_)
          refine wpAnyH_take (i := 0) (oi := { dst := some 63, op := Op.move (Operand.tmp 8), type := 32, pos := "copselaw23.go:107", after := #[], guard := none }) (v := ?_) rfl (by kernel_rfl) (by kernel_rfl) (by kernel_rfl) (fun _ _ _ h => h) (Or.inl ⟨by rfl, ?_⟩) (by assumption) ?_
          rotate_left
          · (intro w' hSw; (try dsimp only at hSw); go_simp; try with_reducible rfl)
          simp only [Act.put, List.setIfInBounds_toArray, List.set_cons_zero, List.set_cons_succ]
          refine wpAnyH_take (i := 2) (oi := { dst := some 65, op := Op.load 29 (Operand.tmp 3), type := 29, pos := "copselaw23.go:107", after := #[], guard := none }) (v := ?_) rfl (by kernel_rfl) (by kernel_rfl) (by kernel_rfl) (fun _ _ _ h => h) (Or.inl ⟨by rfl, ?_⟩) (by assumption) ?_
          rotate_left
          · (intro w' hSw; (try dsimp only at hSw); go_simp; try with_reducible rfl)
          simp only [Act.put, List.setIfInBounds_toArray, List.set_cons_zero, List.set_cons_succ]
          refine wpAnyH_ready (rs := [1]) (by kernel_rfl) (by simp) ?_
          refine AllReadyH.cons (o := { dst := some 64, op := Op.call { callee := Callee.value (Operand.func 7), args := #[Operand.tmp 63], argTypes := #[32] }, type := 3, pos := "copselaw23.go:107", after := #[{ on := 0, ground := Ground.data }], guard := none }) rfl (fun K hK => ?_) AllReadyH.nil
          clear hHeld
          go_simp
          refine (HNU.out _ (by first | exact Below.refl _ _ | exact ⟨rfl, rfl, rfl, Nat.le_refl _, fun _ _ => rfl⟩)).mono ?_
          rintro e w1 ⟨rfl, rfl⟩
          refine hK.out _ _ ⟨q0, q1, q2, q3, q4, q5, q6⟩ (fun hHeld => ?_)
          clear hK K
          refine wpAnyH_ready (rs := [3]) (by kernel_rfl) (by simp) ?_
          refine AllReadyH.cons (o := { dst := some 66, op := Op.call { callee := Callee.value (Operand.func 4), args := #[Operand.tmp 65], argTypes := #[29] }, type := 29, pos := "copselaw23.go:107", after := #[{ on := 2, ground := Ground.data }, { on := 1, ground := Ground.chain }], guard := none }) rfl (fun K hK => ?_) AllReadyH.nil
          clear hHeld
          go_simp
          refine (HLA.out _ (by first | exact Below.refl _ _ | exact ⟨rfl, rfl, rfl, Nat.le_refl _, fun _ _ => rfl⟩)).mono ?_
          rintro e V2 ⟨ki, di, kp, dp, rfl, hq, hd⟩
          have HBV : Hid (Below V1.heap.size V1 V2) := ⟨hd.os, hd.tape, hd.output, hd.size, hd.block⟩
          have HQA := hide hq.rd
          have hx := HXV.out.below HBV.out
          clear hd hq
          refine hK.out _ _ ⟨hx.a0, hx.a1, hx.a2, hx.a3, hx.a4, hx.a5, hx.a6⟩ (fun hHeld => ?_)
          clear hK K
          refine wpAnyH_ready (rs := [4]) (by kernel_rfl) (by simp) ?_
          refine AllReadyH.cons (o := { dst := some 67, op := Op.call { callee := Callee.value (Operand.func 8), args := #[Operand.tmp 66], argTypes := #[29] }, type := 3, pos := "copselaw23.go:107", after := #[{ on := 3, ground := Ground.data }, { on := 3, ground := Ground.chain }], guard := none }) rfl (fun K hK => ?_) AllReadyH.nil
          clear hHeld
          go_simp
          refine (HRC.out _ _ _ (by first | exact HQA.out | exact ArR.below HQA.out ⟨rfl, rfl, rfl, Nat.le_refl _, fun _ _ => rfl⟩)).mono ?_
          rintro e V3 ⟨rfl, hd⟩
          have HBV3 : Hid (Below V1.heap.size V1 V3) := Below.next HBV.out ⟨hd.os, hd.tape, hd.output, hd.size, hd.block⟩
          have hx := HXV.out.below HBV3.out
          clear hd
          refine hK.out _ _ ⟨hx.a0, hx.a1, hx.a2, hx.a3, hx.a4, hx.a5, hx.a6⟩ (fun hHeld => ?_)
          clear hK K
          refine wpAnyH_take (i := 5) (oi := { dst := some 68, op := Op.binOp BinOp.eql 3 (Operand.tmp 64) (Operand.tmp 67) 3, type := 4, pos := "copselaw23.go:107", after := #[{ on := 1, ground := Ground.data }, { on := 4, ground := Ground.data }], guard := none }) (v := ?_) rfl (by kernel_rfl) (by kernel_rfl) (by kernel_rfl) (fun _ _ _ h => h) (Or.inl ⟨by rfl, ?_⟩) (by assumption) ?_
          rotate_left
          · (intro w' hSw; (try dsimp only at hSw); go_simp; try with_reducible rfl)
          simp only [Act.put, List.setIfInBounds_toArray, List.set_cons_zero, List.set_cons_succ]
          refine wpAnyH_take (i := 6) (oi := { dst := some 2, op := Op.assign (Operand.tmp 68), type := 4, pos := "copselaw23.go:107", after := #[{ on := 5, ground := Ground.data }, { on := 4, ground := Ground.chain }, { on := 0, ground := Ground.phase }, { on := 1, ground := Ground.phase }, { on := 2, ground := Ground.phase }, { on := 3, ground := Ground.phase }, { on := 4, ground := Ground.phase }, { on := 5, ground := Ground.phase }], guard := none }) (v := ?_) rfl (by kernel_rfl) (by kernel_rfl) (by kernel_rfl) (fun _ _ _ h => h) (Or.inl ⟨by rfl, ?_⟩) (by assumption) ?_
          rotate_left
          · (intro w' hSw; (try dsimp only at hSw); go_simp; try with_reducible rfl)
          simp only [Act.put, List.setIfInBounds_toArray, List.set_cons_zero, List.set_cons_succ]
          refine wpAnyH_done (by kernel_rfl) ?_ _
          clear hHeld
          go_wp2
          rw [HQ.out]
          exact ⟨rfl, Below.next HBV1.out HBV3.out⟩
end Go.Proofs.YtpeobpmooledaaaDoor
