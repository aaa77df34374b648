import Derived.Test.YthnidlhcpelomaaDoorDRc0
namespace Go.Proofs.YthnidlhcpelomaaDoor
open Go.RowKit
attribute [local go_sem ↓] Go.wp_at_zero Go.wp_at_succ

theorem ite_of9 {c : Prop} [Decidable c] {x y : Prop} (h : c) (hx : x) : if c then x else y := by rw [if_pos h]; exact hx
theorem fm_app9 {γ δ : Type} (f : γ → Option δ) (l m : KL γ) : fm f (l ++ m) = fm f l ++ fm f m := by unfold fm; rw [List.filterMap_append]
theorem wp_append_run {o : Oper} {a : Act} {w : World} {Q : Exit → Act → World → Prop} {K : Act → World → Prop} (t : TypeId) (d x : Operand)
    (ho : o.op = .call { callee := .builtin .append, args := #[d, x], argTypes := #[t, t] }) (hty : o.type = t) (vd vx : Value) (hd : a.eval d = vd) (hx : a.eval x = vx) (v : Value) (w' : World)
    (hrun : (Builtin.append_ #[t, t] t #[vd, vx]).run Tryd.prog w = .ok v w') (h : K (a.put o.dst v) w') : Oper.wp Tryd.prog o a w K Q := by
  unfold Oper.wp
  simp [execOp, ho, resolve, invoke, builtin, hd, hx, hty, hrun, Result.andThen]
  exact h
set_option maxRecDepth 100000 in
set_option maxHeartbeats 64000000 in
theorem rcompose_any (va vb : Value) (a b : List Ch) (w : World) (hA : ChR w va a) (hB : ChR w vb b) (hn : (a.length + b.length + 1) * 56 ≤ 140737488355328) :
    Calls Tryd.prog 19 #[va, vb] w fun e w' => Below w.heap.size w w' ∧ (((riseB a && riseB b) = false ∧ e = .returned (.tuple #[.slice none 0 0, .int .i64 12])) ∨ ((riseB a && riseB b) = true ∧ composeD a b = none ∧ e = .returned (.tuple #[.slice none 0 0, .int .i64 6])) ∨ ((riseB a && riseB b) = true ∧ ∃ v l, composeD a b = some l ∧ e = .returned (.tuple #[v, .int .i64 0]) ∧ ChO w' w.heap.size v l)) := by
  have HRA : Hid (∀ W, Below w.heap.size w W → Calls Tryd.prog 40 #[va] W fun e w' => e = .returned (.bool (riseB a)) ∧ Below W.heap.size W w') := fun W hb => rrise_any va a W (by omega) (hA.below hb)
  have HRB : Hid (∀ W, Below w.heap.size w W → Calls Tryd.prog 40 #[vb] W fun e w' => e = .returned (.bool (riseB b)) ∧ Below W.heap.size W w') := fun W hb => rrise_any vb b W (by omega) (hB.below hb)
  obtain ⟨a1, c1, rfl⟩ : ∃ a1 c1, va = .slice a1 a.length c1 := by obtain ⟨x, y, h, _⟩ := hA; exact ⟨x, y, h⟩
  obtain ⟨a2, c2, rfl⟩ : ∃ a2 c2, vb = .slice a2 b.length c2 := by obtain ⟨x, y, h, _⟩ := hB; exact ⟨x, y, h⟩
  obtain ⟨n1, hn1⟩ : ∃ n, n = a.length := ⟨_, rfl⟩
  obtain ⟨n2, hn2⟩ : ∃ n, n = b.length := ⟨_, rfl⟩
  rw [← hn1] at hA HRA ⊢
  rw [← hn2] at hB HRB ⊢
  have hm1 : n1 ≤ 140737488355328 := by omega
  have hm2 : n2 ≤ 140737488355328 := by omega
  have HN := hide (And.intro hn1 hn2)
  have HS := hide hn
  have HPA := hide hA
  have HPB := hide hB
  obtain ⟨ra, hra⟩ : ∃ r, r = riseB a := ⟨_, rfl⟩
  obtain ⟨rb, hrb⟩ : ∃ r, r = riseB b := ⟨_, rfl⟩
  rw [← hra] at HRA ⊢
  rw [← hrb] at HRB ⊢
  obtain ⟨Q, hQ⟩ : ∃ Q : Ending → World → Prop, Q = fun e w' => Below w.heap.size w w' ∧ (((ra && rb) = false ∧ e = .returned (.tuple #[.slice none 0 0, .int .i64 12])) ∨ ((ra && rb) = true ∧ composeD a b = none ∧ e = .returned (.tuple #[.slice none 0 0, .int .i64 6])) ∨ ((ra && rb) = true ∧ ∃ v l, composeD a b = some l ∧ e = .returned (.tuple #[v, .int .i64 0]) ∧ ChO w' w.heap.size v l)) := ⟨_, rfl⟩
  rw [← hQ]
  have HQ := hide hQ
  have hsum : IntKind.i64.wrap ((n1 : Int) + (n2 : Int)) = ((n1 + n2 : Nat) : Int) := by rw [IntKind.wrap_i64]; omega
  clear hn1 hn2 hn hA hB hra hrb hQ
  go_enter Tryd.func19, Tryd.ntmps19
  go_wp2_with fail
  refine (HRA.out w (Below.refl _ _)).mono ?_
  rintro e W1 ⟨rfl, hb1⟩
  have HB1 := hide hb1
  clear hb1
  go_wp2_with fail
  refine (HRB.out W1 HB1.out).mono ?_
  rintro e W2 ⟨rfl, hb2⟩
  have HB2 := hide (Below.next HB1.out hb2)
  clear hb2
  cases ra with
  | false =>
    go_wp2
    rw [HQ.out]
    exact ⟨HB2.out, .inl ⟨rfl, rfl⟩⟩
  | true =>
    cases rb with
    | false =>
      go_wp2
      rw [HQ.out]
      exact ⟨HB2.out, .inl ⟨rfl, rfl⟩⟩
    | true =>
      go_wp2
      go_loopw [8, 9, 10, 11] (fun u v x z wr => ∃ (i k n no : Nat) (out : List Ch) (a' : Option Addr) (c' : Nat), i ≤ n1 ∧ k ≤ n2 ∧ n ≤ i + k ∧ no = out.length ∧ u = .slice a' no c' ∧ v = .int .i64 (i : Int) ∧ x = .int .i64 (k : Int) ∧ z = .int .i64 (n : Int) ∧ ChO wr w.heap.size u out ∧ out ++ jL (side (a.drop i) (b.drop k)) = jL (side a b) ∧ (side a b).all (fun e => okJ e.2) = (side (a.drop i) (b.drop k)).all (fun e => okJ e.2) ∧ Below w.heap.size w wr) (fun _ _ _ z _ => n1 + n2 + 1 - (intOf z).toNat)
      case atStart => exact ⟨0, 0, 0, 0, [], none, 0, Nat.zero_le _, Nat.zero_le _, Nat.zero_le _, rfl, rfl, rfl, rfl, rfl, ChO.nil _ _, rfl, rfl, HB2.out⟩
      case round =>
        obtain ⟨i, k, n, no, out, a', c', hi, hk, hnn, hno, rfl, rfl, rfl, rfl, hown, heq, hall, hb⟩ := hrel
        have HO := hide hown
        have HEQ := hide heq
        have HBR := hide hb
        have HNO := hide hno
        have HIK := hide (And.intro hi (And.intro hk hnn))
        have HAR := hide (HPA.out.below hb)
        have HBRR := hide (HPB.out.below hb)
        have HALL := hide hall
        clear hown heq hb hno hall
        have hnl0 : i < n1 ∨ k < n2 → n < n1 + n2 := fun h => by omega
        by_cases hkl : k < n2
        · by_cases hil : i < n1
          · have hsk := hkl
            have hnl : n < n1 + n2 := hnl0 (by omega)
            have hni : (n : Int) < ((n1 + n2 : Nat) : Int) := by omega
            have i0 : (0 : Int) ≤ (i : Int) := by omega
            have k0 : (0 : Int) ≤ (k : Int) := by omega
            have ii : (i : Int) < (n1 : Int) := by omega
            have ii1 : ¬ n1 ≤ i := by omega
            have ii2 : decide (n1 ≤ i) = false := decide_eq_false ii1
            have ii3 : decide (i < n1) = true := decide_eq_true (by omega)
            have kk : (k : Int) < (n2 : Int) := by omega
            have kk1 : ¬ n2 ≤ k := by omega
            have kk2 : decide (n2 ≤ k) = false := decide_eq_false kk1
            have kk3 : decide (k < n2) = true := decide_eq_true (by omega)
            have HAL : Hid (i < a.length) := by have := HN.out; show _ < _; omega
            obtain ⟨ad1, cap1, he1, hle1, hz1, hc1⟩ := HAR.out
            obtain ⟨rfl, -, rfl⟩ : a1 = ad1 ∧ n1 = a.length ∧ c1 = cap1 := by simpa using he1
            obtain ⟨g1, o1, rfl, hd1⟩ := hc1 i HAL.out
            obtain ⟨ka, xa, hka⟩ : ∃ k x, (a[i]'HAL.out) = (k, x) := ⟨_, _, rfl⟩
            rw [hka] at hd1
            obtain ⟨p0, p1, p2, p3, p4⟩ := hd1
            simp only at p0 p1 p2 p3 p4
            have HKA := hide hka
            clear hc1 hz1 he1 hle1 hka
            have HBL : Hid (k < b.length) := by have := HN.out; show _ < _; omega
            obtain ⟨ad2, cap2, he2, hle2, hz2, hc2⟩ := HBRR.out
            obtain ⟨rfl, -, rfl⟩ : a2 = ad2 ∧ n2 = b.length ∧ c2 = cap2 := by simpa using he2
            obtain ⟨g2, o2, rfl, hd2⟩ := hc2 k HBL.out
            obtain ⟨kb, xb, hkb⟩ : ∃ z x, (b[k]'HBL.out) = (z, x) := ⟨_, _, rfl⟩
            rw [hkb] at hd2
            obtain ⟨r0, r1, r2, r3, r4⟩ := hd2
            simp only at r0 r1 r2 r3 r4
            have HKB := hide hkb
            clear hc2 hz2 he2 hle2 hkb
            have HIL := hide (And.intro hil hkl)
            clear hsk hil hkl hnl0
            have HG12 : Hid (g1 < w.heap.size ∧ g2 < w.heap.size) := by
              obtain ⟨ad3, cap3, he3, _, _, hc3⟩ := HPA.out
              obtain ⟨ad4, cap4, he4, _, _, hc4⟩ := HPB.out
              obtain ⟨g3, o3, hg3, hd3⟩ := hc3 i HAL.out
              obtain ⟨g4, o4, hg4, hd4⟩ := hc4 k HBL.out
              cases he3
              cases he4
              cases hg3
              cases hg4
              exact ⟨hd3.lt, hd4.lt⟩
            go_upto_region 11 with fail
            cases hlt : Op.bytesLess ka.toList kb.toList with
            | true =>
              have HLT := hide hlt
              go_quiet (fail)
              go_upto_region 12 with fail
              have hbd : Below wr.heap.size wr (wr.drewN nq) := below_drewN2 (Below.refl _ wr) nq
              replace HBR := hide (Below.next HBR.out hbd)
              replace HO := hide (HO.out.below hbd)
              replace p0 := cell_bel hbd p0
              replace p1 := cell_bel hbd p1
              replace p2 := cell_bel hbd p2
              replace p3 := cell_bel hbd p3
              replace p4 := cell_bel hbd p4
              replace r0 := cell_bel hbd r0
              replace r1 := cell_bel hbd r1
              replace r2 := cell_bel hbd r2
              replace r3 := cell_bel hbd r3
              replace r4 := cell_bel hbd r4
              generalize wr.drewN nq = W5 at *
              clear hbd
              have HEQ2 : Hid ((out ++ [(ka, xa)]) ++ jL (side (a.drop (i + 1)) (b.drop k)) = jL (side a b)) := by have h0 := HEQ.out; rw [side_old a b i k HAL.out (fun hk => by rw [HKA.out, HKB.out]; exact HLT.out), HKA.out, jL, List.map_cons, ← List.singleton_append, ← List.append_assoc] at h0; exact h0
              have HAL2 : Hid ((side a b).all (fun e => okJ e.2) = (side (a.drop (i + 1)) (b.drop k)).all (fun e => okJ e.2)) := by have h0 := HALL.out; rw [side_old a b i k HAL.out (fun hk => by rw [HKA.out, HKB.out]; exact HLT.out), HKA.out, List.all_cons] at h0; rw [h0]; exact rfl
              have HLEN := hide (len_jL HEQ2.out HS.out rfl)
              obtain ⟨a3, c3, W6, hrun, hown1, hgr⟩ := push_chs w.heap.size _ out (ka, xa) 44 W5 no HNO.out.symm HO.out (by have := HLEN.out; rw [← HNO.out] at this; exact this) HBR.out.size
              simp only [chC] at hrun hgr
              have HO1 := hide hown1
              have HG := hide hgr
              clear hown1 hgr
              go_wp2_with (first | (at_builtin; refine wpList_append_run 23 rfl (.tmp 69) (.tmp 74) rfl rfl _ _ rfl rfl _ _ hrun ?_))
              clear hrun
              have HBF : Hid (Below w.heap.size w W6) := bel_but HBR.out (((But.refl w.heap.size (fun _ => true) W5).alloc _).grown HG.out (fun b o hb ho => ⟨(HO.out.blk b hb).1, rfl⟩)) (Nat.le_refl _)
              go_wp2
              go_roundw
              case rel => exact ⟨(i + 1), k, n + 1, no + 1, _, a3, c3, by have := HIK.out; omega, by have := HIK.out; omega, by have := HIK.out; omega, by rw [List.length_append, ← HNO.out]; rfl, rfl, by go_num, by go_num, by go_num, HO1.out, HEQ2.out, HAL2.out, HBF.out⟩
              case measure => have := HIK.out; simp [intOf]; omega
            | false =>
              have HLT := hide hlt
              go_quiet (fail)
              go_upto_region 14 with fail
              have hbd : Below wr.heap.size wr (wr.drewN nq) := below_drewN2 (Below.refl _ wr) nq
              replace HBR := hide (Below.next HBR.out hbd)
              replace HO := hide (HO.out.below hbd)
              replace p0 := cell_bel hbd p0
              replace p1 := cell_bel hbd p1
              replace p2 := cell_bel hbd p2
              replace p3 := cell_bel hbd p3
              replace p4 := cell_bel hbd p4
              replace r0 := cell_bel hbd r0
              replace r1 := cell_bel hbd r1
              replace r2 := cell_bel hbd r2
              replace r3 := cell_bel hbd r3
              replace r4 := cell_bel hbd r4
              generalize wr.drewN nq = W5 at *
              clear hbd
              cases hgt : Op.bytesLess kb.toList ka.toList with
              | true =>
                have HGT := hide hgt
                go_quiet (fail)
                go_upto_region 15 with fail
                have hbd : Below W5.heap.size W5 (W5.drewN nq) := below_drewN2 (Below.refl _ W5) nq
                replace HBR := hide (Below.next HBR.out hbd)
                replace HO := hide (HO.out.below hbd)
                replace p0 := cell_bel hbd p0
                replace p1 := cell_bel hbd p1
                replace p2 := cell_bel hbd p2
                replace p3 := cell_bel hbd p3
                replace p4 := cell_bel hbd p4
                replace r0 := cell_bel hbd r0
                replace r1 := cell_bel hbd r1
                replace r2 := cell_bel hbd r2
                replace r3 := cell_bel hbd r3
                replace r4 := cell_bel hbd r4
                generalize W5.drewN nq = W7 at *
                clear hbd
                have HEQ2 : Hid ((out ++ [(kb, xb)]) ++ jL (side (a.drop i) (b.drop (k + 1))) = jL (side a b)) := by have h0 := HEQ.out; rw [side_new a b i k HBL.out (fun hk => by rw [HKA.out, HKB.out]; exact HGT.out), HKB.out, jL, List.map_cons, ← List.singleton_append, ← List.append_assoc] at h0; exact h0
                have HAL2 : Hid ((side a b).all (fun e => okJ e.2) = (side (a.drop i) (b.drop (k + 1))).all (fun e => okJ e.2)) := by have h0 := HALL.out; rw [side_new a b i k HBL.out (fun hk => by rw [HKA.out, HKB.out]; exact HGT.out), HKB.out, List.all_cons] at h0; rw [h0]; exact rfl
                have HLEN := hide (len_jL HEQ2.out HS.out rfl)
                obtain ⟨a3, c3, W6, hrun, hown1, hgr⟩ := push_chs w.heap.size _ out (kb, xb) 44 W7 no HNO.out.symm HO.out (by have := HLEN.out; rw [← HNO.out] at this; exact this) HBR.out.size
                simp only [chC] at hrun hgr
                have HO1 := hide hown1
                have HG := hide hgr
                clear hown1 hgr
                go_wp2_with (first | (at_builtin; refine wpList_append_run 23 rfl (.tmp 95) (.tmp 100) rfl rfl _ _ rfl rfl _ _ hrun ?_))
                clear hrun
                have HBF : Hid (Below w.heap.size w W6) := bel_but HBR.out (((But.refl w.heap.size (fun _ => true) W7).alloc _).grown HG.out (fun b o hb ho => ⟨(HO.out.blk b hb).1, rfl⟩)) (Nat.le_refl _)
                go_wp2
                go_roundw
                case rel => exact ⟨i, (k + 1), n + 1, no + 1, _, a3, c3, by have := HIK.out; omega, by have := HIK.out; omega, by have := HIK.out; omega, by rw [List.length_append, ← HNO.out]; rfl, rfl, by go_num, by go_num, by go_num, HO1.out, HEQ2.out, HAL2.out, HBF.out⟩
                case measure => have := HIK.out; simp [intOf]; omega
              | false =>
                have HKK : Hid (ka = kb) := ltK_total HLT.out hgt
                go_quiet (fail)
                go_upto_region 17 with fail
                have hbd : Below W5.heap.size W5 (W5.drewN nq) := below_drewN2 (Below.refl _ W5) nq
                replace HBR := hide (Below.next HBR.out hbd)
                replace HO := hide (HO.out.below hbd)
                replace p0 := cell_bel hbd p0
                replace p1 := cell_bel hbd p1
                replace p2 := cell_bel hbd p2
                replace p3 := cell_bel hbd p3
                replace p4 := cell_bel hbd p4
                replace r0 := cell_bel hbd r0
                replace r1 := cell_bel hbd r1
                replace r2 := cell_bel hbd r2
                replace r3 := cell_bel hbd r3
                replace r4 := cell_bel hbd r4
                generalize W5.drewN nq = W7 at *
                clear hbd
                obtain ⟨had1, has1, old1, new1⟩ := xa
                obtain ⟨had2, has2, old2, new2⟩ := xb
                simp only at p0 p1 p2 p3 p4 r0 r1 r2 r3 r4
                have HSD : Hid (side (a.drop i) (b.drop k) = (ka, (some ⟨had1, has1, old1, new1⟩, some ⟨had2, has2, old2, new2⟩)) :: side (a.drop (i + 1)) (b.drop (k + 1))) := by have h0 := side_both a b i k HAL.out HBL.out (by rw [HKA.out, HKB.out]; exact HKK.out); rw [HKA.out, HKB.out] at h0; exact h0
                have HXE := hide (list_eq old2 new1)
                cases had2 with
                | true =>
                  cases has1 with
                  | true =>
                    by_cases hxe : old2 = new1
                    · have hd : (old2.toList == new1.toList) = true := by rw [HXE.out]; simp [hxe]
                      have HXX := hide hxe
                      clear hxe
                      go_quiet (fail)
                      go_upto_region 19 with fail
                      have hbd : Below W7.heap.size W7 (W7.drewN nq) := below_drewN2 (Below.refl _ W7) nq
                      replace HBR := hide (Below.next HBR.out hbd)
                      replace HO := hide (HO.out.below hbd)
                      replace p0 := cell_bel hbd p0
                      replace p1 := cell_bel hbd p1
                      replace p2 := cell_bel hbd p2
                      replace p3 := cell_bel hbd p3
                      replace p4 := cell_bel hbd p4
                      replace r0 := cell_bel hbd r0
                      replace r1 := cell_bel hbd r1
                      replace r2 := cell_bel hbd r2
                      replace r3 := cell_bel hbd r3
                      replace r4 := cell_bel hbd r4
                      generalize W7.drewN nq = W8 at *
                      clear hbd
                      have HEQ2 : Hid ((out ++ [(ka, (⟨had1, has2, old1, new2⟩ : ChV))]) ++ jL (side (a.drop (i + 1)) (b.drop (k + 1))) = jL (side a b)) := by have h0 := HEQ.out; rw [HSD.out, jL, List.map_cons, ← List.singleton_append, ← List.append_assoc] at h0; exact h0
                      have HAL2 : Hid ((side a b).all (fun e => okJ e.2) = (side (a.drop (i + 1)) (b.drop (k + 1))).all (fun e => okJ e.2)) := by
                        have h0 := HALL.out
                        rw [HSD.out, List.all_cons] at h0
                        rw [h0, show okJ (some (⟨had1, true, old1, new1⟩ : ChV), some (⟨true, has2, old2, new2⟩ : ChV)) = true by show (true == true && decide (old2 = new1)) = true; rw [HXX.out]; simp]
                        exact rfl
                      have HLEN := hide (len_jL HEQ2.out HS.out rfl)
                      have hdw : Below W8.heap.size W8 W8.drew := (Below.refl _ W8).drew
                      have p0' := cell_bel hdw p0
                      have p1' := cell_bel hdw p1
                      have p3' := cell_bel hdw p3
                      have r2' := cell_bel hdw r2
                      have r4' := cell_bel hdw r4
                      have HBR8 := hide (Below.next HBR.out hdw)
                      have HO8 := hide (HO.out.below hdw)
                      obtain ⟨W9, hW9⟩ : ∃ W9, W9 = W8.drew := ⟨_, rfl⟩
                      rw [← hW9] at p0' p1' p3' r2' r4' HBR8 HO8
                      have hb19 : Below w.heap.size w W9 := HBR8.out
                      obtain ⟨a3, c3, W6, hrun, hown1, hgr⟩ := push_chs w.heap.size _ out (ka, (⟨had1, has2, old1, new2⟩ : ChV)) 44 W9 no HNO.out.symm HO8.out (by have := HLEN.out; rw [← HNO.out] at this; exact this) HBR8.out.size
                      simp only [chC] at hrun hgr
                      have HBF : Hid (Below w.heap.size w W6) := bel_but HBR8.out (((But.refl w.heap.size (fun _ => true) W9).alloc _).grown hgr (fun b o hb ho => ⟨(HO8.out.blk b hb).1, rfl⟩)) (Nat.le_refl _)
                      have HT0 : Hid ((fun w' => w'.cell? ⟨g1, o1 + i * 5, none⟩ = some (.string ka) ∧ w'.cell? ⟨g1, o1 + i * 5 + 1, none⟩ = some (.bool had1) ∧ w'.cell? ⟨g1, o1 + i * 5 + 3, none⟩ = some (.string old1) ∧ w'.cell? ⟨g2, o2 + k * 5 + 2, none⟩ = some (.bool has2) ∧ w'.cell? ⟨g2, o2 + k * 5 + 4, none⟩ = some (.string new2)) W9) := ⟨p0', p1', p3', r2', r4'⟩
                      have HT1 : Hid ((fun w' => w'.cell? ⟨g1, o1 + i * 5, none⟩ = some (.string ka) ∧ w'.cell? ⟨g1, o1 + i * 5 + 1, none⟩ = some (.bool had1) ∧ w'.cell? ⟨g1, o1 + i * 5 + 3, none⟩ = some (.string old1) ∧ w'.cell? ⟨g2, o2 + k * 5 + 2, none⟩ = some (.bool has2) ∧ w'.cell? ⟨g2, o2 + k * 5 + 4, none⟩ = some (.string new2)) (W9.alloc (.cells #[.string ka, .bool had1, .bool has2, .string old1, .string new2] 44))) := ⟨cell_bel (below_new W9 _) p0', cell_bel (below_new W9 _) p1', cell_bel (below_new W9 _) p3', cell_bel (below_new W9 _) r2', cell_bel (below_new W9 _) r4'⟩
                      have HT2 : Hid ((fun w' => w'.cell? ⟨g1, o1 + i * 5, none⟩ = some (.string ka) ∧ w'.cell? ⟨g1, o1 + i * 5 + 1, none⟩ = some (.bool had1) ∧ w'.cell? ⟨g1, o1 + i * 5 + 3, none⟩ = some (.string old1) ∧ w'.cell? ⟨g2, o2 + k * 5 + 2, none⟩ = some (.bool has2) ∧ w'.cell? ⟨g2, o2 + k * 5 + 4, none⟩ = some (.string new2)) W6) := by
                        have hk : ∀ (g o : Nat) (v : Value), g < w.heap.size → W9.cell? ⟨g, o, none⟩ = some v → W6.cell? ⟨g, o, none⟩ = some v := fun g o v hg hc => (World.cell?_of_block (a := ⟨g, o, none⟩) ((HBF.out.block g hg).trans (hb19.block g hg).symm)).trans hc
                        exact ⟨hk _ _ _ HG12.out.1 p0', hk _ _ _ HG12.out.1 p1', hk _ _ _ HG12.out.1 p3', hk _ _ _ HG12.out.2 r2', hk _ _ _ HG12.out.2 r4'⟩
                      have HO1 := hide hown1
                      have HRUN := hide hrun
                      clear hown1 hgr hrun hdw p0 p1 p2 p3 p4 r0 r1 r2 r3 r4 p0' p1' p3' r2' r4' hb19
                      refine AnyD.region (fun w' => w'.cell? ⟨g1, o1 + i * 5, none⟩ = some (.string ka) ∧ w'.cell? ⟨g1, o1 + i * 5 + 1, none⟩ = some (.bool had1) ∧ w'.cell? ⟨g1, o1 + i * 5 + 3, none⟩ = some (.string old1) ∧ w'.cell? ⟨g2, o2 + k * 5 + 2, none⟩ = some (.bool has2) ∧ w'.cell? ⟨g2, o2 + k * 5 + 4, none⟩ = some (.string new2)) (fun j => j != 29) (by kernel_rfl) ?_
                      rw [← hW9]
                      clear hW9
                      refine AnyD.taked (i := 0) (d := 128) (v := .slice a' no c') rfl rfl (by kernel_rfl) (by kernel_rfl) (by kernel_rfl) rfl (by kernel_rfl) (fun _ _ _ h => h) (Or.inl ⟨by rfl, ?_⟩) HT0.out ?_
                      · intro w' hw'
                        obtain ⟨t0, t1, t2, t3, t4⟩ := hw'
                        go_simp
                      try simp only [Act.put, List.setIfInBounds_toArray, List.set_cons_zero, List.set_cons_succ]
                      refine AnyD.taked (i := 1) (d := 129) (v := .slice (some ⟨g1, o1, none⟩) n1 c1) rfl rfl (by kernel_rfl) (by kernel_rfl) (by kernel_rfl) rfl (by kernel_rfl) (fun _ _ _ h => h) (Or.inl ⟨by rfl, ?_⟩) HT0.out ?_
                      · intro w' hw'
                        obtain ⟨t0, t1, t2, t3, t4⟩ := hw'
                        go_simp
                      try simp only [Act.put, List.setIfInBounds_toArray, List.set_cons_zero, List.set_cons_succ]
                      refine AnyD.taked (i := 2) (d := 130) (v := .int .i64 (i : Int)) rfl rfl (by kernel_rfl) (by kernel_rfl) (by kernel_rfl) rfl (by kernel_rfl) (fun _ _ _ h => h) (Or.inl ⟨by rfl, ?_⟩) HT0.out ?_
                      · intro w' hw'
                        obtain ⟨t0, t1, t2, t3, t4⟩ := hw'
                        go_simp
                      try simp only [Act.put, List.setIfInBounds_toArray, List.set_cons_zero, List.set_cons_succ]
                      refine AnyD.taked (i := 3) (d := 131) (v := .pointer (some ⟨g1, o1 + i * 5, none⟩)) rfl rfl (by kernel_rfl) (by kernel_rfl) (by kernel_rfl) rfl (by kernel_rfl) (fun _ _ _ h => h) (Or.inl ⟨by rfl, ?_⟩) HT0.out ?_
                      · intro w' hw'
                        obtain ⟨t0, t1, t2, t3, t4⟩ := hw'
                        go_simp
                      try simp only [Act.put, List.setIfInBounds_toArray, List.set_cons_zero, List.set_cons_succ]
                      refine AnyD.taked (i := 4) (d := 132) (v := .pointer (some ⟨g1, o1 + i * 5, none⟩)) rfl rfl (by kernel_rfl) (by kernel_rfl) (by kernel_rfl) rfl (by kernel_rfl) (fun _ _ _ h => h) (Or.inl ⟨by rfl, ?_⟩) HT0.out ?_
                      · intro w' hw'
                        obtain ⟨t0, t1, t2, t3, t4⟩ := hw'
                        go_simp
                      try simp only [Act.put, List.setIfInBounds_toArray, List.set_cons_zero, List.set_cons_succ]
                      refine AnyD.taked (i := 5) (d := 133) (v := .string ka) rfl rfl (by kernel_rfl) (by kernel_rfl) (by kernel_rfl) rfl (by kernel_rfl) (fun _ _ _ h => h) (Or.inl ⟨by rfl, ?_⟩) HT0.out ?_
                      · intro w' hw'
                        obtain ⟨t0, t1, t2, t3, t4⟩ := hw'
                        go_simp
                      try simp only [Act.put, List.setIfInBounds_toArray, List.set_cons_zero, List.set_cons_succ]
                      refine AnyD.taked (i := 6) (d := 134) (v := .slice (some ⟨g1, o1, none⟩) n1 c1) rfl rfl (by kernel_rfl) (by kernel_rfl) (by kernel_rfl) rfl (by kernel_rfl) (fun _ _ _ h => h) (Or.inl ⟨by rfl, ?_⟩) HT0.out ?_
                      · intro w' hw'
                        obtain ⟨t0, t1, t2, t3, t4⟩ := hw'
                        go_simp
                      try simp only [Act.put, List.setIfInBounds_toArray, List.set_cons_zero, List.set_cons_succ]
                      refine AnyD.taked (i := 7) (d := 135) (v := .int .i64 (i : Int)) rfl rfl (by kernel_rfl) (by kernel_rfl) (by kernel_rfl) rfl (by kernel_rfl) (fun _ _ _ h => h) (Or.inl ⟨by rfl, ?_⟩) HT0.out ?_
                      · intro w' hw'
                        obtain ⟨t0, t1, t2, t3, t4⟩ := hw'
                        go_simp
                      try simp only [Act.put, List.setIfInBounds_toArray, List.set_cons_zero, List.set_cons_succ]
                      refine AnyD.taked (i := 8) (d := 136) (v := .pointer (some ⟨g1, o1 + i * 5, none⟩)) rfl rfl (by kernel_rfl) (by kernel_rfl) (by kernel_rfl) rfl (by kernel_rfl) (fun _ _ _ h => h) (Or.inl ⟨by rfl, ?_⟩) HT0.out ?_
                      · intro w' hw'
                        obtain ⟨t0, t1, t2, t3, t4⟩ := hw'
                        go_simp
                      try simp only [Act.put, List.setIfInBounds_toArray, List.set_cons_zero, List.set_cons_succ]
                      refine AnyD.taked (i := 9) (d := 137) (v := .pointer (some ⟨g1, o1 + i * 5 + 1, none⟩)) rfl rfl (by kernel_rfl) (by kernel_rfl) (by kernel_rfl) rfl (by kernel_rfl) (fun _ _ _ h => h) (Or.inl ⟨by rfl, ?_⟩) HT0.out ?_
                      · intro w' hw'
                        obtain ⟨t0, t1, t2, t3, t4⟩ := hw'
                        go_simp
                      try simp only [Act.put, List.setIfInBounds_toArray, List.set_cons_zero, List.set_cons_succ]
                      refine AnyD.taked (i := 10) (d := 138) (v := .bool had1) rfl rfl (by kernel_rfl) (by kernel_rfl) (by kernel_rfl) rfl (by kernel_rfl) (fun _ _ _ h => h) (Or.inl ⟨by rfl, ?_⟩) HT0.out ?_
                      · intro w' hw'
                        obtain ⟨t0, t1, t2, t3, t4⟩ := hw'
                        go_simp
                      try simp only [Act.put, List.setIfInBounds_toArray, List.set_cons_zero, List.set_cons_succ]
                      refine AnyD.taked (i := 11) (d := 139) (v := .slice (some ⟨g1, o1, none⟩) n1 c1) rfl rfl (by kernel_rfl) (by kernel_rfl) (by kernel_rfl) rfl (by kernel_rfl) (fun _ _ _ h => h) (Or.inl ⟨by rfl, ?_⟩) HT0.out ?_
                      · intro w' hw'
                        obtain ⟨t0, t1, t2, t3, t4⟩ := hw'
                        go_simp
                      try simp only [Act.put, List.setIfInBounds_toArray, List.set_cons_zero, List.set_cons_succ]
                      refine AnyD.taked (i := 12) (d := 140) (v := .int .i64 (i : Int)) rfl rfl (by kernel_rfl) (by kernel_rfl) (by kernel_rfl) rfl (by kernel_rfl) (fun _ _ _ h => h) (Or.inl ⟨by rfl, ?_⟩) HT0.out ?_
                      · intro w' hw'
                        obtain ⟨t0, t1, t2, t3, t4⟩ := hw'
                        go_simp
                      try simp only [Act.put, List.setIfInBounds_toArray, List.set_cons_zero, List.set_cons_succ]
                      refine AnyD.taked (i := 13) (d := 141) (v := .pointer (some ⟨g1, o1 + i * 5, none⟩)) rfl rfl (by kernel_rfl) (by kernel_rfl) (by kernel_rfl) rfl (by kernel_rfl) (fun _ _ _ h => h) (Or.inl ⟨by rfl, ?_⟩) HT0.out ?_
                      · intro w' hw'
                        obtain ⟨t0, t1, t2, t3, t4⟩ := hw'
                        go_simp
                      try simp only [Act.put, List.setIfInBounds_toArray, List.set_cons_zero, List.set_cons_succ]
                      refine AnyD.taked (i := 14) (d := 142) (v := .pointer (some ⟨g1, o1 + i * 5 + 3, none⟩)) rfl rfl (by kernel_rfl) (by kernel_rfl) (by kernel_rfl) rfl (by kernel_rfl) (fun _ _ _ h => h) (Or.inl ⟨by rfl, ?_⟩) HT0.out ?_
                      · intro w' hw'
                        obtain ⟨t0, t1, t2, t3, t4⟩ := hw'
                        go_simp
                      try simp only [Act.put, List.setIfInBounds_toArray, List.set_cons_zero, List.set_cons_succ]
                      refine AnyD.taked (i := 15) (d := 143) (v := .string old1) rfl rfl (by kernel_rfl) (by kernel_rfl) (by kernel_rfl) rfl (by kernel_rfl) (fun _ _ _ h => h) (Or.inl ⟨by rfl, ?_⟩) HT0.out ?_
                      · intro w' hw'
                        obtain ⟨t0, t1, t2, t3, t4⟩ := hw'
                        go_simp
                      try simp only [Act.put, List.setIfInBounds_toArray, List.set_cons_zero, List.set_cons_succ]
                      refine AnyD.taked (i := 16) (d := 144) (v := .slice (some ⟨g2, o2, none⟩) n2 c2) rfl rfl (by kernel_rfl) (by kernel_rfl) (by kernel_rfl) rfl (by kernel_rfl) (fun _ _ _ h => h) (Or.inl ⟨by rfl, ?_⟩) HT0.out ?_
                      · intro w' hw'
                        obtain ⟨t0, t1, t2, t3, t4⟩ := hw'
                        go_simp
                      try simp only [Act.put, List.setIfInBounds_toArray, List.set_cons_zero, List.set_cons_succ]
                      refine AnyD.taked (i := 17) (d := 145) (v := .int .i64 (k : Int)) rfl rfl (by kernel_rfl) (by kernel_rfl) (by kernel_rfl) rfl (by kernel_rfl) (fun _ _ _ h => h) (Or.inl ⟨by rfl, ?_⟩) HT0.out ?_
                      · intro w' hw'
                        obtain ⟨t0, t1, t2, t3, t4⟩ := hw'
                        go_simp
                      try simp only [Act.put, List.setIfInBounds_toArray, List.set_cons_zero, List.set_cons_succ]
                      refine AnyD.taked (i := 18) (d := 146) (v := .pointer (some ⟨g2, o2 + k * 5, none⟩)) rfl rfl (by kernel_rfl) (by kernel_rfl) (by kernel_rfl) rfl (by kernel_rfl) (fun _ _ _ h => h) (Or.inl ⟨by rfl, ?_⟩) HT0.out ?_
                      · intro w' hw'
                        obtain ⟨t0, t1, t2, t3, t4⟩ := hw'
                        go_simp
                      try simp only [Act.put, List.setIfInBounds_toArray, List.set_cons_zero, List.set_cons_succ]
                      refine AnyD.taked (i := 19) (d := 147) (v := .pointer (some ⟨g2, o2 + k * 5 + 2, none⟩)) rfl rfl (by kernel_rfl) (by kernel_rfl) (by kernel_rfl) rfl (by kernel_rfl) (fun _ _ _ h => h) (Or.inl ⟨by rfl, ?_⟩) HT0.out ?_
                      · intro w' hw'
                        obtain ⟨t0, t1, t2, t3, t4⟩ := hw'
                        go_simp
                      try simp only [Act.put, List.setIfInBounds_toArray, List.set_cons_zero, List.set_cons_succ]
                      refine AnyD.taked (i := 20) (d := 148) (v := .bool has2) rfl rfl (by kernel_rfl) (by kernel_rfl) (by kernel_rfl) rfl (by kernel_rfl) (fun _ _ _ h => h) (Or.inl ⟨by rfl, ?_⟩) HT0.out ?_
                      · intro w' hw'
                        obtain ⟨t0, t1, t2, t3, t4⟩ := hw'
                        go_simp
                      try simp only [Act.put, List.setIfInBounds_toArray, List.set_cons_zero, List.set_cons_succ]
                      refine AnyD.taked (i := 21) (d := 149) (v := .slice (some ⟨g2, o2, none⟩) n2 c2) rfl rfl (by kernel_rfl) (by kernel_rfl) (by kernel_rfl) rfl (by kernel_rfl) (fun _ _ _ h => h) (Or.inl ⟨by rfl, ?_⟩) HT0.out ?_
                      · intro w' hw'
                        obtain ⟨t0, t1, t2, t3, t4⟩ := hw'
                        go_simp
                      try simp only [Act.put, List.setIfInBounds_toArray, List.set_cons_zero, List.set_cons_succ]
                      refine AnyD.taked (i := 22) (d := 150) (v := .int .i64 (k : Int)) rfl rfl (by kernel_rfl) (by kernel_rfl) (by kernel_rfl) rfl (by kernel_rfl) (fun _ _ _ h => h) (Or.inl ⟨by rfl, ?_⟩) HT0.out ?_
                      · intro w' hw'
                        obtain ⟨t0, t1, t2, t3, t4⟩ := hw'
                        go_simp
                      try simp only [Act.put, List.setIfInBounds_toArray, List.set_cons_zero, List.set_cons_succ]
                      refine AnyD.taked (i := 23) (d := 151) (v := .pointer (some ⟨g2, o2 + k * 5, none⟩)) rfl rfl (by kernel_rfl) (by kernel_rfl) (by kernel_rfl) rfl (by kernel_rfl) (fun _ _ _ h => h) (Or.inl ⟨by rfl, ?_⟩) HT0.out ?_
                      · intro w' hw'
                        obtain ⟨t0, t1, t2, t3, t4⟩ := hw'
                        go_simp
                      try simp only [Act.put, List.setIfInBounds_toArray, List.set_cons_zero, List.set_cons_succ]
                      refine AnyD.taked (i := 24) (d := 152) (v := .pointer (some ⟨g2, o2 + k * 5 + 4, none⟩)) rfl rfl (by kernel_rfl) (by kernel_rfl) (by kernel_rfl) rfl (by kernel_rfl) (fun _ _ _ h => h) (Or.inl ⟨by rfl, ?_⟩) HT0.out ?_
                      · intro w' hw'
                        obtain ⟨t0, t1, t2, t3, t4⟩ := hw'
                        go_simp
                      try simp only [Act.put, List.setIfInBounds_toArray, List.set_cons_zero, List.set_cons_succ]
                      refine AnyD.taked (i := 25) (d := 153) (v := .string new2) rfl rfl (by kernel_rfl) (by kernel_rfl) (by kernel_rfl) rfl (by kernel_rfl) (fun _ _ _ h => h) (Or.inl ⟨by rfl, ?_⟩) HT0.out ?_
                      · intro w' hw'
                        obtain ⟨t0, t1, t2, t3, t4⟩ := hw'
                        go_simp
                      try simp only [Act.put, List.setIfInBounds_toArray, List.set_cons_zero, List.set_cons_succ]
                      refine AnyD.taked (i := 26) (d := 154) (v := .agg #[.string ka, .bool had1, .bool has2, .string old1, .string new2]) rfl rfl (by kernel_rfl) (by kernel_rfl) (by kernel_rfl) rfl (by kernel_rfl) (fun _ _ _ h => h) (Or.inl ⟨by rfl, ?_⟩) HT0.out ?_
                      · intro w' hw'
                        obtain ⟨t0, t1, t2, t3, t4⟩ := hw'
                        go_simp
                      try simp only [Act.put, List.setIfInBounds_toArray, List.set_cons_zero, List.set_cons_succ]
                      refine AnyD.one (i := 27) (by kernel_rfl) (wpOp_of rfl fun K hK => ?_)
                      go_simp
                      refine hK _ _ ⟨fun _ => HT1.out, ?_⟩
                      clear hK K
                      try simp only [Act.put, List.setIfInBounds_toArray, List.set_cons_zero, List.set_cons_succ]
                      refine AnyD.one (i := 28) (by kernel_rfl) (wpOp_of rfl fun K hK => ?_)
                      refine ite_of9 (by rfl) ?_
                      refine wp_append_run 23 (.tmp 128) (.tmp 155) rfl rfl _ _ rfl rfl _ _ HRUN.out ?_
                      refine hK _ _ ⟨fun _ => HT2.out, ?_⟩
                      clear hK K
                      try simp only [Act.put, List.setIfInBounds_toArray]
                      refine AnyD.one (i := 29) (by kernel_rfl) (wpOp_of rfl fun K hK => ?_)
                      go_simp
                      refine hK _ _ ⟨(fun h => by cases h), ?_⟩
                      clear hK K
                      try simp only [Act.put, List.setIfInBounds_toArray, List.set_cons_zero, List.set_cons_succ]
                      refine AnyD.done (by kernel_rfl) ?_ _
                      go_wp2
                      go_roundw
                      case rel => exact ⟨(i + 1), (k + 1), n + 1, no + 1, _, a3, c3, by have := HIK.out; have := HIL.out; omega, by have := HIK.out; have := HIL.out; omega, by have := HIK.out; omega, by rw [List.length_append, ← HNO.out]; rfl, rfl, by go_num, by go_num, by go_num, HO1.out, HEQ2.out, HAL2.out, HBF.out⟩
                      case measure => have := HIK.out; have := HIL.out; simp [intOf]; omega
                    · have hd : (old2.toList == new1.toList) = false := by rw [HXE.out]; simp [hxe]
                      have HNX : Hid (composeD a b = none) := by
                        have h0 := HALL.out
                        rw [HSD.out, List.all_cons] at h0
                        unfold composeD
                        rw [if_neg (by rw [h0]; show ¬ ((true == true && decide (old2 = new1)) && _) = true; simp [hxe])]
                        exact rfl
                      clear hxe
                      go_quiet (fail)
                      
                      have hbd : Below W7.heap.size W7 (W7.drewN nq) := below_drewN2 (Below.refl _ W7) nq
                      replace HBR := hide (Below.next HBR.out hbd)
                      replace HO := hide (HO.out.below hbd)
                      generalize W7.drewN nq = W8 at *
                      clear hbd
                      go_wp2
                      rw [HQ.out]
                      exact ⟨HBR.out, .inr (.inl ⟨rfl, HNX.out, rfl⟩)⟩
                  | false =>
                    have HNX : Hid (composeD a b = none) := by
                      have h0 := HALL.out
                      rw [HSD.out, List.all_cons] at h0
                      unfold composeD
                      rw [if_neg (by rw [h0]; show ¬ ((true == false && decide (old2 = new1)) && _) = true; simp)]
                      exact rfl
                    go_quiet (fail)
                    
                    have hbd : Below W7.heap.size W7 (W7.drewN nq) := below_drewN2 (Below.refl _ W7) nq
                    replace HBR := hide (Below.next HBR.out hbd)
                    replace HO := hide (HO.out.below hbd)
                    generalize W7.drewN nq = W8 at *
                    clear hbd
                    go_wp2
                    rw [HQ.out]
                    exact ⟨HBR.out, .inr (.inl ⟨rfl, HNX.out, rfl⟩)⟩
                | false =>
                  cases has1 with
                  | true =>
                    have HNX : Hid (composeD a b = none) := by
                      have h0 := HALL.out
                      rw [HSD.out, List.all_cons] at h0
                      unfold composeD
                      rw [if_neg (by rw [h0]; show ¬ ((false == true && decide (old2 = new1)) && _) = true; simp)]
                      exact rfl
                    go_quiet (fail)
                    
                    have hbd : Below W7.heap.size W7 (W7.drewN nq) := below_drewN2 (Below.refl _ W7) nq
                    replace HBR := hide (Below.next HBR.out hbd)
                    replace HO := hide (HO.out.below hbd)
                    generalize W7.drewN nq = W8 at *
                    clear hbd
                    go_wp2
                    rw [HQ.out]
                    exact ⟨HBR.out, .inr (.inl ⟨rfl, HNX.out, rfl⟩)⟩
                  | false =>
                    by_cases hxe : old2 = new1
                    · have hd : (old2.toList == new1.toList) = true := by rw [HXE.out]; simp [hxe]
                      have HXX := hide hxe
                      clear hxe
                      go_quiet (fail)
                      go_upto_region 19 with fail
                      have hbd : Below W7.heap.size W7 (W7.drewN nq) := below_drewN2 (Below.refl _ W7) nq
                      replace HBR := hide (Below.next HBR.out hbd)
                      replace HO := hide (HO.out.below hbd)
                      replace p0 := cell_bel hbd p0
                      replace p1 := cell_bel hbd p1
                      replace p2 := cell_bel hbd p2
                      replace p3 := cell_bel hbd p3
                      replace p4 := cell_bel hbd p4
                      replace r0 := cell_bel hbd r0
                      replace r1 := cell_bel hbd r1
                      replace r2 := cell_bel hbd r2
                      replace r3 := cell_bel hbd r3
                      replace r4 := cell_bel hbd r4
                      generalize W7.drewN nq = W8 at *
                      clear hbd
                      have HEQ2 : Hid ((out ++ [(ka, (⟨had1, has2, old1, new2⟩ : ChV))]) ++ jL (side (a.drop (i + 1)) (b.drop (k + 1))) = jL (side a b)) := by have h0 := HEQ.out; rw [HSD.out, jL, List.map_cons, ← List.singleton_append, ← List.append_assoc] at h0; exact h0
                      have HAL2 : Hid ((side a b).all (fun e => okJ e.2) = (side (a.drop (i + 1)) (b.drop (k + 1))).all (fun e => okJ e.2)) := by
                        have h0 := HALL.out
                        rw [HSD.out, List.all_cons] at h0
                        rw [h0, show okJ (some (⟨had1, false, old1, new1⟩ : ChV), some (⟨false, has2, old2, new2⟩ : ChV)) = true by show (false == false && decide (old2 = new1)) = true; rw [HXX.out]; simp]
                        exact rfl
                      have HLEN := hide (len_jL HEQ2.out HS.out rfl)
                      have hdw : Below W8.heap.size W8 W8.drew := (Below.refl _ W8).drew
                      have p0' := cell_bel hdw p0
                      have p1' := cell_bel hdw p1
                      have p3' := cell_bel hdw p3
                      have r2' := cell_bel hdw r2
                      have r4' := cell_bel hdw r4
                      have HBR8 := hide (Below.next HBR.out hdw)
                      have HO8 := hide (HO.out.below hdw)
                      obtain ⟨W9, hW9⟩ : ∃ W9, W9 = W8.drew := ⟨_, rfl⟩
                      rw [← hW9] at p0' p1' p3' r2' r4' HBR8 HO8
                      have hb19 : Below w.heap.size w W9 := HBR8.out
                      obtain ⟨a3, c3, W6, hrun, hown1, hgr⟩ := push_chs w.heap.size _ out (ka, (⟨had1, has2, old1, new2⟩ : ChV)) 44 W9 no HNO.out.symm HO8.out (by have := HLEN.out; rw [← HNO.out] at this; exact this) HBR8.out.size
                      simp only [chC] at hrun hgr
                      have HBF : Hid (Below w.heap.size w W6) := bel_but HBR8.out (((But.refl w.heap.size (fun _ => true) W9).alloc _).grown hgr (fun b o hb ho => ⟨(HO8.out.blk b hb).1, rfl⟩)) (Nat.le_refl _)
                      have HT0 : Hid ((fun w' => w'.cell? ⟨g1, o1 + i * 5, none⟩ = some (.string ka) ∧ w'.cell? ⟨g1, o1 + i * 5 + 1, none⟩ = some (.bool had1) ∧ w'.cell? ⟨g1, o1 + i * 5 + 3, none⟩ = some (.string old1) ∧ w'.cell? ⟨g2, o2 + k * 5 + 2, none⟩ = some (.bool has2) ∧ w'.cell? ⟨g2, o2 + k * 5 + 4, none⟩ = some (.string new2)) W9) := ⟨p0', p1', p3', r2', r4'⟩
                      have HT1 : Hid ((fun w' => w'.cell? ⟨g1, o1 + i * 5, none⟩ = some (.string ka) ∧ w'.cell? ⟨g1, o1 + i * 5 + 1, none⟩ = some (.bool had1) ∧ w'.cell? ⟨g1, o1 + i * 5 + 3, none⟩ = some (.string old1) ∧ w'.cell? ⟨g2, o2 + k * 5 + 2, none⟩ = some (.bool has2) ∧ w'.cell? ⟨g2, o2 + k * 5 + 4, none⟩ = some (.string new2)) (W9.alloc (.cells #[.string ka, .bool had1, .bool has2, .string old1, .string new2] 44))) := ⟨cell_bel (below_new W9 _) p0', cell_bel (below_new W9 _) p1', cell_bel (below_new W9 _) p3', cell_bel (below_new W9 _) r2', cell_bel (below_new W9 _) r4'⟩
                      have HT2 : Hid ((fun w' => w'.cell? ⟨g1, o1 + i * 5, none⟩ = some (.string ka) ∧ w'.cell? ⟨g1, o1 + i * 5 + 1, none⟩ = some (.bool had1) ∧ w'.cell? ⟨g1, o1 + i * 5 + 3, none⟩ = some (.string old1) ∧ w'.cell? ⟨g2, o2 + k * 5 + 2, none⟩ = some (.bool has2) ∧ w'.cell? ⟨g2, o2 + k * 5 + 4, none⟩ = some (.string new2)) W6) := by
                        have hk : ∀ (g o : Nat) (v : Value), g < w.heap.size → W9.cell? ⟨g, o, none⟩ = some v → W6.cell? ⟨g, o, none⟩ = some v := fun g o v hg hc => (World.cell?_of_block (a := ⟨g, o, none⟩) ((HBF.out.block g hg).trans (hb19.block g hg).symm)).trans hc
                        exact ⟨hk _ _ _ HG12.out.1 p0', hk _ _ _ HG12.out.1 p1', hk _ _ _ HG12.out.1 p3', hk _ _ _ HG12.out.2 r2', hk _ _ _ HG12.out.2 r4'⟩
                      have HO1 := hide hown1
                      have HRUN := hide hrun
                      clear hown1 hgr hrun hdw p0 p1 p2 p3 p4 r0 r1 r2 r3 r4 p0' p1' p3' r2' r4' hb19
                      refine AnyD.region (fun w' => w'.cell? ⟨g1, o1 + i * 5, none⟩ = some (.string ka) ∧ w'.cell? ⟨g1, o1 + i * 5 + 1, none⟩ = some (.bool had1) ∧ w'.cell? ⟨g1, o1 + i * 5 + 3, none⟩ = some (.string old1) ∧ w'.cell? ⟨g2, o2 + k * 5 + 2, none⟩ = some (.bool has2) ∧ w'.cell? ⟨g2, o2 + k * 5 + 4, none⟩ = some (.string new2)) (fun j => j != 29) (by kernel_rfl) ?_
                      rw [← hW9]
                      clear hW9
                      refine AnyD.taked (i := 0) (d := 128) (v := .slice a' no c') rfl rfl (by kernel_rfl) (by kernel_rfl) (by kernel_rfl) rfl (by kernel_rfl) (fun _ _ _ h => h) (Or.inl ⟨by rfl, ?_⟩) HT0.out ?_
                      · intro w' hw'
                        obtain ⟨t0, t1, t2, t3, t4⟩ := hw'
                        go_simp
                      try simp only [Act.put, List.setIfInBounds_toArray, List.set_cons_zero, List.set_cons_succ]
                      refine AnyD.taked (i := 1) (d := 129) (v := .slice (some ⟨g1, o1, none⟩) n1 c1) rfl rfl (by kernel_rfl) (by kernel_rfl) (by kernel_rfl) rfl (by kernel_rfl) (fun _ _ _ h => h) (Or.inl ⟨by rfl, ?_⟩) HT0.out ?_
                      · intro w' hw'
                        obtain ⟨t0, t1, t2, t3, t4⟩ := hw'
                        go_simp
                      try simp only [Act.put, List.setIfInBounds_toArray, List.set_cons_zero, List.set_cons_succ]
                      refine AnyD.taked (i := 2) (d := 130) (v := .int .i64 (i : Int)) rfl rfl (by kernel_rfl) (by kernel_rfl) (by kernel_rfl) rfl (by kernel_rfl) (fun _ _ _ h => h) (Or.inl ⟨by rfl, ?_⟩) HT0.out ?_
                      · intro w' hw'
                        obtain ⟨t0, t1, t2, t3, t4⟩ := hw'
                        go_simp
                      try simp only [Act.put, List.setIfInBounds_toArray, List.set_cons_zero, List.set_cons_succ]
                      refine AnyD.taked (i := 3) (d := 131) (v := .pointer (some ⟨g1, o1 + i * 5, none⟩)) rfl rfl (by kernel_rfl) (by kernel_rfl) (by kernel_rfl) rfl (by kernel_rfl) (fun _ _ _ h => h) (Or.inl ⟨by rfl, ?_⟩) HT0.out ?_
                      · intro w' hw'
                        obtain ⟨t0, t1, t2, t3, t4⟩ := hw'
                        go_simp
                      try simp only [Act.put, List.setIfInBounds_toArray, List.set_cons_zero, List.set_cons_succ]
                      refine AnyD.taked (i := 4) (d := 132) (v := .pointer (some ⟨g1, o1 + i * 5, none⟩)) rfl rfl (by kernel_rfl) (by kernel_rfl) (by kernel_rfl) rfl (by kernel_rfl) (fun _ _ _ h => h) (Or.inl ⟨by rfl, ?_⟩) HT0.out ?_
                      · intro w' hw'
                        obtain ⟨t0, t1, t2, t3, t4⟩ := hw'
                        go_simp
                      try simp only [Act.put, List.setIfInBounds_toArray, List.set_cons_zero, List.set_cons_succ]
                      refine AnyD.taked (i := 5) (d := 133) (v := .string ka) rfl rfl (by kernel_rfl) (by kernel_rfl) (by kernel_rfl) rfl (by kernel_rfl) (fun _ _ _ h => h) (Or.inl ⟨by rfl, ?_⟩) HT0.out ?_
                      · intro w' hw'
                        obtain ⟨t0, t1, t2, t3, t4⟩ := hw'
                        go_simp
                      try simp only [Act.put, List.setIfInBounds_toArray, List.set_cons_zero, List.set_cons_succ]
                      refine AnyD.taked (i := 6) (d := 134) (v := .slice (some ⟨g1, o1, none⟩) n1 c1) rfl rfl (by kernel_rfl) (by kernel_rfl) (by kernel_rfl) rfl (by kernel_rfl) (fun _ _ _ h => h) (Or.inl ⟨by rfl, ?_⟩) HT0.out ?_
                      · intro w' hw'
                        obtain ⟨t0, t1, t2, t3, t4⟩ := hw'
                        go_simp
                      try simp only [Act.put, List.setIfInBounds_toArray, List.set_cons_zero, List.set_cons_succ]
                      refine AnyD.taked (i := 7) (d := 135) (v := .int .i64 (i : Int)) rfl rfl (by kernel_rfl) (by kernel_rfl) (by kernel_rfl) rfl (by kernel_rfl) (fun _ _ _ h => h) (Or.inl ⟨by rfl, ?_⟩) HT0.out ?_
                      · intro w' hw'
                        obtain ⟨t0, t1, t2, t3, t4⟩ := hw'
                        go_simp
                      try simp only [Act.put, List.setIfInBounds_toArray, List.set_cons_zero, List.set_cons_succ]
                      refine AnyD.taked (i := 8) (d := 136) (v := .pointer (some ⟨g1, o1 + i * 5, none⟩)) rfl rfl (by kernel_rfl) (by kernel_rfl) (by kernel_rfl) rfl (by kernel_rfl) (fun _ _ _ h => h) (Or.inl ⟨by rfl, ?_⟩) HT0.out ?_
                      · intro w' hw'
                        obtain ⟨t0, t1, t2, t3, t4⟩ := hw'
                        go_simp
                      try simp only [Act.put, List.setIfInBounds_toArray, List.set_cons_zero, List.set_cons_succ]
                      refine AnyD.taked (i := 9) (d := 137) (v := .pointer (some ⟨g1, o1 + i * 5 + 1, none⟩)) rfl rfl (by kernel_rfl) (by kernel_rfl) (by kernel_rfl) rfl (by kernel_rfl) (fun _ _ _ h => h) (Or.inl ⟨by rfl, ?_⟩) HT0.out ?_
                      · intro w' hw'
                        obtain ⟨t0, t1, t2, t3, t4⟩ := hw'
                        go_simp
                      try simp only [Act.put, List.setIfInBounds_toArray, List.set_cons_zero, List.set_cons_succ]
                      refine AnyD.taked (i := 10) (d := 138) (v := .bool had1) rfl rfl (by kernel_rfl) (by kernel_rfl) (by kernel_rfl) rfl (by kernel_rfl) (fun _ _ _ h => h) (Or.inl ⟨by rfl, ?_⟩) HT0.out ?_
                      · intro w' hw'
                        obtain ⟨t0, t1, t2, t3, t4⟩ := hw'
                        go_simp
                      try simp only [Act.put, List.setIfInBounds_toArray, List.set_cons_zero, List.set_cons_succ]
                      refine AnyD.taked (i := 11) (d := 139) (v := .slice (some ⟨g1, o1, none⟩) n1 c1) rfl rfl (by kernel_rfl) (by kernel_rfl) (by kernel_rfl) rfl (by kernel_rfl) (fun _ _ _ h => h) (Or.inl ⟨by rfl, ?_⟩) HT0.out ?_
                      · intro w' hw'
                        obtain ⟨t0, t1, t2, t3, t4⟩ := hw'
                        go_simp
                      try simp only [Act.put, List.setIfInBounds_toArray, List.set_cons_zero, List.set_cons_succ]
                      refine AnyD.taked (i := 12) (d := 140) (v := .int .i64 (i : Int)) rfl rfl (by kernel_rfl) (by kernel_rfl) (by kernel_rfl) rfl (by kernel_rfl) (fun _ _ _ h => h) (Or.inl ⟨by rfl, ?_⟩) HT0.out ?_
                      · intro w' hw'
                        obtain ⟨t0, t1, t2, t3, t4⟩ := hw'
                        go_simp
                      try simp only [Act.put, List.setIfInBounds_toArray, List.set_cons_zero, List.set_cons_succ]
                      refine AnyD.taked (i := 13) (d := 141) (v := .pointer (some ⟨g1, o1 + i * 5, none⟩)) rfl rfl (by kernel_rfl) (by kernel_rfl) (by kernel_rfl) rfl (by kernel_rfl) (fun _ _ _ h => h) (Or.inl ⟨by rfl, ?_⟩) HT0.out ?_
                      · intro w' hw'
                        obtain ⟨t0, t1, t2, t3, t4⟩ := hw'
                        go_simp
                      try simp only [Act.put, List.setIfInBounds_toArray, List.set_cons_zero, List.set_cons_succ]
                      refine AnyD.taked (i := 14) (d := 142) (v := .pointer (some ⟨g1, o1 + i * 5 + 3, none⟩)) rfl rfl (by kernel_rfl) (by kernel_rfl) (by kernel_rfl) rfl (by kernel_rfl) (fun _ _ _ h => h) (Or.inl ⟨by rfl, ?_⟩) HT0.out ?_
                      · intro w' hw'
                        obtain ⟨t0, t1, t2, t3, t4⟩ := hw'
                        go_simp
                      try simp only [Act.put, List.setIfInBounds_toArray, List.set_cons_zero, List.set_cons_succ]
                      refine AnyD.taked (i := 15) (d := 143) (v := .string old1) rfl rfl (by kernel_rfl) (by kernel_rfl) (by kernel_rfl) rfl (by kernel_rfl) (fun _ _ _ h => h) (Or.inl ⟨by rfl, ?_⟩) HT0.out ?_
                      · intro w' hw'
                        obtain ⟨t0, t1, t2, t3, t4⟩ := hw'
                        go_simp
                      try simp only [Act.put, List.setIfInBounds_toArray, List.set_cons_zero, List.set_cons_succ]
                      refine AnyD.taked (i := 16) (d := 144) (v := .slice (some ⟨g2, o2, none⟩) n2 c2) rfl rfl (by kernel_rfl) (by kernel_rfl) (by kernel_rfl) rfl (by kernel_rfl) (fun _ _ _ h => h) (Or.inl ⟨by rfl, ?_⟩) HT0.out ?_
                      · intro w' hw'
                        obtain ⟨t0, t1, t2, t3, t4⟩ := hw'
                        go_simp
                      try simp only [Act.put, List.setIfInBounds_toArray, List.set_cons_zero, List.set_cons_succ]
                      refine AnyD.taked (i := 17) (d := 145) (v := .int .i64 (k : Int)) rfl rfl (by kernel_rfl) (by kernel_rfl) (by kernel_rfl) rfl (by kernel_rfl) (fun _ _ _ h => h) (Or.inl ⟨by rfl, ?_⟩) HT0.out ?_
                      · intro w' hw'
                        obtain ⟨t0, t1, t2, t3, t4⟩ := hw'
                        go_simp
                      try simp only [Act.put, List.setIfInBounds_toArray, List.set_cons_zero, List.set_cons_succ]
                      refine AnyD.taked (i := 18) (d := 146) (v := .pointer (some ⟨g2, o2 + k * 5, none⟩)) rfl rfl (by kernel_rfl) (by kernel_rfl) (by kernel_rfl) rfl (by kernel_rfl) (fun _ _ _ h => h) (Or.inl ⟨by rfl, ?_⟩) HT0.out ?_
                      · intro w' hw'
                        obtain ⟨t0, t1, t2, t3, t4⟩ := hw'
                        go_simp
                      try simp only [Act.put, List.setIfInBounds_toArray, List.set_cons_zero, List.set_cons_succ]
                      refine AnyD.taked (i := 19) (d := 147) (v := .pointer (some ⟨g2, o2 + k * 5 + 2, none⟩)) rfl rfl (by kernel_rfl) (by kernel_rfl) (by kernel_rfl) rfl (by kernel_rfl) (fun _ _ _ h => h) (Or.inl ⟨by rfl, ?_⟩) HT0.out ?_
                      · intro w' hw'
                        obtain ⟨t0, t1, t2, t3, t4⟩ := hw'
                        go_simp
                      try simp only [Act.put, List.setIfInBounds_toArray, List.set_cons_zero, List.set_cons_succ]
                      refine AnyD.taked (i := 20) (d := 148) (v := .bool has2) rfl rfl (by kernel_rfl) (by kernel_rfl) (by kernel_rfl) rfl (by kernel_rfl) (fun _ _ _ h => h) (Or.inl ⟨by rfl, ?_⟩) HT0.out ?_
                      · intro w' hw'
                        obtain ⟨t0, t1, t2, t3, t4⟩ := hw'
                        go_simp
                      try simp only [Act.put, List.setIfInBounds_toArray, List.set_cons_zero, List.set_cons_succ]
                      refine AnyD.taked (i := 21) (d := 149) (v := .slice (some ⟨g2, o2, none⟩) n2 c2) rfl rfl (by kernel_rfl) (by kernel_rfl) (by kernel_rfl) rfl (by kernel_rfl) (fun _ _ _ h => h) (Or.inl ⟨by rfl, ?_⟩) HT0.out ?_
                      · intro w' hw'
                        obtain ⟨t0, t1, t2, t3, t4⟩ := hw'
                        go_simp
                      try simp only [Act.put, List.setIfInBounds_toArray, List.set_cons_zero, List.set_cons_succ]
                      refine AnyD.taked (i := 22) (d := 150) (v := .int .i64 (k : Int)) rfl rfl (by kernel_rfl) (by kernel_rfl) (by kernel_rfl) rfl (by kernel_rfl) (fun _ _ _ h => h) (Or.inl ⟨by rfl, ?_⟩) HT0.out ?_
                      · intro w' hw'
                        obtain ⟨t0, t1, t2, t3, t4⟩ := hw'
                        go_simp
                      try simp only [Act.put, List.setIfInBounds_toArray, List.set_cons_zero, List.set_cons_succ]
                      refine AnyD.taked (i := 23) (d := 151) (v := .pointer (some ⟨g2, o2 + k * 5, none⟩)) rfl rfl (by kernel_rfl) (by kernel_rfl) (by kernel_rfl) rfl (by kernel_rfl) (fun _ _ _ h => h) (Or.inl ⟨by rfl, ?_⟩) HT0.out ?_
                      · intro w' hw'
                        obtain ⟨t0, t1, t2, t3, t4⟩ := hw'
                        go_simp
                      try simp only [Act.put, List.setIfInBounds_toArray, List.set_cons_zero, List.set_cons_succ]
                      refine AnyD.taked (i := 24) (d := 152) (v := .pointer (some ⟨g2, o2 + k * 5 + 4, none⟩)) rfl rfl (by kernel_rfl) (by kernel_rfl) (by kernel_rfl) rfl (by kernel_rfl) (fun _ _ _ h => h) (Or.inl ⟨by rfl, ?_⟩) HT0.out ?_
                      · intro w' hw'
                        obtain ⟨t0, t1, t2, t3, t4⟩ := hw'
                        go_simp
                      try simp only [Act.put, List.setIfInBounds_toArray, List.set_cons_zero, List.set_cons_succ]
                      refine AnyD.taked (i := 25) (d := 153) (v := .string new2) rfl rfl (by kernel_rfl) (by kernel_rfl) (by kernel_rfl) rfl (by kernel_rfl) (fun _ _ _ h => h) (Or.inl ⟨by rfl, ?_⟩) HT0.out ?_
                      · intro w' hw'
                        obtain ⟨t0, t1, t2, t3, t4⟩ := hw'
                        go_simp
                      try simp only [Act.put, List.setIfInBounds_toArray, List.set_cons_zero, List.set_cons_succ]
                      refine AnyD.taked (i := 26) (d := 154) (v := .agg #[.string ka, .bool had1, .bool has2, .string old1, .string new2]) rfl rfl (by kernel_rfl) (by kernel_rfl) (by kernel_rfl) rfl (by kernel_rfl) (fun _ _ _ h => h) (Or.inl ⟨by rfl, ?_⟩) HT0.out ?_
                      · intro w' hw'
                        obtain ⟨t0, t1, t2, t3, t4⟩ := hw'
                        go_simp
                      try simp only [Act.put, List.setIfInBounds_toArray, List.set_cons_zero, List.set_cons_succ]
                      refine AnyD.one (i := 27) (by kernel_rfl) (wpOp_of rfl fun K hK => ?_)
                      go_simp
                      refine hK _ _ ⟨fun _ => HT1.out, ?_⟩
                      clear hK K
                      try simp only [Act.put, List.setIfInBounds_toArray, List.set_cons_zero, List.set_cons_succ]
                      refine AnyD.one (i := 28) (by kernel_rfl) (wpOp_of rfl fun K hK => ?_)
                      refine ite_of9 (by rfl) ?_
                      refine wp_append_run 23 (.tmp 128) (.tmp 155) rfl rfl _ _ rfl rfl _ _ HRUN.out ?_
                      refine hK _ _ ⟨fun _ => HT2.out, ?_⟩
                      clear hK K
                      try simp only [Act.put, List.setIfInBounds_toArray]
                      refine AnyD.one (i := 29) (by kernel_rfl) (wpOp_of rfl fun K hK => ?_)
                      go_simp
                      refine hK _ _ ⟨(fun h => by cases h), ?_⟩
                      clear hK K
                      try simp only [Act.put, List.setIfInBounds_toArray, List.set_cons_zero, List.set_cons_succ]
                      refine AnyD.done (by kernel_rfl) ?_ _
                      go_wp2
                      go_roundw
                      case rel => exact ⟨(i + 1), (k + 1), n + 1, no + 1, _, a3, c3, by have := HIK.out; have := HIL.out; omega, by have := HIK.out; have := HIL.out; omega, by have := HIK.out; omega, by rw [List.length_append, ← HNO.out]; rfl, rfl, by go_num, by go_num, by go_num, HO1.out, HEQ2.out, HAL2.out, HBF.out⟩
                      case measure => have := HIK.out; have := HIL.out; simp [intOf]; omega
                    · have hd : (old2.toList == new1.toList) = false := by rw [HXE.out]; simp [hxe]
                      have HNX : Hid (composeD a b = none) := by
                        have h0 := HALL.out
                        rw [HSD.out, List.all_cons] at h0
                        unfold composeD
                        rw [if_neg (by rw [h0]; show ¬ ((false == false && decide (old2 = new1)) && _) = true; simp [hxe])]
                        exact rfl
                      clear hxe
                      go_quiet (fail)
                      
                      have hbd : Below W7.heap.size W7 (W7.drewN nq) := below_drewN2 (Below.refl _ W7) nq
                      replace HBR := hide (Below.next HBR.out hbd)
                      replace HO := hide (HO.out.below hbd)
                      generalize W7.drewN nq = W8 at *
                      clear hbd
                      go_wp2
                      rw [HQ.out]
                      exact ⟨HBR.out, .inr (.inl ⟨rfl, HNX.out, rfl⟩)⟩
          · have hsk := hkl
            have hnl : n < n1 + n2 := hnl0 (by omega)
            have hni : (n : Int) < ((n1 + n2 : Nat) : Int) := by omega
            have i0 : (0 : Int) ≤ (i : Int) := by omega
            have k0 : (0 : Int) ≤ (k : Int) := by omega
            have ii : ¬ (i : Int) < (n1 : Int) := by omega
            have ii1 : n1 ≤ i := by omega
            have ii2 : decide (n1 ≤ i) = true := decide_eq_true ii1
            have ii3 : decide (i < n1) = false := decide_eq_false (by omega)
            have kk : (k : Int) < (n2 : Int) := by omega
            have kk1 : ¬ n2 ≤ k := by omega
            have kk2 : decide (n2 ≤ k) = false := decide_eq_false kk1
            have kk3 : decide (k < n2) = true := decide_eq_true (by omega)
            have HBL : Hid (k < b.length) := by have := HN.out; show _ < _; omega
            obtain ⟨ad2, cap2, he2, hle2, hz2, hc2⟩ := HBRR.out
            obtain ⟨rfl, -, rfl⟩ : a2 = ad2 ∧ n2 = b.length ∧ c2 = cap2 := by simpa using he2
            obtain ⟨g2, o2, rfl, hd2⟩ := hc2 k HBL.out
            obtain ⟨kb, xb, hkb⟩ : ∃ z x, (b[k]'HBL.out) = (z, x) := ⟨_, _, rfl⟩
            rw [hkb] at hd2
            obtain ⟨r0, r1, r2, r3, r4⟩ := hd2
            simp only at r0 r1 r2 r3 r4
            have HKB := hide hkb
            clear hc2 hz2 he2 hle2 hkb
            have HIL := hide (And.intro hil hkl)
            clear hsk hil hkl hnl0
            go_upto_region 11 with fail
            go_quiet (fail)
            go_upto_region 14 with fail
            have hbd : Below wr.heap.size wr (wr.drewN nq) := below_drewN2 (Below.refl _ wr) nq
            replace HBR := hide (Below.next HBR.out hbd)
            replace HO := hide (HO.out.below hbd)
            replace r0 := cell_bel hbd r0
            replace r1 := cell_bel hbd r1
            replace r2 := cell_bel hbd r2
            replace r3 := cell_bel hbd r3
            replace r4 := cell_bel hbd r4
            generalize wr.drewN nq = W5 at *
            clear hbd
            go_quiet (fail)
            go_upto_region 15 with fail
            have hbd : Below W5.heap.size W5 (W5.drewN nq) := below_drewN2 (Below.refl _ W5) nq
            replace HBR := hide (Below.next HBR.out hbd)
            replace HO := hide (HO.out.below hbd)
            replace r0 := cell_bel hbd r0
            replace r1 := cell_bel hbd r1
            replace r2 := cell_bel hbd r2
            replace r3 := cell_bel hbd r3
            replace r4 := cell_bel hbd r4
            generalize W5.drewN nq = W7 at *
            clear hbd
            have HEQ2 : Hid ((out ++ [(kb, xb)]) ++ jL (side (a.drop i) (b.drop (k + 1))) = jL (side a b)) := by have h0 := HEQ.out; rw [side_new a b i k HBL.out (fun hk => by have := HN.out; have := HIL.out; omega), HKB.out, jL, List.map_cons, ← List.singleton_append, ← List.append_assoc] at h0; exact h0
            have HAL2 : Hid ((side a b).all (fun e => okJ e.2) = (side (a.drop i) (b.drop (k + 1))).all (fun e => okJ e.2)) := by have h0 := HALL.out; rw [side_new a b i k HBL.out (fun hk => by have := HN.out; have := HIL.out; omega), HKB.out, List.all_cons] at h0; rw [h0]; exact rfl
            have HLEN := hide (len_jL HEQ2.out HS.out rfl)
            obtain ⟨a3, c3, W6, hrun, hown1, hgr⟩ := push_chs w.heap.size _ out (kb, xb) 44 W7 no HNO.out.symm HO.out (by have := HLEN.out; rw [← HNO.out] at this; exact this) HBR.out.size
            simp only [chC] at hrun hgr
            have HO1 := hide hown1
            have HG := hide hgr
            clear hown1 hgr
            go_wp2_with (first | (at_builtin; refine wpList_append_run 23 rfl (.tmp 95) (.tmp 100) rfl rfl _ _ rfl rfl _ _ hrun ?_))
            clear hrun
            have HBF : Hid (Below w.heap.size w W6) := bel_but HBR.out (((But.refl w.heap.size (fun _ => true) W7).alloc _).grown HG.out (fun b o hb ho => ⟨(HO.out.blk b hb).1, rfl⟩)) (Nat.le_refl _)
            go_wp2
            go_roundw
            case rel => exact ⟨i, (k + 1), n + 1, no + 1, _, a3, c3, by have := HIK.out; omega, by have := HIK.out; omega, by have := HIK.out; omega, by rw [List.length_append, ← HNO.out]; rfl, rfl, by go_num, by go_num, by go_num, HO1.out, HEQ2.out, HAL2.out, HBF.out⟩
            case measure => have := HIK.out; simp [intOf]; omega
        · by_cases hil : i < n1
          · have hsk := hkl
            have hnl : n < n1 + n2 := hnl0 (by omega)
            have hni : (n : Int) < ((n1 + n2 : Nat) : Int) := by omega
            have i0 : (0 : Int) ≤ (i : Int) := by omega
            have k0 : (0 : Int) ≤ (k : Int) := by omega
            have ii : (i : Int) < (n1 : Int) := by omega
            have ii1 : ¬ n1 ≤ i := by omega
            have ii2 : decide (n1 ≤ i) = false := decide_eq_false ii1
            have ii3 : decide (i < n1) = true := decide_eq_true (by omega)
            have kk : ¬ (k : Int) < (n2 : Int) := by omega
            have kk1 : n2 ≤ k := by omega
            have kk2 : decide (n2 ≤ k) = true := decide_eq_true kk1
            have kk3 : decide (k < n2) = false := decide_eq_false (by omega)
            have HAL : Hid (i < a.length) := by have := HN.out; show _ < _; omega
            obtain ⟨ad1, cap1, he1, hle1, hz1, hc1⟩ := HAR.out
            obtain ⟨rfl, -, rfl⟩ : a1 = ad1 ∧ n1 = a.length ∧ c1 = cap1 := by simpa using he1
            obtain ⟨g1, o1, rfl, hd1⟩ := hc1 i HAL.out
            obtain ⟨ka, xa, hka⟩ : ∃ k x, (a[i]'HAL.out) = (k, x) := ⟨_, _, rfl⟩
            rw [hka] at hd1
            obtain ⟨p0, p1, p2, p3, p4⟩ := hd1
            simp only at p0 p1 p2 p3 p4
            have HKA := hide hka
            clear hc1 hz1 he1 hle1 hka
            have HIL := hide (And.intro hil hkl)
            clear hsk hil hkl hnl0
            go_upto_region 11 with fail
            go_quiet (fail)
            go_upto_region 12 with fail
            have hbd : Below wr.heap.size wr (wr.drewN nq) := below_drewN2 (Below.refl _ wr) nq
            replace HBR := hide (Below.next HBR.out hbd)
            replace HO := hide (HO.out.below hbd)
            replace p0 := cell_bel hbd p0
            replace p1 := cell_bel hbd p1
            replace p2 := cell_bel hbd p2
            replace p3 := cell_bel hbd p3
            replace p4 := cell_bel hbd p4
            generalize wr.drewN nq = W5 at *
            clear hbd
            have HEQ2 : Hid ((out ++ [(ka, xa)]) ++ jL (side (a.drop (i + 1)) (b.drop k)) = jL (side a b)) := by have h0 := HEQ.out; rw [side_old a b i k HAL.out (fun hk => by have := HN.out; have := HIL.out; omega), HKA.out, jL, List.map_cons, ← List.singleton_append, ← List.append_assoc] at h0; exact h0
            have HAL2 : Hid ((side a b).all (fun e => okJ e.2) = (side (a.drop (i + 1)) (b.drop k)).all (fun e => okJ e.2)) := by have h0 := HALL.out; rw [side_old a b i k HAL.out (fun hk => by have := HN.out; have := HIL.out; omega), HKA.out, List.all_cons] at h0; rw [h0]; exact rfl
            have HLEN := hide (len_jL HEQ2.out HS.out rfl)
            obtain ⟨a3, c3, W6, hrun, hown1, hgr⟩ := push_chs w.heap.size _ out (ka, xa) 44 W5 no HNO.out.symm HO.out (by have := HLEN.out; rw [← HNO.out] at this; exact this) HBR.out.size
            simp only [chC] at hrun hgr
            have HO1 := hide hown1
            have HG := hide hgr
            clear hown1 hgr
            go_wp2_with (first | (at_builtin; refine wpList_append_run 23 rfl (.tmp 69) (.tmp 74) rfl rfl _ _ rfl rfl _ _ hrun ?_))
            clear hrun
            have HBF : Hid (Below w.heap.size w W6) := bel_but HBR.out (((But.refl w.heap.size (fun _ => true) W5).alloc _).grown HG.out (fun b o hb ho => ⟨(HO.out.blk b hb).1, rfl⟩)) (Nat.le_refl _)
            go_wp2
            go_roundw
            case rel => exact ⟨(i + 1), k, n + 1, no + 1, _, a3, c3, by have := HIK.out; omega, by have := HIK.out; omega, by have := HIK.out; omega, by rw [List.length_append, ← HNO.out]; rfl, rfl, by go_num, by go_num, by go_num, HO1.out, HEQ2.out, HAL2.out, HBF.out⟩
            case measure => have := HIK.out; simp [intOf]; omega
          · have hin : i = n1 := by omega
            have hkn : k = n2 := by omega
            have HFI : Hid (out = jL (side a b) ∧ (side a b).all (fun e => okJ e.2) = true) := by
              have h1 : a.drop i = [] := List.drop_eq_nil_of_le (by have := HN.out; omega)
              have h2 : b.drop k = [] := List.drop_eq_nil_of_le (by have := HN.out; omega)
              have h3 : side ([] : List Ch) ([] : List Ch) = [] := by unfold side; rfl
              have h4 := HEQ.out
              have h5 := HALL.out
              rw [h1, h2, h3] at h4 h5
              refine ⟨by simpa [jL] using h4, by rw [h5]; rfl⟩
            have ii : ¬ (i : Int) < (n1 : Int) := by omega
            have kk : ¬ (k : Int) < (n2 : Int) := by omega
            have HNOL : Hid ((no + 1) * 56 ≤ 140737488355328) := by
              have h1 : out.length ≤ a.length + b.length := by rw [HFI.out.1, jL, List.length_map]; exact side_len a b
              have := HNO.out
              have := HS.out
              refine Nat.le_trans (Nat.mul_le_mul_right 56 ?_) HS.out
              omega
            clear hin hkn hnl0 hil hkl
            by_cases hnn' : n < n1 + n2
            · have hni : (n : Int) < ((n1 + n2 : Nat) : Int) := by omega
              clear hnn'
              go_wp2_with fail
              generalize wr = W9 at *
              go_loopw [12, 13] (fun v z wr => ∃ (q n2' : Nat) (x : Option Addr) (c9 : Nat), q ≤ no ∧ z = .int .i64 (q : Int) ∧ v = .slice x n2' c9 ∧ n2' = (fm actV (out.take q)).length ∧ n2' ≤ q ∧ ChO wr W9.heap.size (.slice x n2' c9) (fm actV (out.take q)) ∧ Below W9.heap.size W9 wr) (fun _ z _ => no - (intOf z).toNat)
              case atStart => exact ⟨0, 0, none, 0, Nat.zero_le _, rfl, rfl, rfl, Nat.le_refl _, ChO.nil _ _, Below.refl _ _⟩
              case round =>
                obtain ⟨q, m2, x, c9, hq, rfl, rfl, hm2, hmq, hown, hb9⟩ := hrel
                have HM2 := hide hm2
                have HMQ := hide hmq
                have HOW := hide hown
                have HB9 := hide hb9
                have HOL := hide (HO.out.below hb9)
                clear hm2 hmq hown hb9
                by_cases hqn : q < no
                · have hqI : (q : Int) < (no : Int) := by omega
                  have q0 : (0 : Int) ≤ (q : Int) := by omega
                  have qM : (q : Int) + 1 ≤ 140737488355328 := by have := HNOL.out; omega
                  have HQL : Hid (q < out.length) := by have := HNO.out; show _ < _; omega
                  obtain ⟨ad5, cap5, he5, hle5, hz5, hc5⟩ := HOL.out.at
                  obtain ⟨rfl, -, rfl⟩ : a' = ad5 ∧ no = out.length ∧ c' = cap5 := by simpa using he5
                  obtain ⟨g5, o5, rfl, hd5⟩ := hc5 q HQL.out
                  obtain ⟨kq, xq, hkq⟩ : ∃ z x, (out[q]'HQL.out) = (z, x) := ⟨_, _, rfl⟩
                  rw [hkq] at hd5
                  obtain ⟨s0, s1, s2, s3, s4⟩ := hd5
                  simp only at s0 s1 s2 s3 s4
                  have HTK : Hid (fm actV (out.take (q + 1)) = fm actV (out.take q) ++ actL kq xq) := by
                    show _ = _
                    rw [List.take_succ_eq_append_getElem HQL.out, hkq, fm_app9]
                    have : fm actV [(kq, xq)] = actL kq xq := by rw [fm_cons, fm_nil, List.append_nil]; unfold actL; cases actV xq <;> rfl
                    rw [this]
                  have HID := hide (ridle_any kq xq wr)
                  simp only [chA] at HID
                  have HQN := hide hqn
                  clear hc5 hz5 he5 hle5 hkq hqn hq
                  go_wp2_with fail
                  refine HID.out.mono ?_
                  rintro e V1 ⟨rfl, hg⟩
                  have t0 := cell_bel hg s0
                  have t1 := cell_bel hg s1
                  have t2 := cell_bel hg s2
                  have t3 := cell_bel hg s3
                  have t4 := cell_bel hg s4
                  have HV1 := hide (Below.next HB9.out hg)
                  have HOV := hide (HOW.out.below hg)
                  clear hg s0 s1 s2 s3 s4 HID HOW
                  cases hidl : idleV xq with
                  | true =>
                    have HT2 : Hid (fm actV (out.take (q + 1)) = fm actV (out.take q)) := by show _ = _; rw [HTK.out, actL_idle kq xq hidl, List.append_nil]
                    go_wp2
                    go_roundw
                    case rel => have := HQN.out; exact ⟨q + 1, m2, x, c9, by omega, by go_num, rfl, by rw [HT2.out]; exact HM2.out, by have := HMQ.out; omega, by rw [HT2.out]; exact HOV.out, HV1.out⟩
                    case measure => have := HQN.out; simp [intOf]; omega
                  | false =>
                    obtain ⟨a3, c3, W6, hrun, hown1, hgr⟩ := push_chs W9.heap.size _ (fm actV (out.take q)) (kq, xq) 44 V1 m2 HM2.out.symm HOV.out (by have := HNOL.out; have := HMQ.out; have := HQN.out; omega) HV1.out.size
                    simp only [chC] at hrun hgr
                    have HT2 : Hid (fm actV (out.take (q + 1)) = fm actV (out.take q) ++ [(kq, xq)]) := by show _ = _; rw [HTK.out, actL_act kq xq hidl]
                    have HO1 := hide hown1
                    have HBF : Hid (Below W9.heap.size W9 W6) := (HV1.out.alloc HV1.out.size _).grown hgr (Nat.le_trans HV1.out.size (below_new V1 _).size) (fun z hz => (HOV.out.blk z hz).1)
                    have HRUN := hide hrun
                    clear hown1 hgr hrun
                    go_wp2_with (first | (at_builtin; refine wpList_append_run 23 rfl (.tmp 174) (.tmp 179) rfl rfl _ _ rfl rfl _ _ HRUN.out ?_))
                    go_wp2
                    go_roundw
                    case rel => have := HQN.out; exact ⟨q + 1, m2 + 1, a3, c3, by omega, by go_num, rfl, by rw [HT2.out, List.length_append, ← HM2.out]; rfl, by have := HMQ.out; omega, by rw [HT2.out]; exact HO1.out, HBF.out⟩
                    case measure => have := HQN.out; simp [intOf]; omega
                · have hqe : q = no := by omega
                  subst hqe
                  have hqI : ¬ (q : Int) < (q : Int) := by omega
                  have HEND : Hid (composeD a b = some (fm actV (out.take q))) := by
                    show _ = _
                    unfold composeD
                    rw [if_pos HFI.out.2, HNO.out, List.take_length, HFI.out.1, fm_jL]
                  have HFB : Hid (Below w.heap.size w wr) := HBR.out.trans (HB9.out.mono HBR.out.size)
                  have HFO : Hid (ChO wr w.heap.size (.slice x m2 c9) (fm actV (out.take q))) := HOW.out.mono HBR.out.size
                  go_wp2
                  rw [HQ.out]
                  exact ⟨HFB.out, .inr (.inr ⟨rfl, _, _, HEND.out, rfl, HFO.out⟩)⟩
            · have hni : ¬ (n : Int) < ((n1 + n2 : Nat) : Int) := by omega
              clear hnn'
              go_wp2_with fail
              generalize wr = W9 at *
              go_loopw [12, 13] (fun v z wr => ∃ (q n2' : Nat) (x : Option Addr) (c9 : Nat), q ≤ no ∧ z = .int .i64 (q : Int) ∧ v = .slice x n2' c9 ∧ n2' = (fm actV (out.take q)).length ∧ n2' ≤ q ∧ ChO wr W9.heap.size (.slice x n2' c9) (fm actV (out.take q)) ∧ Below W9.heap.size W9 wr) (fun _ z _ => no - (intOf z).toNat)
              case atStart => exact ⟨0, 0, none, 0, Nat.zero_le _, rfl, rfl, rfl, Nat.le_refl _, ChO.nil _ _, Below.refl _ _⟩
              case round =>
                obtain ⟨q, m2, x, c9, hq, rfl, rfl, hm2, hmq, hown, hb9⟩ := hrel
                have HM2 := hide hm2
                have HMQ := hide hmq
                have HOW := hide hown
                have HB9 := hide hb9
                have HOL := hide (HO.out.below hb9)
                clear hm2 hmq hown hb9
                by_cases hqn : q < no
                · have hqI : (q : Int) < (no : Int) := by omega
                  have q0 : (0 : Int) ≤ (q : Int) := by omega
                  have qM : (q : Int) + 1 ≤ 140737488355328 := by have := HNOL.out; omega
                  have HQL : Hid (q < out.length) := by have := HNO.out; show _ < _; omega
                  obtain ⟨ad5, cap5, he5, hle5, hz5, hc5⟩ := HOL.out.at
                  obtain ⟨rfl, -, rfl⟩ : a' = ad5 ∧ no = out.length ∧ c' = cap5 := by simpa using he5
                  obtain ⟨g5, o5, rfl, hd5⟩ := hc5 q HQL.out
                  obtain ⟨kq, xq, hkq⟩ : ∃ z x, (out[q]'HQL.out) = (z, x) := ⟨_, _, rfl⟩
                  rw [hkq] at hd5
                  obtain ⟨s0, s1, s2, s3, s4⟩ := hd5
                  simp only at s0 s1 s2 s3 s4
                  have HTK : Hid (fm actV (out.take (q + 1)) = fm actV (out.take q) ++ actL kq xq) := by
                    show _ = _
                    rw [List.take_succ_eq_append_getElem HQL.out, hkq, fm_app9]
                    have : fm actV [(kq, xq)] = actL kq xq := by rw [fm_cons, fm_nil, List.append_nil]; unfold actL; cases actV xq <;> rfl
                    rw [this]
                  have HID := hide (ridle_any kq xq wr)
                  simp only [chA] at HID
                  have HQN := hide hqn
                  clear hc5 hz5 he5 hle5 hkq hqn hq
                  go_wp2_with fail
                  refine HID.out.mono ?_
                  rintro e V1 ⟨rfl, hg⟩
                  have t0 := cell_bel hg s0
                  have t1 := cell_bel hg s1
                  have t2 := cell_bel hg s2
                  have t3 := cell_bel hg s3
                  have t4 := cell_bel hg s4
                  have HV1 := hide (Below.next HB9.out hg)
                  have HOV := hide (HOW.out.below hg)
                  clear hg s0 s1 s2 s3 s4 HID HOW
                  cases hidl : idleV xq with
                  | true =>
                    have HT2 : Hid (fm actV (out.take (q + 1)) = fm actV (out.take q)) := by show _ = _; rw [HTK.out, actL_idle kq xq hidl, List.append_nil]
                    go_wp2
                    go_roundw
                    case rel => have := HQN.out; exact ⟨q + 1, m2, x, c9, by omega, by go_num, rfl, by rw [HT2.out]; exact HM2.out, by have := HMQ.out; omega, by rw [HT2.out]; exact HOV.out, HV1.out⟩
                    case measure => have := HQN.out; simp [intOf]; omega
                  | false =>
                    obtain ⟨a3, c3, W6, hrun, hown1, hgr⟩ := push_chs W9.heap.size _ (fm actV (out.take q)) (kq, xq) 44 V1 m2 HM2.out.symm HOV.out (by have := HNOL.out; have := HMQ.out; have := HQN.out; omega) HV1.out.size
                    simp only [chC] at hrun hgr
                    have HT2 : Hid (fm actV (out.take (q + 1)) = fm actV (out.take q) ++ [(kq, xq)]) := by show _ = _; rw [HTK.out, actL_act kq xq hidl]
                    have HO1 := hide hown1
                    have HBF : Hid (Below W9.heap.size W9 W6) := (HV1.out.alloc HV1.out.size _).grown hgr (Nat.le_trans HV1.out.size (below_new V1 _).size) (fun z hz => (HOV.out.blk z hz).1)
                    have HRUN := hide hrun
                    clear hown1 hgr hrun
                    go_wp2_with (first | (at_builtin; refine wpList_append_run 23 rfl (.tmp 174) (.tmp 179) rfl rfl _ _ rfl rfl _ _ HRUN.out ?_))
                    go_wp2
                    go_roundw
                    case rel => have := HQN.out; exact ⟨q + 1, m2 + 1, a3, c3, by omega, by go_num, rfl, by rw [HT2.out, List.length_append, ← HM2.out]; rfl, by have := HMQ.out; omega, by rw [HT2.out]; exact HO1.out, HBF.out⟩
                    case measure => have := HQN.out; simp [intOf]; omega
                · have hqe : q = no := by omega
                  subst hqe
                  have hqI : ¬ (q : Int) < (q : Int) := by omega
                  have HEND : Hid (composeD a b = some (fm actV (out.take q))) := by
                    show _ = _
                    unfold composeD
                    rw [if_pos HFI.out.2, HNO.out, List.take_length, HFI.out.1, fm_jL]
                  have HFB : Hid (Below w.heap.size w wr) := HBR.out.trans (HB9.out.mono HBR.out.size)
                  have HFO : Hid (ChO wr w.heap.size (.slice x m2 c9) (fm actV (out.take q))) := HOW.out.mono HBR.out.size
                  go_wp2
                  rw [HQ.out]
                  exact ⟨HFB.out, .inr (.inr ⟨rfl, _, _, HEND.out, rfl, HFO.out⟩)⟩
end Go.Proofs.YthnidlhcpelomaaDoor
