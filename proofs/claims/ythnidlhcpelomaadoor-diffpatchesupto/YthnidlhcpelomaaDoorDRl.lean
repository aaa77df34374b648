import Derived.Test.YthnidlhcpelomaaDoorDRr
import Derived.Deep.RegionLaw
namespace Go.Proofs.YthnidlhcpelomaaDoor
open Go.RowKit
attribute [local go_sem ↓] Go.wp_at_zero Go.wp_at_succ

theorem side_ll {α β : Type} (x : ByteArray × α) (r : KL α) (y : ByteArray × β) (s : KL β) (h : ltK x.1 y.1 = true) : side (x :: r) (y :: s) = (x.1, (some x.2, none)) :: side r (y :: s) := by simp [side, h]
theorem side_rr {α β : Type} (x : ByteArray × α) (r : KL α) (y : ByteArray × β) (s : KL β) (h : ltK y.1 x.1 = true) : side (x :: r) (y :: s) = (y.1, (none, some y.2)) :: side (x :: r) s := by have h2 := ltK_asymm h; simp [side, h, h2]
theorem side_ee {α β : Type} (x : ByteArray × α) (r : KL α) (y : ByteArray × β) (s : KL β) (e : x.1 = y.1) : side (x :: r) (y :: s) = (x.1, (some x.2, some y.2)) :: side r s := by
  have h1 : ltK x.1 y.1 = false := by rw [e]; exact ltK_irrefl _
  have h2 : ltK y.1 x.1 = false := by rw [e]; exact ltK_irrefl _
  simp [side, h1, h2]
theorem side_l0 {α β : Type} (x : ByteArray × α) (r : KL α) : side (x :: r) ([] : KL β) = (x.1, (some x.2, none)) :: side r [] := by simp [side]
theorem side_0r {α β : Type} (y : ByteArray × β) (s : KL β) : side ([] : KL α) (y :: s) = (y.1, (none, some y.2)) :: side [] s := by simp [side]
theorem side_old {α β : Type} (a : KL α) (b : KL β) (i k : Nat) (hi : i < a.length) (hb : ∀ hk : k < b.length, ltK a[i].1 b[k].1 = true) : side (a.drop i) (b.drop k) = (a[i].1, (some a[i].2, none)) :: side (a.drop (i + 1)) (b.drop k) := by
  rw [List.drop_eq_getElem_cons hi]
  by_cases hk : k < b.length
  · rw [List.drop_eq_getElem_cons hk]
    exact side_ll _ _ _ _ (hb hk)
  · rw [List.drop_eq_nil_of_le (show b.length ≤ k from Nat.le_of_not_lt hk)]
    exact side_l0 _ _
theorem side_new {α β : Type} (a : KL α) (b : KL β) (i k : Nat) (hk : k < b.length) (hb : ∀ hi : i < a.length, ltK b[k].1 a[i].1 = true) : side (a.drop i) (b.drop k) = (b[k].1, (none, some b[k].2)) :: side (a.drop i) (b.drop (k + 1)) := by
  rw [List.drop_eq_getElem_cons hk]
  by_cases hi : i < a.length
  · rw [List.drop_eq_getElem_cons hi]
    exact side_rr _ _ _ _ (hb hi)
  · rw [List.drop_eq_nil_of_le (show a.length ≤ i from Nat.le_of_not_lt hi)]
    exact side_0r _ _
theorem side_both {α β : Type} (a : KL α) (b : KL β) (i k : Nat) (hi : i < a.length) (hk : k < b.length) (e : a[i].1 = b[k].1) : side (a.drop i) (b.drop k) = (a[i].1, (some a[i].2, some b[k].2)) :: side (a.drop (i + 1)) (b.drop (k + 1)) := by
  rw [List.drop_eq_getElem_cons hi, List.drop_eq_getElem_cons hk]
  exact side_ee _ _ _ _ e
abbrev fL (l : KL (Option ByteArray × Option ByteArray)) : List Ch := fm (fun e => actV (chgV e.1 e.2)) l
theorem fL_old (k x : ByteArray) (r) : fL ((k, (some x, none)) :: r) = [(k, ⟨true, false, x, ⟨#[]⟩⟩)] ++ fL r := by
  have h2 : actV (chgV (some x) none) = some ⟨true, false, x, ⟨#[]⟩⟩ := act_diff (by simp)
  show fm (fun e : Option ByteArray × Option ByteArray => actV (chgV e.1 e.2)) _ = _
  rw [fm_cons]
  simp only [h2]
theorem fL_new (k y : ByteArray) (r) : fL ((k, (none, some y)) :: r) = [(k, ⟨false, true, ⟨#[]⟩, y⟩)] ++ fL r := by
  have h2 : actV (chgV none (some y)) = some ⟨false, true, ⟨#[]⟩, y⟩ := act_diff (by simp)
  show fm (fun e : Option ByteArray × Option ByteArray => actV (chgV e.1 e.2)) _ = _
  rw [fm_cons]
  simp only [h2]
theorem fL_both (k x y : ByteArray) (r) (h : ¬ x = y) : fL ((k, (some x, some y)) :: r) = [(k, ⟨true, true, x, y⟩)] ++ fL r := by
  show fm (fun e : Option ByteArray × Option ByteArray => actV (chgV e.1 e.2)) _ = _
  have h2 : actV (chgV (some x) (some y)) = some ⟨true, true, x, y⟩ := act_diff (by simpa using h)
  rw [fm_cons]
  simp only [h2]
theorem fL_same (k x : ByteArray) (r) : fL ((k, (some x, some x)) :: r) = fL r := by
  show fm (fun e : Option ByteArray × Option ByteArray => actV (chgV e.1 e.2)) _ = _
  rw [fm_cons]
  simp only [act_same]
  rfl
theorem step_app2 {ops : Array Oper} {o : Oper} {a : Act} {w : World} {K : Act → World → Prop} {Q : Exit → Act → World → Prop} {E : Prop} (t : TypeId) (hgd : o.guard = none) (d x : Operand)
    (ho : o.op = .call { callee := .builtin .append, args := #[d, x], argTypes := #[t, t] }) (hty : o.type = t) (vd vx : Value) (hd : a.eval d = vd) (hx : a.eval x = vx) (v : Value) (w' : World)
    (hrun : (Builtin.append_ #[t, t] t #[vd, vx]).run Tryd.prog w = .ok v w') (h : K (a.put o.dst v) w') : if Region.wanted o (yielded ops a.tmps) = true then Oper.wp Tryd.prog o a w K Q else E := by
  have hw : Region.wanted o (yielded ops a.tmps) = true := by simp [Region.wanted, hgd]
  rw [if_pos hw]
  unfold Oper.wp
  simp [execOp, ho, resolve, invoke, builtin, hd, hx, hty, hrun, Result.andThen]
  exact h
set_option maxRecDepth 100000 in
set_option maxHeartbeats 16000000 in
theorem rlists_any (va vb : Value) (a b : List Pr) (w : World) (hA : PrR w va a) (hB : PrR w vb b) (hn : (a.length + b.length + 1) * 56 ≤ 140737488355328) :
    Calls Tryd.prog 9 #[va, vb] w fun e w' => Below w.heap.size w w' ∧ (((riseB a && riseB b) = false ∧ e = .returned (.tuple #[.slice none 0 0, .int .i64 12])) ∨ ((riseB a && riseB b) = true ∧ ∃ v, e = .returned (.tuple #[v, .int .i64 0]) ∧ ChO w' w.heap.size v (listsD a b))) := by
  have HRA : Hid (∀ W, Below w.heap.size w W → Calls Tryd.prog 32 #[va] W fun e w' => e = .returned (.bool (riseB a)) ∧ Below W.heap.size W w') := fun W hb => rprise_any va a W (by omega) (hA.below hb)
  have HRB : Hid (∀ W, Below w.heap.size w W → Calls Tryd.prog 32 #[vb] W fun e w' => e = .returned (.bool (riseB b)) ∧ Below W.heap.size W w') := fun W hb => rprise_any vb b W (by omega) (hB.below hb)
  obtain ⟨a1, c1, rfl⟩ : ∃ a1 c1, va = .slice a1 a.length c1 := by obtain ⟨x, y, h, _⟩ := hA; exact ⟨x, y, h⟩
  obtain ⟨a2, c2, rfl⟩ : ∃ a2 c2, vb = .slice a2 b.length c2 := by obtain ⟨x, y, h, _⟩ := hB; exact ⟨x, y, h⟩
  obtain ⟨n1, hn1⟩ : ∃ n, n = a.length := ⟨_, rfl⟩
  obtain ⟨n2, hn2⟩ : ∃ n, n = b.length := ⟨_, rfl⟩
  rw [← hn1] at hA HRA ⊢
  rw [← hn2] at hB HRB ⊢
  have hm1 : n1 ≤ 140737488355328 := by omega
  have hm2 : n2 ≤ 140737488355328 := by omega
  have HN := hide (And.intro hn1 hn2)
  have HS := hide hn
  have HPA := hide hA
  have HPB := hide hB
  obtain ⟨ra, hra⟩ : ∃ r, r = riseB a := ⟨_, rfl⟩
  obtain ⟨rb, hrb⟩ : ∃ r, r = riseB b := ⟨_, rfl⟩
  rw [← hra] at HRA ⊢
  rw [← hrb] at HRB ⊢
  obtain ⟨Q, hQ⟩ : ∃ Q : Ending → World → Prop, Q = fun e w' => Below w.heap.size w w' ∧ (((ra && rb) = false ∧ e = .returned (.tuple #[.slice none 0 0, .int .i64 12])) ∨ ((ra && rb) = true ∧ ∃ v, e = .returned (.tuple #[v, .int .i64 0]) ∧ ChO w' w.heap.size v (listsD a b))) := ⟨_, rfl⟩
  rw [← hQ]
  have HQ := hide hQ
  have hsum : IntKind.i64.wrap ((n1 : Int) + (n2 : Int)) = ((n1 + n2 : Nat) : Int) := by rw [IntKind.wrap_i64]; omega
  clear hn1 hn2 hn hA hB hra hrb hQ
  go_enter Tryd.func9, Tryd.ntmps9
  go_wp2_with fail
  refine (HRA.out w (Below.refl _ _)).mono ?_
  rintro e W1 ⟨rfl, hb1⟩
  have HB1 := hide hb1
  clear hb1
  go_wp2_with fail
  refine (HRB.out W1 HB1.out).mono ?_
  rintro e W2 ⟨rfl, hb2⟩
  have HB2 := hide (Below.next HB1.out hb2)
  clear hb2
  cases ra with
  | false =>
    go_wp2
    rw [HQ.out]
    exact ⟨HB2.out, .inl ⟨rfl, rfl⟩⟩
  | true =>
    cases rb with
    | false =>
      go_wp2
      rw [HQ.out]
      exact ⟨HB2.out, .inl ⟨rfl, rfl⟩⟩
    | true =>
      go_wp2
      go_loopw [8, 9, 10, 11] (fun u v x z wr => ∃ (i k n no : Nat) (out : List Ch) (a' : Option Addr) (c' : Nat), i ≤ n1 ∧ k ≤ n2 ∧ n ≤ i + k ∧ no = out.length ∧ u = .slice a' no c' ∧ v = .int .i64 (i : Int) ∧ x = .int .i64 (k : Int) ∧ z = .int .i64 (n : Int) ∧ ChO wr w.heap.size u out ∧ out ++ fL (side (a.drop i) (b.drop k)) = fL (side a b) ∧ Below w.heap.size w wr) (fun _ _ _ z _ => n1 + n2 + 1 - (intOf z).toNat)
      case atStart => exact ⟨0, 0, 0, 0, [], none, 0, Nat.zero_le _, Nat.zero_le _, Nat.zero_le _, rfl, rfl, rfl, rfl, rfl, ChO.nil _ _, rfl, HB2.out⟩
      case round =>
        obtain ⟨i, k, n, no, out, a', c', hi, hk, hnn, hno, rfl, rfl, rfl, rfl, hown, heq, hb⟩ := hrel
        have HO := hide hown
        have HEQ := hide heq
        have HBR := hide hb
        have HNO := hide hno
        have HIK := hide (And.intro hi (And.intro hk hnn))
        have HAR := hide (HPA.out.below hb)
        have HBRR := hide (HPB.out.below hb)
        clear hown heq hb hno
        have hnl0 : i < n1 ∨ k < n2 → n < n1 + n2 := fun h => by omega
        by_cases hkl : k < n2
        · by_cases hil : i < n1
          · have hsk := hkl
            have hnl : n < n1 + n2 := hnl0 (by omega)
            have hni : (n : Int) < ((n1 + n2 : Nat) : Int) := by omega
            have i0 : (0 : Int) ≤ (i : Int) := by omega
            have k0 : (0 : Int) ≤ (k : Int) := by omega
            have ii : (i : Int) < (n1 : Int) := by omega
            have ii1 : ¬ n1 ≤ i := by omega
            have ii2 : decide (n1 ≤ i) = false := decide_eq_false ii1
            have ii3 : decide (i < n1) = true := decide_eq_true (by omega)
            have kk : (k : Int) < (n2 : Int) := by omega
            have kk1 : ¬ n2 ≤ k := by omega
            have kk2 : decide (n2 ≤ k) = false := decide_eq_false kk1
            have kk3 : decide (k < n2) = true := decide_eq_true (by omega)
            have HAL : Hid (i < a.length) := by have := HN.out; show _ < _; omega
            obtain ⟨ad1, cap1, he1, hle1, hz1, hc1⟩ := HAR.out
            obtain ⟨rfl, -, rfl⟩ : a1 = ad1 ∧ n1 = a.length ∧ c1 = cap1 := by simpa using he1
            obtain ⟨g1, o1, rfl, p0, p1⟩ := hc1 i HAL.out
            obtain ⟨ka, hka⟩ : ∃ k, k = (a[i]'HAL.out).1 := ⟨_, rfl⟩
            obtain ⟨xa, hxa⟩ : ∃ k, k = (a[i]'HAL.out).2 := ⟨_, rfl⟩
            rw [← hka] at p0
            rw [← hxa] at p1
            have HKA := hide (And.intro hka hxa)
            clear hc1 hz1 he1 hle1 hka hxa
            have HBL : Hid (k < b.length) := by have := HN.out; show _ < _; omega
            obtain ⟨ad2, cap2, he2, hle2, hz2, hc2⟩ := HBRR.out
            obtain ⟨rfl, -, rfl⟩ : a2 = ad2 ∧ n2 = b.length ∧ c2 = cap2 := by simpa using he2
            obtain ⟨g2, o2, rfl, r0, r1⟩ := hc2 k HBL.out
            obtain ⟨kb, hkb⟩ : ∃ z, z = (b[k]'HBL.out).1 := ⟨_, rfl⟩
            obtain ⟨xb, hxb⟩ : ∃ z, z = (b[k]'HBL.out).2 := ⟨_, rfl⟩
            rw [← hkb] at r0
            rw [← hxb] at r1
            have HKB := hide (And.intro hkb hxb)
            clear hc2 hz2 he2 hle2 hkb hxb
            have HIL := hide (And.intro hil hkl)
            clear hsk hil hkl hnl0
            go_upto_region 11 with fail
            cases hlt : Op.bytesLess ka.toList kb.toList with
            | true =>
              have HLT := hide hlt
              go_quiet (fail)
              go_upto_region 12 with fail
              have hbd : Below wr.heap.size wr (wr.drewN nq) := below_drewN2 (Below.refl _ wr) nq
              have HBR := hide (Below.next HBR.out hbd)
              have HO := hide (HO.out.below hbd)
              have p0 := cell_bel hbd p0
              have p1 := cell_bel hbd p1
              have r0 := cell_bel hbd r0
              have r1 := cell_bel hbd r1
              generalize wr.drewN nq = W5 at *
              clear hbd
              have HBD : Hid (Below W5.heap.size W5 W5.drew) := (Below.refl _ W5).drew
              have HEQ2 : Hid ((out ++ [(ka, ⟨true, false, xa, ⟨#[]⟩⟩)]) ++ fL (side (a.drop (i + 1)) (b.drop k)) = fL (side a b)) := by have h0 := HEQ.out; rw [side_old a b i k HAL.out (fun hk => by rw [← HKA.out.1, ← HKB.out.1]; exact HLT.out), ← HKA.out.1, ← HKA.out.2, fL_old, ← List.append_assoc] at h0; exact h0
              have HLEN := hide (len_out HEQ2.out HS.out)
              obtain ⟨a3, c3, W6, hrun, hown1, hgr⟩ := push_chs w.heap.size _ out (ka, ⟨true, false, xa, ⟨#[]⟩⟩) 44 W5.drew no HNO.out.symm (HO.out.below HBD.out) (by have := HLEN.out; rw [← HNO.out] at this; exact this) (Nat.le_trans HBR.out.size HBD.out.size)
              simp only [chC] at hrun hgr
              have HRUN := hide hrun
              have HO1 := hide hown1
              have HG := hide hgr
              clear hrun hown1 hgr
              go_region_law (first | (refine step_app2 23 (by rfl) (.tmp 66) (.tmp 78) (by rfl) (by rfl) _ _ (by rfl) (by rfl) _ _ HRUN.out ?_))
              all_goals
                clear HRUN
                have HBF : Hid (Below w.heap.size w W6) := bel_but (Below.next HBR.out HBD.out) (((But.refl w.heap.size (fun _ => true) W5.drew).alloc _).grown HG.out (fun b o hb ho => ⟨((HO.out.below HBD.out).blk b hb).1, rfl⟩)) (Nat.le_refl _)
                go_wp2
                go_roundw
                case rel => exact ⟨(i + 1), k, n + 1, no + 1, _, a3, c3, by have := HIK.out; omega, by have := HIK.out; omega, by have := HIK.out; omega, by rw [List.length_append, ← HNO.out]; rfl, rfl, by go_num, by go_num, by go_num, HO1.out, HEQ2.out, HBF.out⟩
                case measure => have := HIK.out; simp [intOf]; omega
            | false =>
              have HLT := hide hlt
              go_quiet (fail)
              go_upto_region 14 with fail
              have hbd : Below wr.heap.size wr (wr.drewN nq) := below_drewN2 (Below.refl _ wr) nq
              have HBR := hide (Below.next HBR.out hbd)
              have HO := hide (HO.out.below hbd)
              have p0 := cell_bel hbd p0
              have p1 := cell_bel hbd p1
              have r0 := cell_bel hbd r0
              have r1 := cell_bel hbd r1
              generalize wr.drewN nq = W5 at *
              clear hbd
              cases hgt : Op.bytesLess kb.toList ka.toList with
              | true =>
                have HGT := hide hgt
                go_quiet (fail)
                go_upto_region 15 with fail
                have hbd : Below W5.heap.size W5 (W5.drewN nq) := below_drewN2 (Below.refl _ W5) nq
                have HBR := hide (Below.next HBR.out hbd)
                have HO := hide (HO.out.below hbd)
                have p0 := cell_bel hbd p0
                have p1 := cell_bel hbd p1
                have r0 := cell_bel hbd r0
                have r1 := cell_bel hbd r1
                generalize W5.drewN nq = W7 at *
                clear hbd
                have HBD : Hid (Below W7.heap.size W7 W7.drew) := (Below.refl _ W7).drew
                have HEQ2 : Hid ((out ++ [(kb, ⟨false, true, ⟨#[]⟩, xb⟩)]) ++ fL (side (a.drop i) (b.drop (k + 1))) = fL (side a b)) := by have h0 := HEQ.out; rw [side_new a b i k HBL.out (fun hk => by rw [← HKA.out.1, ← HKB.out.1]; exact HGT.out), ← HKB.out.1, ← HKB.out.2, fL_new, ← List.append_assoc] at h0; exact h0
                have HLEN := hide (len_out HEQ2.out HS.out)
                obtain ⟨a3, c3, W6, hrun, hown1, hgr⟩ := push_chs w.heap.size _ out (kb, ⟨false, true, ⟨#[]⟩, xb⟩) 44 W7.drew no HNO.out.symm (HO.out.below HBD.out) (by have := HLEN.out; rw [← HNO.out] at this; exact this) (Nat.le_trans HBR.out.size HBD.out.size)
                simp only [chC] at hrun hgr
                have HRUN := hide hrun
                have HO1 := hide hown1
                have HG := hide hgr
                clear hrun hown1 hgr
                go_region_law (first | (refine step_app2 23 (by rfl) (.tmp 99) (.tmp 111) (by rfl) (by rfl) _ _ (by rfl) (by rfl) _ _ HRUN.out ?_))
                all_goals
                  clear HRUN
                  have HBF : Hid (Below w.heap.size w W6) := bel_but (Below.next HBR.out HBD.out) (((But.refl w.heap.size (fun _ => true) W7.drew).alloc _).grown HG.out (fun b o hb ho => ⟨((HO.out.below HBD.out).blk b hb).1, rfl⟩)) (Nat.le_refl _)
                  go_wp2
                  go_roundw
                  case rel => exact ⟨i, (k + 1), n + 1, no + 1, _, a3, c3, by have := HIK.out; omega, by have := HIK.out; omega, by have := HIK.out; omega, by rw [List.length_append, ← HNO.out]; rfl, rfl, by go_num, by go_num, by go_num, HO1.out, HEQ2.out, HBF.out⟩
                  case measure => have := HIK.out; simp [intOf]; omega
              | false =>
                have HKK : Hid (ka = kb) := ltK_total HLT.out hgt
                go_quiet (fail)
                go_upto_region 17 with fail
                have hbd : Below W5.heap.size W5 (W5.drewN nq) := below_drewN2 (Below.refl _ W5) nq
                have HBR := hide (Below.next HBR.out hbd)
                have HO := hide (HO.out.below hbd)
                have p0 := cell_bel hbd p0
                have p1 := cell_bel hbd p1
                have r0 := cell_bel hbd r0
                have r1 := cell_bel hbd r1
                generalize W5.drewN nq = W7 at *
                clear hbd
                have HXE := hide (list_eq xa xb)
                by_cases hxe : xa = xb
                · have hd : (xa.toList == xb.toList) = true := by rw [HXE.out]; simp [hxe]
                  have HEQ2 : Hid (out ++ fL (side (a.drop (i + 1)) (b.drop (k + 1))) = fL (side a b)) := by have h0 := HEQ.out; rw [side_both a b i k HAL.out HBL.out (by rw [← HKA.out.1, ← HKB.out.1]; exact HKK.out), ← HKA.out.1, ← HKA.out.2, ← HKB.out.2, hxe, fL_same] at h0; exact h0
                  clear hxe
                  go_quiet (fail)
                  
                  have hbd : Below W7.heap.size W7 (W7.drewN nq) := below_drewN2 (Below.refl _ W7) nq
                  have HBR := hide (Below.next HBR.out hbd)
                  have HO := hide (HO.out.below hbd)
                  generalize W7.drewN nq = W8 at *
                  clear hbd
                  go_wp2
                  go_roundw
                  case rel => exact ⟨i + 1, k + 1, n + 1, no, out, a', c', by have := HIK.out; have := HIL.out; omega, by have := HIK.out; have := HIL.out; omega, by have := HIK.out; omega, HNO.out, rfl, by go_num, by go_num, by go_num, HO.out, HEQ2.out, HBR.out⟩
                  case measure => have := HIK.out; simp [intOf]; omega
                · have hd : (xa.toList == xb.toList) = false := by rw [HXE.out]; simp [hxe]
                  have HXX := hide hxe
                  clear hxe
                  go_quiet (fail)
                  go_upto_region 18 with fail
                  have hbd : Below W7.heap.size W7 (W7.drewN nq) := below_drewN2 (Below.refl _ W7) nq
                  have HBR := hide (Below.next HBR.out hbd)
                  have HO := hide (HO.out.below hbd)
                  have p0 := cell_bel hbd p0
                  have p1 := cell_bel hbd p1
                  have r0 := cell_bel hbd r0
                  have r1 := cell_bel hbd r1
                  generalize W7.drewN nq = W8 at *
                  clear hbd
                  have HBD : Hid (Below W8.heap.size W8 W8.drew) := (Below.refl _ W8).drew
                  have HEQ2 : Hid ((out ++ [(ka, ⟨true, true, xa, xb⟩)]) ++ fL (side (a.drop (i + 1)) (b.drop (k + 1))) = fL (side a b)) := by have h0 := HEQ.out; rw [side_both a b i k HAL.out HBL.out (by rw [← HKA.out.1, ← HKB.out.1]; exact HKK.out), ← HKA.out.1, ← HKA.out.2, ← HKB.out.2, fL_both _ _ _ _ HXX.out, ← List.append_assoc] at h0; exact h0
                  have HLEN := hide (len_out HEQ2.out HS.out)
                  obtain ⟨a3, c3, W6, hrun, hown1, hgr⟩ := push_chs w.heap.size _ out (ka, ⟨true, true, xa, xb⟩) 44 W8.drew no HNO.out.symm (HO.out.below HBD.out) (by have := HLEN.out; rw [← HNO.out] at this; exact this) (Nat.le_trans HBR.out.size HBD.out.size)
                  simp only [chC] at hrun hgr
                  have HRUN := hide hrun
                  have HO1 := hide hown1
                  have HG := hide hgr
                  clear hrun hown1 hgr
                  go_region_law (first | (refine step_app2 23 (by rfl) (.tmp 126) (.tmp 143) (by rfl) (by rfl) _ _ (by rfl) (by rfl) _ _ HRUN.out ?_))
                  all_goals
                    clear HRUN
                    have HBF : Hid (Below w.heap.size w W6) := bel_but (Below.next HBR.out HBD.out) (((But.refl w.heap.size (fun _ => true) W8.drew).alloc _).grown HG.out (fun b o hb ho => ⟨((HO.out.below HBD.out).blk b hb).1, rfl⟩)) (Nat.le_refl _)
                    go_wp2
                    go_roundw
                    case rel => exact ⟨(i + 1), (k + 1), n + 1, no + 1, _, a3, c3, by have := HIK.out; omega, by have := HIK.out; omega, by have := HIK.out; omega, by rw [List.length_append, ← HNO.out]; rfl, rfl, by go_num, by go_num, by go_num, HO1.out, HEQ2.out, HBF.out⟩
                    case measure => have := HIK.out; simp [intOf]; omega
          · have hsk := hkl
            have hnl : n < n1 + n2 := hnl0 (by omega)
            have hni : (n : Int) < ((n1 + n2 : Nat) : Int) := by omega
            have i0 : (0 : Int) ≤ (i : Int) := by omega
            have k0 : (0 : Int) ≤ (k : Int) := by omega
            have ii : ¬ (i : Int) < (n1 : Int) := by omega
            have ii1 : n1 ≤ i := by omega
            have ii2 : decide (n1 ≤ i) = true := decide_eq_true ii1
            have ii3 : decide (i < n1) = false := decide_eq_false (by omega)
            have kk : (k : Int) < (n2 : Int) := by omega
            have kk1 : ¬ n2 ≤ k := by omega
            have kk2 : decide (n2 ≤ k) = false := decide_eq_false kk1
            have kk3 : decide (k < n2) = true := decide_eq_true (by omega)
            have HBL : Hid (k < b.length) := by have := HN.out; show _ < _; omega
            obtain ⟨ad2, cap2, he2, hle2, hz2, hc2⟩ := HBRR.out
            obtain ⟨rfl, -, rfl⟩ : a2 = ad2 ∧ n2 = b.length ∧ c2 = cap2 := by simpa using he2
            obtain ⟨g2, o2, rfl, r0, r1⟩ := hc2 k HBL.out
            obtain ⟨kb, hkb⟩ : ∃ z, z = (b[k]'HBL.out).1 := ⟨_, rfl⟩
            obtain ⟨xb, hxb⟩ : ∃ z, z = (b[k]'HBL.out).2 := ⟨_, rfl⟩
            rw [← hkb] at r0
            rw [← hxb] at r1
            have HKB := hide (And.intro hkb hxb)
            clear hc2 hz2 he2 hle2 hkb hxb
            have HIL := hide (And.intro hil hkl)
            clear hsk hil hkl hnl0
            go_upto_region 11 with fail
            go_quiet (fail)
            go_upto_region 14 with fail
            have hbd : Below wr.heap.size wr (wr.drewN nq) := below_drewN2 (Below.refl _ wr) nq
            have HBR := hide (Below.next HBR.out hbd)
            have HO := hide (HO.out.below hbd)
            have r0 := cell_bel hbd r0
            have r1 := cell_bel hbd r1
            generalize wr.drewN nq = W5 at *
            clear hbd
            go_quiet (fail)
            go_upto_region 15 with fail
            have hbd : Below W5.heap.size W5 (W5.drewN nq) := below_drewN2 (Below.refl _ W5) nq
            have HBR := hide (Below.next HBR.out hbd)
            have HO := hide (HO.out.below hbd)
            have r0 := cell_bel hbd r0
            have r1 := cell_bel hbd r1
            generalize W5.drewN nq = W7 at *
            clear hbd
            have HBD : Hid (Below W7.heap.size W7 W7.drew) := (Below.refl _ W7).drew
            have HEQ2 : Hid ((out ++ [(kb, ⟨false, true, ⟨#[]⟩, xb⟩)]) ++ fL (side (a.drop i) (b.drop (k + 1))) = fL (side a b)) := by have h0 := HEQ.out; rw [side_new a b i k HBL.out (fun hk => by have := HN.out; have := HIL.out; omega), ← HKB.out.1, ← HKB.out.2, fL_new, ← List.append_assoc] at h0; exact h0
            have HLEN := hide (len_out HEQ2.out HS.out)
            obtain ⟨a3, c3, W6, hrun, hown1, hgr⟩ := push_chs w.heap.size _ out (kb, ⟨false, true, ⟨#[]⟩, xb⟩) 44 W7.drew no HNO.out.symm (HO.out.below HBD.out) (by have := HLEN.out; rw [← HNO.out] at this; exact this) (Nat.le_trans HBR.out.size HBD.out.size)
            simp only [chC] at hrun hgr
            have HRUN := hide hrun
            have HO1 := hide hown1
            have HG := hide hgr
            clear hrun hown1 hgr
            go_region_law (first | (refine step_app2 23 (by rfl) (.tmp 99) (.tmp 111) (by rfl) (by rfl) _ _ (by rfl) (by rfl) _ _ HRUN.out ?_))
            all_goals
              clear HRUN
              have HBF : Hid (Below w.heap.size w W6) := bel_but (Below.next HBR.out HBD.out) (((But.refl w.heap.size (fun _ => true) W7.drew).alloc _).grown HG.out (fun b o hb ho => ⟨((HO.out.below HBD.out).blk b hb).1, rfl⟩)) (Nat.le_refl _)
              go_wp2
              go_roundw
              case rel => exact ⟨i, (k + 1), n + 1, no + 1, _, a3, c3, by have := HIK.out; omega, by have := HIK.out; omega, by have := HIK.out; omega, by rw [List.length_append, ← HNO.out]; rfl, rfl, by go_num, by go_num, by go_num, HO1.out, HEQ2.out, HBF.out⟩
              case measure => have := HIK.out; simp [intOf]; omega
        · by_cases hil : i < n1
          · have hsk := hkl
            have hnl : n < n1 + n2 := hnl0 (by omega)
            have hni : (n : Int) < ((n1 + n2 : Nat) : Int) := by omega
            have i0 : (0 : Int) ≤ (i : Int) := by omega
            have k0 : (0 : Int) ≤ (k : Int) := by omega
            have ii : (i : Int) < (n1 : Int) := by omega
            have ii1 : ¬ n1 ≤ i := by omega
            have ii2 : decide (n1 ≤ i) = false := decide_eq_false ii1
            have ii3 : decide (i < n1) = true := decide_eq_true (by omega)
            have kk : ¬ (k : Int) < (n2 : Int) := by omega
            have kk1 : n2 ≤ k := by omega
            have kk2 : decide (n2 ≤ k) = true := decide_eq_true kk1
            have kk3 : decide (k < n2) = false := decide_eq_false (by omega)
            have HAL : Hid (i < a.length) := by have := HN.out; show _ < _; omega
            obtain ⟨ad1, cap1, he1, hle1, hz1, hc1⟩ := HAR.out
            obtain ⟨rfl, -, rfl⟩ : a1 = ad1 ∧ n1 = a.length ∧ c1 = cap1 := by simpa using he1
            obtain ⟨g1, o1, rfl, p0, p1⟩ := hc1 i HAL.out
            obtain ⟨ka, hka⟩ : ∃ k, k = (a[i]'HAL.out).1 := ⟨_, rfl⟩
            obtain ⟨xa, hxa⟩ : ∃ k, k = (a[i]'HAL.out).2 := ⟨_, rfl⟩
            rw [← hka] at p0
            rw [← hxa] at p1
            have HKA := hide (And.intro hka hxa)
            clear hc1 hz1 he1 hle1 hka hxa
            have HIL := hide (And.intro hil hkl)
            clear hsk hil hkl hnl0
            go_upto_region 11 with fail
            go_quiet (fail)
            go_upto_region 12 with fail
            have hbd : Below wr.heap.size wr (wr.drewN nq) := below_drewN2 (Below.refl _ wr) nq
            have HBR := hide (Below.next HBR.out hbd)
            have HO := hide (HO.out.below hbd)
            have p0 := cell_bel hbd p0
            have p1 := cell_bel hbd p1
            generalize wr.drewN nq = W5 at *
            clear hbd
            have HBD : Hid (Below W5.heap.size W5 W5.drew) := (Below.refl _ W5).drew
            have HEQ2 : Hid ((out ++ [(ka, ⟨true, false, xa, ⟨#[]⟩⟩)]) ++ fL (side (a.drop (i + 1)) (b.drop k)) = fL (side a b)) := by have h0 := HEQ.out; rw [side_old a b i k HAL.out (fun hk => by have := HN.out; have := HIL.out; omega), ← HKA.out.1, ← HKA.out.2, fL_old, ← List.append_assoc] at h0; exact h0
            have HLEN := hide (len_out HEQ2.out HS.out)
            obtain ⟨a3, c3, W6, hrun, hown1, hgr⟩ := push_chs w.heap.size _ out (ka, ⟨true, false, xa, ⟨#[]⟩⟩) 44 W5.drew no HNO.out.symm (HO.out.below HBD.out) (by have := HLEN.out; rw [← HNO.out] at this; exact this) (Nat.le_trans HBR.out.size HBD.out.size)
            simp only [chC] at hrun hgr
            have HRUN := hide hrun
            have HO1 := hide hown1
            have HG := hide hgr
            clear hrun hown1 hgr
            go_region_law (first | (refine step_app2 23 (by rfl) (.tmp 66) (.tmp 78) (by rfl) (by rfl) _ _ (by rfl) (by rfl) _ _ HRUN.out ?_))
            all_goals
              clear HRUN
              have HBF : Hid (Below w.heap.size w W6) := bel_but (Below.next HBR.out HBD.out) (((But.refl w.heap.size (fun _ => true) W5.drew).alloc _).grown HG.out (fun b o hb ho => ⟨((HO.out.below HBD.out).blk b hb).1, rfl⟩)) (Nat.le_refl _)
              go_wp2
              go_roundw
              case rel => exact ⟨(i + 1), k, n + 1, no + 1, _, a3, c3, by have := HIK.out; omega, by have := HIK.out; omega, by have := HIK.out; omega, by rw [List.length_append, ← HNO.out]; rfl, rfl, by go_num, by go_num, by go_num, HO1.out, HEQ2.out, HBF.out⟩
              case measure => have := HIK.out; simp [intOf]; omega
          · obtain rfl : n1 = i := by omega
            obtain rfl : n2 = k := by omega
            have HE : Hid (out = listsD a b) := by
              have h0 := HEQ.out
              have h1 := HN.out
              rw [List.drop_eq_nil_of_le (by omega), List.drop_eq_nil_of_le (by omega)] at h0
              have h2 : fL (side [] []) = [] := by simp [side, fL, fm]
              rw [h2, List.append_nil] at h0
              exact h0
            clear hnl0
            go_wp2
            all_goals
              rw [HQ.out]
              exact ⟨HBR.out, .inr ⟨rfl, _, rfl, by rw [← HE.out]; exact HO.out⟩⟩
end Go.Proofs.YthnidlhcpelomaaDoor
