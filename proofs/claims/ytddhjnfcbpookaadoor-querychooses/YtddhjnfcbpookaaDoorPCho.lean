import Derived.Test.YtddhjnfcbpookaaDoorPBnd
import Derived.Test.YtddhjnfcbpookaaDoorQChoose2
import Derived.Test.YtddhjnfcbpookaaDoorErrsG
import Derived.Test.YtddhjnfcbpookaaDoorRPack
import Derived.BigRegion
namespace Go.Proofs.YtddhjnfcbpookaaDoor
open Go.RowKit Go.Maps

set_option maxHeartbeats 4000000 in
set_option maxRecDepth 100000 in
theorem pbahead_any (fs : List Fd) (cs : List Cd) (ix : List Int) (v : Value) (b : Nat) (w : World) (hi : InsAt w v ix) (hm : BndMap w b fs cs) (hr : ∀ i ∈ ix, -9223372036854775808 ≤ i ∧ i ≤ 9223372036854775807) (hcl : ix.length ≤ 17592186044416) :
    Calls Tryd.prog 21 #[v, .map (some b)] w fun e w' => e = .returned (.int .i64 (lead fs cs ix : Nat)) ∧ Below w.heap.size w w' := by
  obtain ⟨r, hrr⟩ : ∃ r, r = lead fs cs ix := ⟨_, rfl⟩
  rw [← hrr]
  have HR := hide hrr
  obtain ⟨va, vc, hv⟩ := hi.form
  subst hv
  have HI := hide hi
  have HM := hide hm
  have HRR := hide hr
  clear hi hm hrr hr
  go_enter Tryd.func21, Tryd.ntmps21
  go_wp2_with fail
  go_loopw [11] (fun v wr => ∃ k : Nat, v = .int .i64 (k : Int) ∧ k ≤ ix.length ∧ Hid (∀ j (h : j < ix.length), j < k → boundB fs cs ix[j] = true) ∧ Below w.heap.size w wr) (fun v _ => ix.length - (intOf v).toNat)
  case atStart => exact ⟨0, rfl, Nat.zero_le _, fun j _ h => by omega, Below.refl _ _⟩
  case round =>
    obtain ⟨k, rfl, hk, hall, hbl⟩ := hrel
    have HBL := hide hbl
    by_cases hlt : k < ix.length
    · have hltI : (k : Int) < (ix.length : Int) := by omega
      have e0 : (0 : Int) ≤ (k : Int) := by omega
      obtain ⟨g, off, hga, c0⟩ := (HI.out.get k hlt)
      subst hga
      have c1 := cell_below hbl c0
      obtain ⟨D, hown, hbd⟩ := (HM.out.keep hbl).ex
      have hrg := HRR.out _ (List.getElem_mem hlt)
      have HKI := hide (keyI (ix[k]'hlt) hrg.1 hrg.2)
      have HHB := hide (hbd (ix[k]'hlt))
      have HOW := hide hown
      have HST : Hid (boundB fs cs (ix[k]'hlt) = false → r = k) := fun h => by
        rw [HR.out]; exact lead_stop fs cs ix k hk hall.out (fun _ => h)
      have HAL : Hid (boundB fs cs (ix[k]'hlt) = true → ∀ j (h : j < ix.length), j < k + 1 → boundB fs cs ix[j] = true) := fun h0 j h hj => by
        by_cases e : j = k
        · subst e; exact h0
        · exact hall.out j h (by omega)
      have HJ : Hid (k + 1 ≤ ix.length) := by show _ ≤ _; omega
      have HSZ := hbl.size
      generalize ix[k]'hlt = y at *
      clear hown hbd hrg hall c0 hbl
      obtain ⟨hb, hhb⟩ : ∃ hb, hb = boundB fs cs y := ⟨_, rfl⟩
      rw [← hhb] at HHB HST HAL
      clear hhb
      cases hb with
      | true =>
        have HA := hide (HAL.out rfl)
        clear HST HAL
        go_wp2_with (first
          | (at_lookup; refine wpList_lookup_own_it _ rfl _ _ 65 rfl Tryd.underlying65 b cs.length D rfl HOW.out _ _ rfl HKI.out ?_; intro a0 b0 t0 p0 m0 c0; rw [HHB.out])
          | fail)
        go_roundw
        case rel => exact ⟨k + 1, by go_num, HJ.out, HA.out, HBL.out.alloc HSZ _⟩
        case measure => simp [intOf]; omega
      | false =>
        have HE := hide (HST.out rfl)
        clear HST HAL
        go_wp2_with (first
          | (at_lookup; refine wpList_lookup_own_it _ rfl _ _ 65 rfl Tryd.underlying65 b cs.length D rfl HOW.out _ _ rfl HKI.out ?_; intro a0 b0 t0 p0 m0 c0; rw [HHB.out])
          | fail)
        go_ret
        exact ⟨by rw [HE.out]; rfl, HBL.out.alloc HSZ _⟩
    · have hltI : ¬ (k : Int) < (ix.length : Int) := by omega
      have hke : k = ix.length := by omega
      have HE : Hid (r = ix.length) := by
        show _ = _
        rw [HR.out, ← hke]; exact lead_stop fs cs ix k hk hall.out (fun h => absurd h hlt)
      clear hall hke hbl
      go_wp2
      go_ret
      exact ⟨by rw [HE.out]; rfl, HBL.out⟩
theorem cond_kinds (c : Cd) : condF c = 0 ∨ condF c = 1 ∨ condF c = 3 := by
  unfold condF
  split
  · exact packF_kinds _
  · exact .inr (.inl rfl)
theorem firstN_kinds : ∀ (l : List Cd), firstN condF l = 0 ∨ firstN condF l = 1 ∨ firstN condF l = 3
  | [] => .inl rfl
  | c :: l => by
    rw [firstN]
    split
    · exact firstN_kinds l
    · exact cond_kinds c
theorem qfault_kinds (q : Qd) : qfaultD q = 0 ∨ qfaultD q = 1 ∨ qfaultD q = 3 := by
  unfold qfaultD
  split
  · split
    · unfold endF
      split
      · exact .inl rfl
      · exact .inr (.inl rfl)
    · exact firstN_kinds _
  · exact .inr (.inl rfl)
set_option maxHeartbeats 8000000 in
set_option maxRecDepth 100000 in
theorem pchoose_any (A : Nat → Addr) (tn : ByteArray) (fv iv cv : Value) (fs : List Fd) (ixs : List (List Int)) (q : Qd) (w : World) (hf : FsAt w fv fs) (hn : ∀ f ∈ fs, f.1.size ≤ 140737488355328) (hi : IxsAt w iv ixs) (hir : ∀ ix ∈ ixs, ∀ i ∈ ix, -9223372036854775808 ≤ i ∧ i ≤ 9223372036854775807) (hc : CsAt w anyB cv q.cs) (he : ErrsAt 13 gAll A w) (hsz : cntC q.cs ≤ 16777216) (ht : q.table.size ≤ 140737488355328) (ho : q.order.size ≤ 140737488355328) :
    Calls Tryd.prog 8 #[.agg (tV tn fv iv), .agg (qV q cv)] w fun e w' => e = .returned (.tuple #[.agg (pV (chooseD tn fs ixs q).1), errQ A (chooseD tn fs ixs q).2]) ∧ Below w.heap.size w w' := by
  obtain ⟨r, hr⟩ : ∃ r, r = chooseD tn fs ixs q := ⟨_, rfl⟩
  rw [← hr]
  have HR := hide hr
  have HQF := hide (fun W (hW : Below w.heap.size w W) => pfault_any (A 0) (A 2) q cv W (hc.keep hW) (he.keep hW).two hsz ht ho)
  have HQK := hide (qfault_kinds q)
  obtain ⟨t, l, o, f, m⟩ := q
  simp only [qV, tV] at hc hsz HQF HQK ho ⊢
  obtain ⟨ca, cc, hcv⟩ := hc.form
  obtain ⟨fa, fc, hfv⟩ := hf.form
  obtain ⟨ia, ic, hiv⟩ := hi.form
  subst hcv hfv hiv
  have hlen := hc.len
  have hilen := hi.len
  have q1 := below_new w (.cells #[.string tn, .slice fa fs.length fc, .slice ia ixs.length ic] 25)
  have x1 := RowAt.new w #[.string tn, .slice fa fs.length fc, .slice ia ixs.length ic] 25
  have hs1 : (w.alloc (.cells #[.string tn, .slice fa fs.length fc, .slice ia ixs.length ic] 25)).heap.size = w.heap.size + 1 := by simp
  generalize hW1 : w.alloc (.cells #[.string tn, .slice fa fs.length fc, .slice ia ixs.length ic] 25) = W1 at q1 x1 hs1
  have q2 := below_new W1 (.cells #[.string t, .slice ca l.length cc, .string o, .bool f, .int .i64 m] 31)
  have x2 := RowAt.new W1 #[.string t, .slice ca l.length cc, .string o, .bool f, .int .i64 m] 31
  rw [hs1] at x2
  have hs2 : (W1.alloc (.cells #[.string t, .slice ca l.length cc, .string o, .bool f, .int .i64 m] 31)).heap.size = w.heap.size + 1 + 1 := by rw [← hs1]; simp
  generalize hW2 : W1.alloc (.cells #[.string t, .slice ca l.length cc, .string o, .bool f, .int .i64 m] 31) = W2 at q2 x2 hs2
  have q3 := below_new W2 (.cells #[.int .i64 0, .int .i64 0] 38)
  have x3 := RowAt.new W2 #[.int .i64 0, .int .i64 0] 38
  rw [hs2] at x3
  generalize hW3 : W2.alloc (.cells #[.int .i64 0, .int .i64 0] 38) = W3 at q3 x3
  have HW : Hid (((w.alloc (.cells #[.string tn, .slice fa fs.length fc, .slice ia ixs.length ic] 25)).alloc (.cells #[.string t, .slice ca l.length cc, .string o, .bool f, .int .i64 m] 31)).alloc (.cells #[.int .i64 0, .int .i64 0] 38) = W3) := by rw [hW1, hW2]; exact hW3
  have hb3 := Below.next (Below.next q1 q2) q3
  have HX := hide ((x1.below q2).below q3)
  have HY := hide (x2.below q3)
  have HZ := hide x3
  have HF := hide (hf.keep hb3)
  have HI := hide (hi.keep hb3)
  have HC := hide (hc.keep hb3)
  have HB := hide hb3
  have a0 := HX.out.cell 0 (by simp)
  have d0 := HY.out.q5.1
  have z0 := x3.cell 0 (by simp)
  have z1 := x3.cell 1 (by simp)
  have zf0 := x3.free 0
  have zf1 := x3.free 1
  simp only [List.getElem_toArray, List.getElem_cons_zero, List.getElem_cons_succ] at a0 z0 z1
  have HQ3 := hide (HQF.out W3 hb3)
  obtain ⟨d0, d1, d2, d3, d4⟩ := HY.out.q5
  rw [← hW3, ← hW2, ← hW1] at a0 d0 d1 d2 d3 d4 z0 z1 zf0 zf1
  have HER := hide (he.keep HB.out)
  have ea : W3.cell? ⟨0, 0, none⟩ = some (.iface 144 (.pointer (some (A 0)))) := HER.out.two.arg
  have HN := hide hn
  have HIR := hide hir
  rw [← HW.out] at ea
  clear hf hi hc hn hir he q1 x1 hs1 q2 x2 hs2 q3 x3 hb3 hW1 hW2 hW3 hr HQF
  go_enter Tryd.func8, Tryd.ntmps8
  by_cases htn : t = tn
  · subst htn
    go_wp2_with fail
    rw [HW.out] at a0 d0 d1 d2 d3 d4 z0 z1 zf0 zf1 ea ⊢
    refine HQ3.out.mono ?_
    rintro e w4 ⟨rfl, hb4⟩
    obtain ⟨a0, a1, a2⟩ : w4.cell? ⟨w.heap.size, 0, none⟩ = some (.string t) ∧ w4.cell? ⟨w.heap.size, 1, none⟩ = some (.slice fa fs.length fc) ∧ w4.cell? ⟨w.heap.size, 2, none⟩ = some (.slice ia ixs.length ic) := ⟨(HX.out.below hb4).cell 0 (by simp), (HX.out.below hb4).cell 1 (by simp), (HX.out.below hb4).cell 2 (by simp)⟩
    clear d0 d1 d2 d3 d4 z0 z1 zf0 zf1 ea
    obtain ⟨d0, d1, d2, d3, d4⟩ := (HY.out.below hb4).q5
    have HX4 := hide (HX.out.below hb4)
    have HY4 := hide (HY.out.below hb4)
    have HZ4 := hide (HZ.out.below hb4)
    have HF4 := hide (HF.out.keep hb4)
    have HI4 := hide (HI.out.keep hb4)
    have HC4 := hide (HC.out.keep hb4)
    have HER4 := hide (HER.out.keep hb4)
    have HB4 := hide (Below.next HB.out hb4)
    have HRET : Hid (∀ W, Below w4.heap.size w4 W → RowAt W (w.heap.size + 1 + 1) #[.int .i64 0, .int .i64 0] 38) := fun W hW => HZ4.out.below hW
    clear hb4 HX HY HZ HF HI HC HB HW HQ3 HER
    obtain ⟨qf, hqf⟩ : ∃ qf, qf = qfaultD ⟨t, l, o, f, m⟩ := ⟨_, rfl⟩
    rw [← hqf] at HQK ⊢
    by_cases hq0 : qf = 0
    · subst hq0
      have HR2 : Hid (r = if lostB fs ⟨t, l, o, f, m⟩ = true then ((0, 0), 6) else (bestP fs l ixs 0 (-1, 0), 0)) := by
        show _ = _
        rw [HR.out, chooseD, if_pos rfl, if_pos hqf.symm]
      have hE0 : errOf (A 0) (A 2) 0 = .nilIface := rfl
      rw [hE0]
      have HPH := hide (phas_any t (.slice fa fs.length fc) (.slice ia ixs.length ic) (.slice ca l.length cc) fs ⟨t, l, o, f, m⟩ w4 HF4.out HN.out ⟨_, _, _, rfl⟩ HC4.out ho)
      simp only [tV, qV] at HPH
      have HLN := hide (@lost_no fs ⟨t, l, o, f, m⟩)
      obtain ⟨lb, hlb⟩ : ∃ lb, lb = lostB fs ⟨t, l, o, f, m⟩ := ⟨_, rfl⟩
      rw [← hlb] at HR2 HPH HLN
      clear hqf HR hE0 hlb HQK
      go_wp2_with fail
      refine HPH.out.mono ?_
      rintro e w5 ⟨rfl, hb5⟩
      have HB5 := hide hb5
      clear HPH a0 a1 a2 d0 d1 d2 d3 d4
      cases lb with
      | true =>
        have HE : Hid (r = ((0, 0), 6)) := by show _ = _; rw [HR2.out, if_pos rfl]
        have zr := HRET.out w5 hb5
        have el : w5.cell? ⟨1, 0, none⟩ = some (.iface 144 (.pointer (some (A 5)))) := ((HER4.out.keep hb5).1 5 (by decide)).1
        have z0 := zr.cell 0 (by simp)
        have z1 := zr.cell 1 (by simp)
        have zf0 := zr.free 0
        have zf1 := zr.free 1
        simp only [List.getElem_toArray, List.getElem_cons_zero, List.getElem_cons_succ] at z0 z1
        have HZ5 := hide (set_two zr (.int .i64 0) (.int .i64 0))
        have HB6 := hide (below_two (x := .int .i64 0) (y := .int .i64 0) (b := w.heap.size + 1 + 1) (Below.next HB4.out hb5) (by omega))
        clear zr HR2 hb5 HLN
        go_wp2_with fail
        go_region
        go_wp2
        refine bodyPost_ret (results_row_tmp rfl _ _ (w.heap.size + 1 + 1) 38 _ (0, 0) _ rfl HZ5.out Tryd.underlying38 rfl (by kernel_rfl)) rfl ?_
        exact ⟨by rw [HE.out]; rfl, HB6.out.drew⟩
      | false =>
        have HE : Hid (r = (bestP fs l ixs 0 (-1, 0), 0)) := by show _ = _; rw [HR2.out, if_neg (by decide)]
        have HPB := hide (pbitems_any t (.slice fa fs.length fc) (.slice ia ixs.length ic) (.slice ca l.length cc) fs l w5 (HF4.out.keep hb5) HN.out ⟨_, _, _, rfl⟩ (HC4.out.keep hb5) (HLN.out rfl))
        simp only [tV] at HPB
        have A0 : w5.cell? ⟨w.heap.size, 0, none⟩ = some (.string t) := (HX4.out.below hb5).cell 0 (by simp)
        have A1 : w5.cell? ⟨w.heap.size, 1, none⟩ = some (.slice fa fs.length fc) := (HX4.out.below hb5).cell 1 (by simp)
        have A2 : w5.cell? ⟨w.heap.size, 2, none⟩ = some (.slice ia ixs.length ic) := (HX4.out.below hb5).cell 2 (by simp)
        have D1 := (HY4.out.below hb5).q5.2.1
        clear HR2 HLN hb5
        go_wp2_with fail
        refine HPB.out.mono ?_
        rintro e w6 ⟨mb, rfl, hmb, hbm, hb6⟩
        have HB6 := hide (Below.next HB5.out hb6)
        have HBM := hide hbm
        have A3 := cell_below hb6 A2
        clear HPB A0 A1 A2 D1 HB5
        have hpr := RowAt.new w6 #[.int .i64 (-1), .int .i64 0] 38
        have hbp := below_new w6 (.cells #[.int .i64 (-1), .int .i64 0] 38)
        have A2 := cell_below hbp A3
        obtain ⟨PB, hPB⟩ : ∃ PB, PB = w6.heap.size := ⟨_, rfl⟩
        obtain ⟨V, hV⟩ : ∃ V, w6.alloc (.cells #[.int .i64 (-1), .int .i64 0] 38) = V := ⟨_, rfl⟩
        rw [hV] at hpr hbp
        rw [← hPB] at hpr
        have HV := hide hV
        have HPBE := hide hPB
        have HPR := hide hpr
        have HBP := hide hbp
        clear hpr hbp hPB hV hbm hb6 hmb
        go_wp2_with fail
        rw [HV.out] at A2
        rw [HV.out, ← HPBE.out]
        go_loopw [39] (fun iv wq => ∃ (i : Nat) (a b : Int), iv = .int .i64 (i : Int) ∧ i ≤ ixs.length ∧ RowAt wq PB #[.int .i64 a, .int .i64 b] 38 ∧ Below PB w6 wq ∧ Hid (bestP fs l (ixs.drop i) i (a, b) = bestP fs l ixs 0 (-1, 0))) (fun iv _ => ixs.length - (intOf iv).toNat)
        case atStart => exact ⟨0, -1, 0, rfl, Nat.zero_le _, HPR.out, by rw [HPBE.out]; exact HBP.out, rfl⟩
        case round =>
          obtain ⟨i, a, b, rfl, hi9, hrow, hbq, hbest⟩ := hrel
          have HROW := hide hrow
          have HBQ := hide hbq
          have hbw6 : Below w6.heap.size w6 wr := HPBE.out ▸ hbq
          have hb9 := Below.next HB6.out hbw6
          have HB9 := hide hb9
          by_cases hil : i < ixs.length
          · have hilI : (i : Int) < (ixs.length : Int) := by omega
            have i0 : (0 : Int) ≤ (i : Int) := by omega
            obtain ⟨gi, oi, ui, hia, y0, hins⟩ := (HI4.out.keep hb9).get i hil
            have HBD := hide (bestP_drop fs l ixs i hil (a, b))
            have HIR1 := hide (HIR.out _ (List.getElem_mem hil))
            obtain ⟨ix, hix⟩ : ∃ ix, ix = ixs[i]'hil := ⟨_, rfl⟩
            rw [← hix] at hins HBD HIR1
            have HI1 : Hid (i + 1 ≤ ixs.length) := by show _ ≤ _; omega
            subst hia
            have hixl : ix.length ≤ 17592186044416 := by obtain ⟨_, _, _, _, _, h, _⟩ := hins; exact h
            have HPA := hide (pbahead_any fs l ix ui mb wr hins (HBM.out.keep hbw6) HIR1.out hixl)
            obtain ⟨ua, uc, hui⟩ := hins.form
            subst hui
            obtain ⟨n, hnn⟩ : ∃ n, n = lead fs l ix := ⟨_, rfl⟩
            rw [← hnn] at HBD HPA
            clear hins hix hbq hb9 hrow hnn HIR1 hbw6
            go_wp2_with fail
            refine HPA.out.mono ?_
            rintro e w7 ⟨rfl, hb7⟩
            have zr := HROW.out.below hb7
            have z0 := zr.cell 0 (by simp)
            have z1 := zr.cell 1 (by simp)
            have zf0 := zr.free 0
            have zf1 := zr.free 1
            simp only [List.getElem_toArray, List.getElem_cons_zero, List.getElem_cons_succ] at z0 z1
            have hsz7 : PB ≤ wr.heap.size := by have := HROW.out.lt; omega
            have HB7 : Hid (Below PB w6 w7) := HBQ.out.trans (hb7.mono hsz7)
            clear HPA y0 hb7
            by_cases hbn : b < (n : Int)
            · have HZ5 := hide (set_two zr (.int .i64 (i : Int)) (.int .i64 (n : Int)))
              have HB8 := hide (below_two (x := .int .i64 (i : Int)) (y := .int .i64 (n : Int)) (b := PB) HB7.out (Nat.le_refl _))
              have HBS : Hid (bestP fs l (ixs.drop (i + 1)) (i + 1) ((i : Int), (n : Int)) = bestP fs l ixs 0 (-1, 0)) := by
                show _ = _
                rw [← hbest.out, HBD.out, if_pos hbn]
              clear zr HBD hbest
              go_wp2
              go_roundw
              case rel => exact ⟨i + 1, (i : Int), (n : Int), by go_num, HI1.out, HZ5.out, HB8.out, HBS⟩
              case measure => simp [intOf]; omega
            · have HZ5 := hide zr
              have HBS : Hid (bestP fs l (ixs.drop (i + 1)) (i + 1) (a, b) = bestP fs l ixs 0 (-1, 0)) := by
                show _ = _
                rw [← hbest.out, HBD.out, if_neg hbn]
              clear zr HBD hbest
              go_wp2
              go_roundw
              case rel => exact ⟨i + 1, a, b, by go_num, HI1.out, HZ5.out, HB7.out, HBS⟩
              case measure => simp [intOf]; omega
          · have hilI : ¬ (i : Int) < (ixs.length : Int) := by omega
            have he : (a, b) = bestP fs l ixs 0 (-1, 0) := by
              have := hbest.out
              rw [List.drop_eq_nil_of_le (by omega), bestP] at this
              exact this
            have HF9 : Hid (r = ((a, b), 0)) := by show _ = _; rw [HE.out, ← he]
            have z0 := hrow.cell 0 (by simp)
            have z1 := hrow.cell 1 (by simp)
            simp only [List.getElem_toArray, List.getElem_cons_zero, List.getElem_cons_succ] at z0 z1
            have zr := HRET.out wr HB9.out
            have c0 := zr.cell 0 (by simp)
            have c1 := zr.cell 1 (by simp)
            have cf0 := zr.free 0
            have cf1 := zr.free 1
            simp only [List.getElem_toArray, List.getElem_cons_zero, List.getElem_cons_succ] at c0 c1
            have HZ5 := hide (set_two zr (.int .i64 a) (.int .i64 b))
            have HB8 := hide (below_two (x := .int .i64 a) (y := .int .i64 b) (b := w.heap.size + 1 + 1) (Below.next HB4.out HB9.out) (by omega))
            clear he hbest hrow hbq hb9 zr hbw6
            go_wp2
            refine bodyPost_ret (results_row_tmp rfl _ _ (w.heap.size + 1 + 1) 38 _ (0, 0) _ rfl HZ5.out Tryd.underlying38 rfl (by kernel_rfl)) rfl ?_
            exact ⟨by rw [HF9.out]; rfl, HB8.out⟩
    · obtain ⟨pp, hpp⟩ := errOf_nz (A 0) (A 2) hq0
      have hqe := errOf_Q A qf HQK.out
      have HE : Hid (r = ((0, 0), qf)) := by show _ = _; rw [HR.out, chooseD, if_pos rfl, if_neg (by rw [← hqf]; exact hq0), ← hqf]
      have HEQ : Hid (errQ A qf = .iface 144 (.pointer (some pp))) := by show _ = _; rw [← hqe, hpp]
      rw [hpp]
      have zr := HZ4.out
      have z0 := zr.cell 0 (by simp)
      have z1 := zr.cell 1 (by simp)
      have zf0 := zr.free 0
      have zf1 := zr.free 1
      simp only [List.getElem_toArray, List.getElem_cons_zero, List.getElem_cons_succ] at z0 z1
      have HZ5 := hide (set_two zr (.int .i64 0) (.int .i64 0))
      have HB5 := hide (below_two (x := .int .i64 0) (y := .int .i64 0) (b := w.heap.size + 1 + 1) HB4.out (by omega))
      clear zr hqf hpp hqe HR
      go_wp2
      refine bodyPost_ret (results_row_tmp rfl _ _ (w.heap.size + 1 + 1) 38 _ (0, 0) _ rfl HZ5.out Tryd.underlying38 rfl (by kernel_rfl)) rfl ?_
      exact ⟨by rw [HE.out]; show _ = Ending.returned (.tuple #[.agg (pV (0, 0)), errQ A qf]); rw [HEQ.out]; rfl, HB5.out⟩
  · have hq : (t.toList == tn.toList) = false := str_ne htn
    have hq3 : (t.toList != tn.toList) = true := by simp only [bne, hq]; rfl
    have HE : Hid (r = ((0, 0), 1)) := by show _ = _; rw [HR.out, chooseD, if_neg htn]
    have HZ5 := hide (set_two HZ.out (.int .i64 0) (.int .i64 0))
    have HB6 := hide (below_two (x := .int .i64 0) (y := .int .i64 0) (b := w.heap.size + 1 + 1) HB.out (by omega))
    clear htn
    go_wp2_with fail
    rw [HW.out] at a0 d0 d1 d2 d3 d4 z0 z1 zf0 zf1 ea ⊢
    clear a0 d0 d1 d2 d3 d4
    go_region
    go_wp2
    refine bodyPost_ret (results_row_tmp rfl _ _ (w.heap.size + 1 + 1) 38 _ (0, 0) _ rfl HZ5.out Tryd.underlying38 rfl (by kernel_rfl)) rfl ?_
    exact ⟨by rw [HE.out]; rfl, HB6.out.drew⟩
end Go.Proofs.YtddhjnfcbpookaaDoor
