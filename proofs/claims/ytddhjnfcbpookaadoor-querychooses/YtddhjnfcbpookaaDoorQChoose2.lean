import Derived.Test.YtddhjnfcbpookaaDoorQChoose
namespace Go.Proofs.YtddhjnfcbpookaaDoor
open Go.RowKit

abbrev pV (p : Int × Int) : Array Value := #[.int .i64 p.1, .int .i64 p.2]
theorem set_two {w : World} {b : Nat} {x y : Value} {t : TypeId} (h : RowAt w b #[x, y] t) (x' y' : Value) : RowAt ((w.setCell ⟨b, 0, none⟩ x').setCell ⟨b, 1, none⟩ y') b #[x', y'] t := by
  unfold RowAt at h ⊢
  rw [heap_setCell_same _ b 1 _ t _ (heap_setCell_same w b 0 _ t _ h)]
  rfl
theorem below_two {B : Nat} {w0 w : World} {b : Nat} {x y : Value} (h : Below B w0 w) (hb : B ≤ b) : Below B w0 ((w.setCell ⟨b, 0, none⟩ x).setCell ⟨b, 1, none⟩ y) := (h.setCell hb _).setCell hb _
set_option maxHeartbeats 8000000 in
set_option maxRecDepth 100000 in
theorem choose_any (tn : ByteArray) (fv iv cv : Value) (fs : List Fd) (ixs : List (List Int)) (q : Qd) (w : World) (hf : FsAt w fv fs) (hi : IxsAt w iv ixs) (hc : CsAt w anyB cv q.cs) (hsz : cntC q.cs ≤ 16777216) (ht : q.table.size ≤ 140737488355328) (ho : q.order.size ≤ 140737488355328) :
    Calls Tryd.prog 9 #[.agg (tV tn fv iv), .agg (qV q cv)] w fun e w' => e = .returned (.tuple #[.agg (pV (chooseD tn fs ixs q).1), .int .i64 ((chooseD tn fs ixs q).2 : Nat)]) ∧ Below w.heap.size w w' := by
  obtain ⟨r, hr⟩ : ∃ r, r = chooseD tn fs ixs q := ⟨_, rfl⟩
  rw [← hr]
  have HR := hide hr
  have HQF := hide (fun W (hW : Below w.heap.size w W) => qfault_any q cv W (hc.keep hW) hsz ht ho)
  obtain ⟨t, l, o, f, m⟩ := q
  simp only [qV, tV] at hc hsz HQF ⊢
  obtain ⟨ca, cc, hcv⟩ := hc.form
  obtain ⟨fa, fc, hfv⟩ := hf.form
  obtain ⟨ia, ic, hiv⟩ := hi.form
  subst hcv hfv hiv
  have hlen := hc.len
  have hilen := hi.len
  have q1 := below_new w (.cells #[.string tn, .slice fa fs.length fc, .slice ia ixs.length ic] 25)
  have x1 := RowAt.new w #[.string tn, .slice fa fs.length fc, .slice ia ixs.length ic] 25
  have hs1 : (w.alloc (.cells #[.string tn, .slice fa fs.length fc, .slice ia ixs.length ic] 25)).heap.size = w.heap.size + 1 := by simp
  generalize hW1 : w.alloc (.cells #[.string tn, .slice fa fs.length fc, .slice ia ixs.length ic] 25) = W1 at q1 x1 hs1
  have q2 := below_new W1 (.cells #[.string t, .slice ca l.length cc, .string o, .bool f, .int .i64 m] 31)
  have x2 := RowAt.new W1 #[.string t, .slice ca l.length cc, .string o, .bool f, .int .i64 m] 31
  rw [hs1] at x2
  have hs2 : (W1.alloc (.cells #[.string t, .slice ca l.length cc, .string o, .bool f, .int .i64 m] 31)).heap.size = w.heap.size + 1 + 1 := by rw [← hs1]; simp
  generalize hW2 : W1.alloc (.cells #[.string t, .slice ca l.length cc, .string o, .bool f, .int .i64 m] 31) = W2 at q2 x2 hs2
  have q3 := below_new W2 (.cells #[.int .i64 0, .int .i64 0] 38)
  have x3 := RowAt.new W2 #[.int .i64 0, .int .i64 0] 38
  rw [hs2] at x3
  generalize hW3 : W2.alloc (.cells #[.int .i64 0, .int .i64 0] 38) = W3 at q3 x3
  have HW : Hid (((w.alloc (.cells #[.string tn, .slice fa fs.length fc, .slice ia ixs.length ic] 25)).alloc (.cells #[.string t, .slice ca l.length cc, .string o, .bool f, .int .i64 m] 31)).alloc (.cells #[.int .i64 0, .int .i64 0] 38) = W3) := by rw [hW1, hW2]; exact hW3
  have hb3 := Below.next (Below.next q1 q2) q3
  have HX := hide ((x1.below q2).below q3)
  have HY := hide (x2.below q3)
  have HZ := hide x3
  have HF := hide (hf.keep hb3)
  have HI := hide (hi.keep hb3)
  have HC := hide (hc.keep hb3)
  have HB := hide hb3
  have a0 := HX.out.cell 0 (by simp)
  have d0 := HY.out.q5.1
  have z0 := x3.cell 0 (by simp)
  have z1 := x3.cell 1 (by simp)
  have zf0 := x3.free 0
  have zf1 := x3.free 1
  simp only [List.getElem_toArray, List.getElem_cons_zero, List.getElem_cons_succ] at a0 z0 z1
  have HQ3 := hide (HQF.out W3 hb3)
  obtain ⟨d0, d1, d2, d3, d4⟩ := HY.out.q5
  rw [← hW3, ← hW2, ← hW1] at a0 d0 d1 d2 d3 d4 z0 z1 zf0 zf1
  clear hf hi hc q1 x1 hs1 q2 x2 hs2 q3 x3 hb3 hW1 hW2 hW3 hr HQF
  go_enter Tryd.func9, Tryd.ntmps9
  by_cases htn : t = tn
  · subst htn
    go_wp2_with fail
    rw [HW.out] at a0 d0 d1 d2 d3 d4 z0 z1 zf0 zf1 ⊢
    refine HQ3.out.mono ?_
    rintro e w4 ⟨rfl, hb4⟩
    obtain ⟨a0, a1, a2⟩ : w4.cell? ⟨w.heap.size, 0, none⟩ = some (.string t) ∧ w4.cell? ⟨w.heap.size, 1, none⟩ = some (.slice fa fs.length fc) ∧ w4.cell? ⟨w.heap.size, 2, none⟩ = some (.slice ia ixs.length ic) := ⟨(HX.out.below hb4).cell 0 (by simp), (HX.out.below hb4).cell 1 (by simp), (HX.out.below hb4).cell 2 (by simp)⟩
    clear d0 d1 d2 d3 d4 z0 z1 zf0 zf1
    obtain ⟨d0, d1, d2, d3, d4⟩ := (HY.out.below hb4).q5
    have HX4 := hide (HX.out.below hb4)
    have HY4 := hide (HY.out.below hb4)
    have HZ4 := hide (HZ.out.below hb4)
    have HF4 := hide (HF.out.keep hb4)
    have HI4 := hide (HI.out.keep hb4)
    have HC4 := hide (HC.out.keep hb4)
    have HB4 := hide (Below.next HB.out hb4)
    have HRET : Hid (∀ W, Below w4.heap.size w4 W → RowAt W (w.heap.size + 1 + 1) #[.int .i64 0, .int .i64 0] 38) := fun W hW => HZ4.out.below hW
    clear hb4 HX HY HZ HF HI HC HB HW HQ3
    obtain ⟨qf, hqf⟩ : ∃ qf, qf = qfaultD ⟨t, l, o, f, m⟩ := ⟨_, rfl⟩
    rw [← hqf]
    by_cases hq0 : qf = 0
    · subst hq0
      have HR2 : Hid (r = if lostB fs ⟨t, l, o, f, m⟩ = true then ((0, 0), 6) else (bestP fs l ixs 0 (-1, 0), 0)) := by
        show _ = _
        rw [HR.out, chooseD, if_pos rfl, if_pos hqf.symm]
      clear hqf HR
      go_wp2_with fail
      go_loopw [7] (fun v wr => ∃ k : Nat, v = .int .i64 (k : Int) ∧ k ≤ l.length ∧ Hid (∀ j (h : j < l.length), j < k → ¬ fieldI fs l[j].field < 0) ∧ Below w4.heap.size w4 wr) (fun v _ => l.length - (intOf v).toNat)
      case atStart => exact ⟨0, rfl, Nat.zero_le _, fun j _ h => by omega, Below.refl _ _⟩
      case round =>
        obtain ⟨k, rfl, hk, hall, hbl⟩ := hrel
        have A0 := cell_below hbl a0
        have A1 := cell_below hbl a1
        have A2 := cell_below hbl a2
        have D0 := cell_below hbl d0
        have D1 := cell_below hbl d1
        have D2 := cell_below hbl d2
        have D3 := cell_below hbl d3
        have D4 := cell_below hbl d4
        have HBL := hide hbl
        have HFD := hide (fun W (hW : Below wr.heap.size wr W) (name : ByteArray) => field_any t name (.slice fa fs.length fc) (.slice ia ixs.length ic) fs W ((HF4.out.keep hbl).keep hW) ⟨_, _, _, rfl⟩)
        clear a0 a1 a2 d0 d1 d2 d3 d4
        by_cases hlt : k < l.length
        · have hltI : (k : Int) < (l.length : Int) := by omega
          have e0 : (0 : Int) ≤ (k : Int) := by omega
          obtain ⟨g, off, u, hca, -, hok, s0, s1, s2, s3, s4, s5, hin⟩ := (HC4.out.keep hbl).get k hlt
          have HL : Hid (fieldI fs (l[k]'hlt).field < 0 → r = ((0, 0), 6)) := fun h => by
            rw [HR2.out, if_pos]
            rw [lostB, Bool.or_eq_true]
            exact .inl (List.any_eq_true.2 ⟨l[k]'hlt, List.getElem_mem hlt, decide_eq_true h⟩)
          have HN : Hid (¬ fieldI fs (l[k]'hlt).field < 0 → ∀ j (h : j < l.length), j < k + 1 → ¬ fieldI fs l[j].field < 0) := fun h0 j h hj => by
            by_cases e : j = k
            · subst e; exact h0
            · exact hall.out j h (by omega)
          obtain ⟨x, hx⟩ : ∃ x, x = l[k]'hlt := ⟨_, rfl⟩
          rw [← hx] at s0 s1 s2 s3 s4 HL HN
          have HJ : Hid (k + 1 ≤ l.length) := by show _ ≤ _; omega
          subst hca
          have HFX := hide (fun W (hW : Below wr.heap.size wr W) => HFD.out W hW x.field)
          obtain ⟨fi, hfi⟩ : ∃ fi, fi = fieldI fs x.field := ⟨_, rfl⟩
          rw [← hfi] at HFX HL HN
          clear hin hok hx hall hbl hfi HFD s1 s2 s3 s4 s5
          go_upto_region 9 with fail
          go_cut [38] from 23 to 39 (fun v wx => v = .bool (decide (fi < 0)) ∧ Below wr.heap.size wr wx)
          case first =>
            go_region_held3 (fun w' => w'.cell? ⟨w.heap.size, 0, none⟩ = some (.string t) ∧ w'.cell? ⟨w.heap.size, 1, none⟩ = some (.slice fa fs.length fc) ∧ w'.cell? ⟨w.heap.size, 2, none⟩ = some (.slice ia ixs.length ic) ∧ w'.cell? ⟨w.heap.size + 1, 1, none⟩ = some (.slice (some ⟨g, off, none⟩) l.length cc) ∧ w'.cell? ⟨g, off + k * 6, none⟩ = some (.string x.field)) (go_keep)
              (first | (go_at_call 23; refine (HFX.out _ ?_).mono ?_; (first | exact Below.refl _ _ | exact (Below.refl _ _).drew | exact below_drewN' (Below.refl _ _) _); rintro e w6 ⟨rfl, hg⟩; have HG := hide hg; have m1 := A0; have k1 := cell_below (w := wr) ⟨hg.os, hg.tape, hg.output, hg.size, hg.block⟩ A0; have k2 := cell_below (w := wr) ⟨hg.os, hg.tape, hg.output, hg.size, hg.block⟩ A1; have k3 := cell_below (w := wr) ⟨hg.os, hg.tape, hg.output, hg.size, hg.block⟩ A2; have k4 := cell_below (w := wr) ⟨hg.os, hg.tape, hg.output, hg.size, hg.block⟩ D1; have k5 := cell_below (w := wr) ⟨hg.os, hg.tape, hg.output, hg.size, hg.block⟩ s0; clear hg))
            all_goals
              clear A0 A1 A2 D0 D1 D2 D3 D4 s0 k1 k2 k3 k4 k5 m1 HFX
              go_wp2_with fail
              go_meet
              exact ⟨rfl, ⟨HG.out.os, HG.out.tape, HG.out.output, HG.out.size, HG.out.block⟩⟩
          case rest =>
            obtain ⟨rfl, hbw⟩ := hcut
            have HBW := hide (Below.next HBL.out hbw)
            clear hbw HFX A0 A1 A2 D0 D1 D2 D3 D4 s0
            by_cases hf0 : fi < 0
            · have HE := hide (HL.out hf0)
              have hfd : decide (fi < 0) = true := decide_eq_true hf0
              have zr := HRET.out wc HBW.out
              have z0 := zr.cell 0 (by simp)
              have z1 := zr.cell 1 (by simp)
              have zf0 := zr.free 0
              have zf1 := zr.free 1
              simp only [List.getElem_toArray, List.getElem_cons_zero, List.getElem_cons_succ] at z0 z1
              have HZ5 := hide (set_two zr (.int .i64 0) (.int .i64 0))
              have HB5 := hide (below_two (x := .int .i64 0) (y := .int .i64 0) (b := w.heap.size + 1 + 1) (Below.next HB4.out HBW.out) (by omega))
              clear zr HL HN
              go_wp2
              refine bodyPost_ret (results_row_tmp rfl _ _ (w.heap.size + 1 + 1) 38 _ (0, 0) _ rfl HZ5.out Tryd.underlying38 rfl (by kernel_rfl)) rfl ?_
              exact ⟨by rw [HE.out]; rfl, HB5.out⟩
            · have HA := hide (HN.out hf0)
              have hfd : decide (fi < 0) = false := decide_eq_false hf0
              clear HL HN
              go_wp2
              go_roundw
              case rel => exact ⟨k + 1, by go_num, HJ.out, HA.out, HBW.out⟩
              case measure => simp [intOf]; omega
        · have hltI : ¬ (k : Int) < (l.length : Int) := by omega
          have HNL : Hid (l.any (fun c => decide (fieldI fs c.field < 0)) = false) := by
            show _ = _
            rw [List.any_eq_false]
            intro y hy
            obtain ⟨j, hj, rfl⟩ := List.getElem_of_mem hy
            simpa using hall.out j hj (by omega)
          clear hall hbl hlt
          obtain ⟨LB, hLB⟩ : ∃ LB, LB = (decide (o ≠ ⟨#[]⟩) && decide (fieldI fs o < 0)) := ⟨_, rfl⟩
          have HLB := hide hLB
          have HR3 : Hid (r = if LB = true then ((0, 0), 6) else (bestP fs l ixs 0 (-1, 0), 0)) := by
            show _ = _
            rw [HR2.out, lostB]
            show (if (l.any (fun c => decide (fieldI fs c.field < 0)) || _) = true then _ else _) = _
            rw [HNL.out, hLB]; rfl
          clear hLB HNL HR2
          go_upto_region 11 with fail
          go_cut [49] (fun v wx => v = .bool LB ∧ Below wr.heap.size wr wx)
          case first =>
            by_cases hoe : o = ⟨#[]⟩
            · have HV : Hid (LB = false) := by show _ = _; rw [HLB.out]; simp [hoe]
              subst hoe
              go_wp2_with fail
              go_meet
              exact ⟨by rw [HV.out], Below.refl _ _⟩
            · have hq : (o.toList == (⟨#[]⟩ : ByteArray).toList) = false := str_ne hoe
              have hq2 : o.toList.isEmpty = false := by
                cases hz : o.toList with
                | nil => rw [hz] at hq; simp at hq
                | cons _ _ => rfl
              have hq3 : (o.toList != (⟨#[]⟩ : ByteArray).toList) = true := by simp only [bne, hq]; rfl
              have HFO := hide (HFD.out wr (Below.refl _ _) o)
              obtain ⟨fo, hfo⟩ : ∃ fo, fo = fieldI fs o := ⟨_, rfl⟩
              have HV : Hid (LB = decide (fo < 0)) := by show _ = _; rw [HLB.out, hfo]; simp [hoe]
              rw [← hfo] at HFO
              clear hoe hfo HFD HLB
              go_wp2_with fail
              refine HFO.out.mono ?_
              rintro e w6 ⟨rfl, hb6⟩
              have HB6 := hide hb6
              clear hb6 HFO A0 A1 A2 D0 D1 D2 D3 D4
              go_wp2_with fail
              go_meet
              exact ⟨by rw [HV.out], HB6.out⟩
          case rest =>
            obtain ⟨rfl, hbw⟩ := hcut
            have HBW := hide (Below.next HBL.out hbw)
            clear hbw HFD HLB A0 A1 A2 D0 D1 D2 D3 D4
            cases LB with
            | true =>
              have HE : Hid (r = ((0, 0), 6)) := by show _ = _; rw [HR3.out, if_pos rfl]
              have zr := HRET.out wc HBW.out
              have z0 := zr.cell 0 (by simp)
              have z1 := zr.cell 1 (by simp)
              have zf0 := zr.free 0
              have zf1 := zr.free 1
              simp only [List.getElem_toArray, List.getElem_cons_zero, List.getElem_cons_succ] at z0 z1
              have HZ5 := hide (set_two zr (.int .i64 0) (.int .i64 0))
              have HB5 := hide (below_two (x := .int .i64 0) (y := .int .i64 0) (b := w.heap.size + 1 + 1) (Below.next HB4.out HBW.out) (by omega))
              clear zr HR3
              go_wp2
              refine bodyPost_ret (results_row_tmp rfl _ _ (w.heap.size + 1 + 1) 38 _ (0, 0) _ rfl HZ5.out Tryd.underlying38 rfl (by kernel_rfl)) rfl ?_
              exact ⟨by rw [HE.out]; rfl, HB5.out⟩
            | false =>
              have HE : Hid (r = (bestP fs l ixs 0 (-1, 0), 0)) := by show _ = _; rw [HR3.out, if_neg (by decide)]
              have hpr := RowAt.new wc #[.int .i64 (-1), .int .i64 0] 38
              have hbp := below_new wc (.cells #[.int .i64 (-1), .int .i64 0] 38)
              obtain ⟨PB, hPB⟩ : ∃ PB, PB = wc.heap.size := ⟨_, rfl⟩
              obtain ⟨V, hV⟩ : ∃ V, wc.alloc (.cells #[.int .i64 (-1), .int .i64 0] 38) = V := ⟨_, rfl⟩
              rw [hV] at hpr hbp
              rw [← hPB] at hpr
              have HV := hide hV
              have HPB := hide hPB
              have HPR := hide hpr
              have HBP := hide hbp
              have HBA := hide (fun W (hW : Below w4.heap.size w4 W) (n : Int) => bound_any t (.slice fa fs.length fc) (.slice ia ixs.length ic) (.slice ca l.length cc) fs ⟨t, l, o, f, m⟩ n W (HF4.out.keep hW) ⟨_, _, _, rfl⟩ (HC4.out.keep hW))
              simp only [tV, qV] at HBA
              clear hpr hbp hPB hV HR3
              go_wp2_with fail
              rw [HV.out, ← HPB.out]
              go_loopw [9, 10] (fun iv _ wq => ∃ (i : Nat) (a b : Int), iv = .int .i64 (i : Int) ∧ i ≤ ixs.length ∧ RowAt wq PB #[.int .i64 a, .int .i64 b] 38 ∧ Below wc.heap.size wc wq ∧ Hid (bestP fs l (ixs.drop i) i (a, b) = bestP fs l ixs 0 (-1, 0))) (fun iv _ _ => ixs.length - (intOf iv).toNat)
              case atStart => exact ⟨0, -1, 0, rfl, Nat.zero_le _, HPR.out, HBP.out, rfl⟩
              case round =>
                obtain ⟨i, a, b, rfl, hi9, hrow, hbq, hbest⟩ := hrel
                have HROW := hide hrow
                have HBQ := hide hbq
                have hb9 := Below.next HBW.out hbq
                have HB9 := hide hb9
                have A0 : wr.cell? ⟨w.heap.size, 0, none⟩ = some (.string t) := (HX4.out.below hb9).cell 0 (by simp)
                have A1 : wr.cell? ⟨w.heap.size, 1, none⟩ = some (.slice fa fs.length fc) := (HX4.out.below hb9).cell 1 (by simp)
                have A2 : wr.cell? ⟨w.heap.size, 2, none⟩ = some (.slice ia ixs.length ic) := (HX4.out.below hb9).cell 2 (by simp)
                obtain ⟨D0, D1, D2, D3, D4⟩ := (HY4.out.below hb9).q5
                by_cases hil : i < ixs.length
                · have hilI : (i : Int) < (ixs.length : Int) := by omega
                  have i0 : (0 : Int) ≤ (i : Int) := by omega
                  obtain ⟨gi, oi, ui, hia, y0, hins⟩ := (HI4.out.keep hb9).get i hil
                  have HBD := hide (bestP_drop fs l ixs i hil (a, b))
                  obtain ⟨ix, hix⟩ : ∃ ix, ix = ixs[i]'hil := ⟨_, rfl⟩
                  rw [← hix] at hins HBD
                  have HI1 : Hid (i + 1 ≤ ixs.length) := by show _ ≤ _; omega
                  subst hia
                  have HINS := hide hins
                  obtain ⟨ua, uc, hui⟩ := hins.form
                  subst hui
                  have hixl : ix.length ≤ 17592186044416 := by obtain ⟨_, _, _, _, _, h, _⟩ := hins; exact h
                  clear hins hix hbq hb9 hrow
                  go_wp2_with fail
                  generalize wr = wq at *
                  go_loopw [10] (fun nv wz => ∃ n : Nat, nv = .int .i64 (n : Int) ∧ n ≤ ix.length ∧ Hid (∀ j (h : j < ix.length), j < n → boundB fs l ix[j] = true) ∧ Below wq.heap.size wq wz) (fun nv _ => ix.length - (intOf nv).toNat)
                  case atStart => exact ⟨0, rfl, Nat.zero_le _, fun j _ h => by omega, Below.refl _ _⟩
                  case round =>
                    obtain ⟨n, rfl, hn, hall, hbz⟩ := hrel
                    have HBZ := hide hbz
                    have E0 := cell_below hbz A0
                    have E1 := cell_below hbz A1
                    have E2 := cell_below hbz A2
                    have G0 := cell_below hbz D0
                    have G1 := cell_below hbz D1
                    have G2 := cell_below hbz D2
                    have G3 := cell_below hbz D3
                    have G4 := cell_below hbz D4
                    have Y0 := cell_below hbz y0
                    have HBB := hide (fun W (hW : Below wr.heap.size wr W) (n : Int) => HBA.out W (Below.next (Below.next HB9.out hbz) hW) n)
                    obtain ⟨CB, hCB⟩ : ∃ CB : Bool, CB = (if h : n < ix.length then boundB fs l (ix[n]'h) else false) := ⟨_, rfl⟩
                    have HCB := hide hCB
                    have n0 : (0 : Int) ≤ (n : Int) := by omega
                    have HIN2 := hide (HINS.out.keep hbz)
                    clear A0 A1 A2 D0 D1 D2 D3 D4 y0 hCB hbz HBA
                    go_upto_region 18 with fail
                    go_cut [79] from 59 to 81 (fun v wx => v = .bool CB ∧ Below wr.heap.size wr wx)
                    case first =>
                      by_cases hnl : n < ix.length
                      · have hnI : (n : Int) < (ix.length : Int) := by omega
                        obtain ⟨gu, ou, hua, z0⟩ := HIN2.out.get n hnl
                        have HCV : Hid (CB = boundB fs l (ix[n]'hnl)) := by show _ = _; rw [HCB.out, dif_pos hnl]
                        generalize ix[n]'hnl = xn at z0 HCV
                        subst hua
                        have HBX := hide (fun W (hW : Below wr.heap.size wr W) => HBB.out W hW xn)
                        rw [← HCV.out] at HBX
                        clear HBB HCB HCV hall
                        go_region_held3 (fun w' => w'.cell? ⟨w.heap.size, 0, none⟩ = some (.string t) ∧ w'.cell? ⟨w.heap.size, 1, none⟩ = some (.slice fa fs.length fc) ∧ w'.cell? ⟨w.heap.size, 2, none⟩ = some (.slice (some ⟨gi, oi, none⟩) ixs.length ic) ∧ w'.cell? ⟨w.heap.size + 1, 0, none⟩ = some (.string t) ∧ w'.cell? ⟨w.heap.size + 1, 1, none⟩ = some (.slice ca l.length cc) ∧ w'.cell? ⟨w.heap.size + 1, 2, none⟩ = some (.string o) ∧ w'.cell? ⟨w.heap.size + 1, 3, none⟩ = some (.bool f) ∧ w'.cell? ⟨w.heap.size + 1, 4, none⟩ = some (.int .i64 m) ∧ w'.cell? ⟨gi, oi + i, none⟩ = some (.slice (some ⟨gu, ou, none⟩) ix.length uc) ∧ w'.cell? ⟨gu, ou + n, none⟩ = some (.int .i64 xn)) (go_keep)
                          (first | (go_at_call 24; refine (HBX.out _ ?_).mono ?_; (first | exact Below.refl _ _ | exact (Below.refl _ _).drew | exact below_drewN' (Below.refl _ _) _); rintro e w6 ⟨rfl, hg⟩; have HG := hide hg; have k0 := cell_below (w := wr) ⟨hg.os, hg.tape, hg.output, hg.size, hg.block⟩ E0; have k1 := cell_below (w := wr) ⟨hg.os, hg.tape, hg.output, hg.size, hg.block⟩ E1; have k2 := cell_below (w := wr) ⟨hg.os, hg.tape, hg.output, hg.size, hg.block⟩ E2; have k3 := cell_below (w := wr) ⟨hg.os, hg.tape, hg.output, hg.size, hg.block⟩ G0; have k4 := cell_below (w := wr) ⟨hg.os, hg.tape, hg.output, hg.size, hg.block⟩ G1; have k5 := cell_below (w := wr) ⟨hg.os, hg.tape, hg.output, hg.size, hg.block⟩ G2; have k6 := cell_below (w := wr) ⟨hg.os, hg.tape, hg.output, hg.size, hg.block⟩ G3; have k7 := cell_below (w := wr) ⟨hg.os, hg.tape, hg.output, hg.size, hg.block⟩ G4; have k8 := cell_below (w := wr) ⟨hg.os, hg.tape, hg.output, hg.size, hg.block⟩ Y0; have k9 := cell_below (w := wr) ⟨hg.os, hg.tape, hg.output, hg.size, hg.block⟩ z0; clear hg))
                        all_goals
                          clear E0 E1 E2 G0 G1 G2 G3 G4 Y0 z0 k0 k1 k2 k3 k4 k5 k6 k7 k8 k9 HBX
                          go_wp2_with fail
                          go_meet
                          exact ⟨rfl, ⟨HG.out.os, HG.out.tape, HG.out.output, HG.out.size, HG.out.block⟩⟩
                      · have hnI : ¬ (n : Int) < (ix.length : Int) := by omega
                        have HCV : Hid (CB = false) := by show _ = _; rw [HCB.out, dif_neg hnl]
                        clear HBB HCB hall
                        go_quiet (fail)
                        go_wp2_with fail
                        go_meet
                        exact ⟨by rw [HCV.out], below_drewN' (Below.refl _ _) _⟩
                    case rest =>
                      obtain ⟨rfl, hbw⟩ := hcut
                      have HBZ2 := hide (Below.next HBZ.out hbw)
                      clear hbw E0 E1 E2 G0 G1 G2 G3 G4 Y0 HBB
                      cases CB with
                      | true =>
                        have hnl : n < ix.length := by
                          by_cases h : n < ix.length
                          · exact h
                          · have := HCB.out; rw [dif_neg h] at this; cases this
                        have HA : Hid (∀ j (h : j < ix.length), j < n + 1 → boundB fs l ix[j] = true) := fun j h hj => by
                          by_cases e : j = n
                          · subst e; have := HCB.out; rw [dif_pos hnl] at this; exact this.symm
                          · exact hall.out j h (by omega)
                        have HN1 : Hid (n + 1 ≤ ix.length) := by show _ ≤ _; omega
                        clear hall HCB
                        go_wp2
                        go_roundw
                        case rel => exact ⟨n + 1, by go_num, HN1.out, HA.out, HBZ2.out⟩
                        case measure => simp [intOf]; omega
                      | false =>
                        have hlead : lead fs l ix = n := lead_stop fs l ix n hn hall.out fun h => by have := HCB.out; rw [dif_pos h] at this; exact this.symm
                        have zr := HROW.out.below HBZ2.out
                        have z0 := zr.cell 0 (by simp)
                        have z1 := zr.cell 1 (by simp)
                        have zf0 := zr.free 0
                        have zf1 := zr.free 1
                        simp only [List.getElem_toArray, List.getElem_cons_zero, List.getElem_cons_succ] at z0 z1
                        rw [hlead] at HBD
                        clear hall HCB hlead
                        by_cases hbn : b < (n : Int)
                        · have HZ5 := hide (set_two zr (.int .i64 (i : Int)) (.int .i64 (n : Int)))
                          have HB5 := hide (below_two (x := .int .i64 (i : Int)) (y := .int .i64 (n : Int)) (b := PB) (Below.next HBQ.out HBZ2.out) (by have := HPB.out; omega))
                          have HBS : Hid (bestP fs l (ixs.drop (i + 1)) (i + 1) ((i : Int), (n : Int)) = bestP fs l ixs 0 (-1, 0)) := by
                            show _ = _
                            rw [← hbest.out, HBD.out, if_pos hbn]
                          clear zr HBD hbest
                          go_wp2
                          go_roundw
                          case rel => exact ⟨i + 1, (i : Int), (n : Int), by go_num, HI1.out, HZ5.out, HB5.out, HBS⟩
                          case measure => simp [intOf]; omega
                        · have HZ5 := hide zr
                          have HB5 := hide (Below.next HBQ.out HBZ2.out)
                          have HBS : Hid (bestP fs l (ixs.drop (i + 1)) (i + 1) (a, b) = bestP fs l ixs 0 (-1, 0)) := by
                            show _ = _
                            rw [← hbest.out, HBD.out, if_neg hbn]
                          clear zr HBD hbest
                          go_wp2
                          go_roundw
                          case rel => exact ⟨i + 1, a, b, by go_num, HI1.out, HZ5.out, HB5.out, HBS⟩
                          case measure => simp [intOf]; omega
                · have hilI : ¬ (i : Int) < (ixs.length : Int) := by omega
                  have he : (a, b) = bestP fs l ixs 0 (-1, 0) := by
                    have := hbest.out
                    rw [List.drop_eq_nil_of_le (by omega), bestP] at this
                    exact this
                  have HF9 : Hid (r = ((a, b), 0)) := by show _ = _; rw [HE.out, ← he]
                  have z0 := hrow.cell 0 (by simp)
                  have z1 := hrow.cell 1 (by simp)
                  simp only [List.getElem_toArray, List.getElem_cons_zero, List.getElem_cons_succ] at z0 z1
                  have zr := HRET.out wr HB9.out
                  have c0 := zr.cell 0 (by simp)
                  have c1 := zr.cell 1 (by simp)
                  have cf0 := zr.free 0
                  have cf1 := zr.free 1
                  simp only [List.getElem_toArray, List.getElem_cons_zero, List.getElem_cons_succ] at c0 c1
                  have HZ5 := hide (set_two zr (.int .i64 a) (.int .i64 b))
                  have HB5 := hide (below_two (x := .int .i64 a) (y := .int .i64 b) (b := w.heap.size + 1 + 1) (Below.next HB4.out HB9.out) (by omega))
                  clear he hbest hrow hbq hb9 HBA zr
                  go_wp2
                  refine bodyPost_ret (results_row_tmp rfl _ _ (w.heap.size + 1 + 1) 38 _ (0, 0) _ rfl HZ5.out Tryd.underlying38 rfl (by kernel_rfl)) rfl ?_
                  exact ⟨by rw [HF9.out]; rfl, HB5.out⟩
    · have h0 : ((qf : Int) != 0) = true := by simp; omega
      have h0' : ¬ ((qf : Int) = 0) := by omega
      have HE : Hid (r = ((0, 0), qf)) := by show _ = _; rw [HR.out, chooseD, if_pos rfl, if_neg (by rw [← hqf]; exact hq0), ← hqf]
      have zr := HZ4.out
      have z0 := zr.cell 0 (by simp)
      have z1 := zr.cell 1 (by simp)
      have zf0 := zr.free 0
      have zf1 := zr.free 1
      simp only [List.getElem_toArray, List.getElem_cons_zero, List.getElem_cons_succ] at z0 z1
      have HZ5 := hide (set_two zr (.int .i64 0) (.int .i64 0))
      have HB5 := hide (below_two (x := .int .i64 0) (y := .int .i64 0) (b := w.heap.size + 1 + 1) HB4.out (by omega))
      clear hq0 hqf HR zr
      go_wp2
      refine bodyPost_ret (results_row_tmp rfl _ _ (w.heap.size + 1 + 1) 38 _ (0, 0) _ rfl HZ5.out Tryd.underlying38 rfl (by kernel_rfl)) rfl ?_
      exact ⟨by rw [HE.out]; rfl, HB5.out⟩
  · have hq : (t.toList != tn.toList) = true := by
      have := str_ne htn
      simp only [bne, this]; rfl
    have hq2 := str_ne htn
    have HE : Hid (r = ((0, 0), 1)) := by show _ = _; rw [HR.out, chooseD, if_neg htn]
    clear htn
    go_wp2
    refine bodyPost_ret (results_row_tmp rfl _ _ (w.heap.size + 1 + 1) 38 _ (0, 0) _ rfl (by rw [HW.out]; exact HZ.out) Tryd.underlying38 rfl (by kernel_rfl)) rfl ?_
    exact ⟨by rw [HE.out]; rfl, by rw [HW.out]; exact HB.out⟩
end Go.Proofs.YtddhjnfcbpookaaDoor
