import Derived.Test.YtmifadjgmjnkgaaGreatDoorA10
import Derived.Deep.RegionHeld3
namespace Go.Proofs.YtmifadjgmjnkgaaGreatDoor
open Go.RowKit

/-- The cells of a step of an argument. -/
def NineAt (w : World) (g o : Nat) (x : SStp) (fv : Value) : Prop :=
  w.cell? ⟨g, o, none⟩ = some (.int .i64 x.kind) ∧ w.cell? ⟨g, o + 1, none⟩ = some (.int .i64 x.n) ∧ w.cell? ⟨g, o + 2, none⟩ = some (.int .i64 x.s.kind) ∧ w.cell? ⟨g, o + 3, none⟩ = some (.int .i64 x.s.id) ∧ w.cell? ⟨g, o + 4, none⟩ = some (.int .u64 (x.s.txid : Int)) ∧
  w.cell? ⟨g, o + 5, none⟩ = some (.int .i64 x.s.count) ∧ w.cell? ⟨g, o + 6, none⟩ = some (.string x.s.body) ∧ w.cell? ⟨g, o + 7, none⟩ = some (.string x.data) ∧ w.cell? ⟨g, o + 8, none⟩ = some fv
/-- The steps of an argument. -/
def SStepsIn (w : World) (v : Value) (l : List SStp) : Prop := ∃ a cap g off, ∃ fvs : List Value, v = .slice a l.length cap ∧ l.length ≤ 1048576 ∧ (0 < l.length → a = some ⟨g, off, none⟩) ∧ fvs.length = l.length ∧
  ∀ i (h : i < l.length) (h' : i < fvs.length), NineAt w g (off + i * 9) l[i] fvs[i] ∧ V.FatesIn w fvs[i] l[i].fates
structure SStepsT (l : List SStp) : Prop where
  tot : stotF l ≤ 1048576
  each : ∀ x ∈ l, SStepB x
theorem NineAt.keep {w w' : World} {g o : Nat} {x : SStp} {fv : Value} (h : NineAt w g o x fv) (hb : Below w.heap.size w w') : NineAt w' g o x fv := by
  obtain ⟨h0, h1, h2, h3, h4, h5, h6, h7, h8⟩ := h
  exact ⟨V.cell_below hb h0, V.cell_below hb h1, V.cell_below hb h2, V.cell_below hb h3, V.cell_below hb h4, V.cell_below hb h5, V.cell_below hb h6, V.cell_below hb h7, V.cell_below hb h8⟩
theorem SStepsIn.keep {w w' : World} {v : Value} {l : List SStp} (h : SStepsIn w v l) (hb : Below w.heap.size w w') : SStepsIn w' v l := by
  obtain ⟨a, cap, g, off, fvs, h1, h2, h3, h4, h5⟩ := h
  exact ⟨a, cap, g, off, fvs, h1, h2, h3, h4, fun i h h' => ⟨(h5 i h h').1.keep hb, (h5 i h h').2.keep hb⟩⟩
theorem rnew_all {w : World} {b : Nat} {F : Nat → Prop} {n : Int} (h : V.RBody w b F (V.newDev n) (.slice none 0 0) (.slice none 0 0) (.slice none 0 0) (.slice none 0 0)) : V.RAll w b F (V.newDev n) 0 :=
  ⟨_, _, _, _, h, ⟨_, World.ownsRow_nil _ _ _ _⟩, fun g hg => by simp [Value.ownBlock] at hg, .inl ⟨rfl, rfl⟩, fun g _ => by simp [Value.ownBlock], V.newDev_ok n⟩

set_option maxRecDepth 100000 in
set_option maxHeartbeats 16000000 in
theorem sdev_any (A : Nat → Addr) (X : Int) (sv : Value) (steps : List SStp) (w : World) (hE : Env w.heap.size A w) (hEr : ErrsAt A w) (hsv : SStepsIn w sv steps) (hst : SStepsT steps) :
    Calls Tryz.prog 3 #[.agg #[.int .i64 X, sv]] w fun e w' => e = .returned (.bool true) ∧ Below w.heap.size w w' := by
  obtain ⟨W, hW⟩ : ∃ W, W = w.alloc (.cells #[.int .i64 X, sv] 24) := ⟨_, rfl⟩
  have hb0 : Below w.heap.size w W := by rw [hW]; exact below_new _ _
  have hbx : Boxed w.heap.size [.int .i64 X, sv] W := by rw [hW]; exact boxed_new w #[.int .i64 X, sv] 24
  have HE : Hid (Env W.heap.size A W) := by
    have h := hE.keep hb0
    have hz := hb0.size
    exact ⟨⟨h.errs.arg, h.errs.many, h.errs.dead, ⟨by have := h.errs.lo.1; omega, by have := h.errs.lo.2.1; omega, by have := h.errs.lo.2.2; omega⟩, Nat.le_refl _⟩, h.text, ⟨by have := h.lo.1; omega, by have := h.lo.2.1; omega, by have := h.lo.2.2; omega⟩, h.lay, h.tab⟩
  have HER : Hid (ErrsAt A W) := hEr.keep hb0
  have HTH : Hid (SStepsIn W sv steps) := hsv.keep hb0
  have HSL : Hid (steps.length ≤ 1048576) := by obtain ⟨_, _, _, _, _, _, h, _⟩ := hsv; exact h
  have HST := hide hst
  obtain ⟨N, ta, tc, hsve, hN⟩ : ∃ N ta tc, sv = .slice ta N tc ∧ N = steps.length := by
    obtain ⟨a, c, _, _, _, h1, h2, _⟩ := hsv
    exact ⟨_, a, c, h1, rfl⟩
  have HN := hide hN
  subst hsve
  have HBX := hide hbx
  have HB0 := hide hb0
  have HWD := hide hW
  have c0 : W.cell? ⟨w.heap.size, 0, none⟩ = some (.int .i64 X) := hbx.2 0 (by simp)
  have HNW := hide (V.new_any X W)
  clear hsv hE hEr hb0 hbx hN hst
  go_enter Tryz.func3, Tryz.ntmps3
  go_wp2_with fail
  rw [← HWD.out]
  refine HNW.out.mono ?_
  rintro e w1 ⟨b, F, rfl, hd1, hb1, hf1⟩
  have HD1 := hide hd1
  have HF1 := hide hf1
  have HB1 := hide hb1
  have y0 : w1.cell? ⟨w.heap.size, 0, none⟩ = some (.int .i64 X) := V.cell_below hb1 c0
  have HRN := hide (V.rnew_any' X w1)
  clear hd1 hf1 hb1 hW HNW c0
  go_wp2_with fail
  refine HRN.out.mono ?_
  rintro e w2 ⟨c, G, rfl, hr2, hb2, hg2⟩
  have HPL : Hid (SDuo W w2 b F (V.shortD (V.newDev X)) c G (V.newDev X) 0) := ⟨HD1.out.below hb2, rnew_all hr2, Below.next HB1.out hb2, HF1.out, fun k hk => by have := hg2 k hk; have := HB1.out.size; omega, fun k hf hg => by have := HD1.out.lt k hf; have := hg2 k hg; omega⟩
  have HFI0 : Hid (SFine steps 0 (V.newDev X) 0) := ⟨Nat.zero_le _, Nat.zero_le _, by have := HST.out.tot; show 0 + 0 + stotF (steps.drop 0) ≤ _; rw [List.drop_zero]; omega, fun a ha => by cases ha⟩
  have hne1 := run_eql_pointer_nil (P := Tryz.prog) w2 25 (some ⟨b, 0, none⟩) Tryz.underlying25
  clear hr2 hb2 hg2 HRN y0 HD1 HF1 HB1
  generalize V.newDev X = D0 at *
  go_wp2_with fail
  go_loopw [5] (fun i wr => ∃ (k : Nat) (F' G' : Nat → Prop) (d : V.Dev) (T : Nat), k ≤ N ∧ i = .int .i64 (k : Int) ∧ SDuo W wr b F' (V.shortD d) c G' d T ∧ SFine steps k d T) (fun i _ => N - (intOf i).toNat)
  case atStart => exact ⟨0, F, G, D0, 0, Nat.zero_le _, rfl, HPL.out, HFI0.out⟩
  case round =>
    obtain ⟨k, F5, G5, d, T, hk, rfl, P, FI⟩ := hrel
    have HFI := hide FI
    have b2 : wr.cell? ⟨w.heap.size, 1, none⟩ = some (.slice ta N tc) := (HBX.out.below P.bel).2 1 (by simp)
    have hNb : N ≤ 1048576 := by rw [HN.out]; exact HSL.out
    clear HPL HFI0 hne1
    by_cases hlt : k < N
    · obtain ⟨a', cap', g, off, fvs, h1, h2, h3, h4, h5⟩ := HTH.out
      simp only [Value.slice.injEq] at h1
      obtain ⟨rfl, hl', rfl⟩ := h1
      obtain rfl := h3 (by omega)
      have hkl : k < steps.length := by omega
      obtain ⟨hnine, hfx⟩ := h5 k hkl (by omega)
      have hxb := HST.out.each steps[k] (List.getElem_mem hkl)
      obtain ⟨x0, x1, x2, x3, x4, x5, x6, x7, x8⟩ := hnine.keep (w' := wr) P.bel
      have k0 : (0 : Int) ≤ (k : Int) := Int.natCast_nonneg _
      have k1 : (k : Int) < (N : Int) := by omega
      have HRO := hide (FI.room (by omega))
      generalize hsk : steps[k] = sk' at *
      generalize hfk : fvs[k]'(by omega) = fk at *
      obtain ⟨K, n, ⟨sk, si, st, sc, sb⟩, Dt, fl⟩ := sk'
      simp only [] at x0 x1 x2 x3 x4 x5 x6 x7 x8 hfx
      obtain ⟨fka, fkc, rfl⟩ : ∃ a c, fk = .slice a fl.length c := by obtain ⟨a, c, _, _, h, _⟩ := hfx; exact ⟨a, c, h⟩
      have HSK : Hid (steps[k].fates.length = fl.length) := by show _ = _; rw [hsk]
      have HXB := hide hxb
      have HFX : Hid (V.FatesIn W (.slice fka fl.length fkc) fl) := hfx
      obtain ⟨W1, hW1⟩ : ∃ W1, W1 = wr.alloc (.cells #[.int .i64 K, .int .i64 n, .int .i64 sk, .int .i64 si, .int .u64 (st : Int), .int .i64 sc, .string sb, .string Dt, .slice fka fl.length fkc] 34) := ⟨_, rfl⟩
      have hbw : Below wr.heap.size wr W1 := by rw [hW1]; exact below_new _ _
      have hbx1 : Boxed wr.heap.size [.int .i64 K, .int .i64 n, .int .i64 sk, .int .i64 si, .int .u64 (st : Int), .int .i64 sc, .string sb, .string Dt, .slice fka fl.length fkc] W1 := by rw [hW1]; exact boxed_new wr #[.int .i64 K, .int .i64 n, .int .i64 sk, .int .i64 si, .int .u64 (st : Int), .int .i64 sc, .string sb, .string Dt, .slice fka fl.length fkc] 34
      have HM1 : Hid (SMid W W1 b F5 (V.shortD d) c G5 d T wr.heap.size ⟨K, n, ⟨sk, si, st, sc, sb⟩, Dt, fl⟩ (.slice fka fl.length fkc)) := ⟨P.up hbw, ⟨hbx1.2 0 (by simp), hbx1.2 1 (by simp), hbx1.2 2 (by simp), hbx1.2 3 (by simp), hbx1.2 4 (by simp), hbx1.2 5 (by simp), hbx1.2 6 (by simp), hbx1.2 7 (by simp), hbx1.2 8 (by simp)⟩, hbx1.1, fun hf => by have := P.dev.lt _ hf; omega, fun hg => by have := RAll_lt P.ref _ hg; omega⟩
      have HW1 := hide hW1
      have e0 : (wr.alloc (.cells #[.int .i64 K, .int .i64 n, .int .i64 sk, .int .i64 si, .int .u64 (st : Int), .int .i64 sc, .string sb, .string Dt, .slice fka fl.length fkc] 34)).cell? ⟨wr.heap.size, 0, none⟩ = some (.int .i64 K) := by rw [← hW1]; exact hbx1.2 0 (by simp)
      have f1 : (wr.alloc (.cells #[.int .i64 K, .int .i64 n, .int .i64 sk, .int .i64 si, .int .u64 (st : Int), .int .i64 sc, .string sb, .string Dt, .slice fka fl.length fkc] 34)).cell? ⟨wr.heap.size, 1, none⟩ = some (.int .i64 n) := by rw [← hW1]; exact hbx1.2 1 (by simp)
      have f2 : (wr.alloc (.cells #[.int .i64 K, .int .i64 n, .int .i64 sk, .int .i64 si, .int .u64 (st : Int), .int .i64 sc, .string sb, .string Dt, .slice fka fl.length fkc] 34)).cell? ⟨wr.heap.size, 2, none⟩ = some (.int .i64 sk) := by rw [← hW1]; exact hbx1.2 2 (by simp)
      have f3 : (wr.alloc (.cells #[.int .i64 K, .int .i64 n, .int .i64 sk, .int .i64 si, .int .u64 (st : Int), .int .i64 sc, .string sb, .string Dt, .slice fka fl.length fkc] 34)).cell? ⟨wr.heap.size, 3, none⟩ = some (.int .i64 si) := by rw [← hW1]; exact hbx1.2 3 (by simp)
      have f4 : (wr.alloc (.cells #[.int .i64 K, .int .i64 n, .int .i64 sk, .int .i64 si, .int .u64 (st : Int), .int .i64 sc, .string sb, .string Dt, .slice fka fl.length fkc] 34)).cell? ⟨wr.heap.size, 4, none⟩ = some (.int .u64 (st : Int)) := by rw [← hW1]; exact hbx1.2 4 (by simp)
      have f5 : (wr.alloc (.cells #[.int .i64 K, .int .i64 n, .int .i64 sk, .int .i64 si, .int .u64 (st : Int), .int .i64 sc, .string sb, .string Dt, .slice fka fl.length fkc] 34)).cell? ⟨wr.heap.size, 5, none⟩ = some (.int .i64 sc) := by rw [← hW1]; exact hbx1.2 5 (by simp)
      have f6 : (wr.alloc (.cells #[.int .i64 K, .int .i64 n, .int .i64 sk, .int .i64 si, .int .u64 (st : Int), .int .i64 sc, .string sb, .string Dt, .slice fka fl.length fkc] 34)).cell? ⟨wr.heap.size, 6, none⟩ = some (.string sb) := by rw [← hW1]; exact hbx1.2 6 (by simp)
      have f7 : (wr.alloc (.cells #[.int .i64 K, .int .i64 n, .int .i64 sk, .int .i64 si, .int .u64 (st : Int), .int .i64 sc, .string sb, .string Dt, .slice fka fl.length fkc] 34)).cell? ⟨wr.heap.size, 7, none⟩ = some (.string Dt) := by rw [← hW1]; exact hbx1.2 7 (by simp)
      have f8 : (wr.alloc (.cells #[.int .i64 K, .int .i64 n, .int .i64 sk, .int .i64 si, .int .u64 (st : Int), .int .i64 sc, .string sb, .string Dt, .slice fka fl.length fkc] 34)).cell? ⟨wr.heap.size, 8, none⟩ = some (.slice fka fl.length fkc) := by rw [← hW1]; exact hbx1.2 8 (by simp)
      clear P FI hfx hbw hbx1 h2 h3 h4 h5 hfk hxb hl' hnine hW1 hsk
      rcases (show K = 1 ∨ K = 2 ∨ K = 3 ∨ K = 4 ∨ K = 5 ∨ K = 6 ∨ K = 7 ∨ (K ≠ 1 ∧ K ≠ 2 ∧ K ≠ 3 ∧ K ≠ 4 ∧ K ≠ 5 ∧ K ≠ 6 ∧ K ≠ 7) by omega) with hk | hk | hk | hk | hk | hk | hk | hk
      · have e1 : (K == 1) = true := by simp [hk]
        have HKK := hide hk
        clear hk
        have HS : Hid (Calls Tryz.prog 6 #[.pointer (some ⟨b, 0, none⟩), .agg #[.int .i64 sk, .int .i64 si, .int .u64 (st : Int), .int .i64 sc, .string sb]] W1 fun e w'' => e = .returned (V.errV A (storeD d ⟨sk, si, st, sc, sb⟩).2) ∧ ∃ F', SMid W w'' b F' (V.shortD (storeD d ⟨sk, si, st, sc, sb⟩).1) c G5 d T wr.heap.size ⟨K, n, ⟨sk, si, st, sc, sb⟩, Dt, fl⟩ (.slice fka fl.length fkc)) := HM1.out.store HE.out ⟨sk, si, st, sc, sb⟩ HXB.out.body HXB.out.txid HRO.out.1 W1 (Below.refl _ _)
        have HFNX : Hid (∀ T', T' + V.armSum (storeD d ⟨sk, si, st, sc, sb⟩).1.arms ≤ T + V.armSum d.arms → SFine steps (k + 1) (storeD d ⟨sk, si, st, sc, sb⟩).1 T') := fun T' h => HFI.out.next hkl (store_pend d _) (by have := store_armsN d ⟨sk, si, st, sc, sb⟩; omega) (by omega) (store_armsIn HFI.out.arms _)
        obtain ⟨cd, hcd⟩ : ∃ cd, cd = (storeD d ⟨sk, si, st, sc, sb⟩).2 := ⟨_, rfl⟩
        obtain ⟨ev, hev⟩ : ∃ ev, ev = V.errV A cd := ⟨_, rfl⟩
        have HNM : Hid (∀ w', Below W.heap.size W w' → Calls Tryz.prog 7 #[ev] w' fun e w'' => e = .returned (.int .i64 (cd : Int)) ∧ w' = w'') := fun w' hb' => by rw [hev]; exact snum_any A w' (HER.out.keep hb') cd (by rw [hcd]; exact store_code d _)
        have HRS : Hid (∀ w2 F2, SMid W w2 b F2 (V.shortD (storeD d ⟨sk, si, st, sc, sb⟩).1) c G5 d T wr.heap.size ⟨K, n, ⟨sk, si, st, sc, sb⟩, Dt, fl⟩ (.slice fka fl.length fkc) → ∀ w', Below w2.heap.size w2 w' → Calls Tryz.prog 8 #[.pointer (some ⟨c, 0, none⟩), .agg #[.int .i64 sk, .int .i64 si, .int .u64 (st : Int), .int .i64 sc, .string sb]] w' fun e w'' => e = .returned (.int .i64 (cd : Int)) ∧ ∃ G' T', SMid W w'' b F2 (V.shortD (storeD d ⟨sk, si, st, sc, sb⟩).1) c G' (storeD d ⟨sk, si, st, sc, sb⟩).1 T' wr.heap.size ⟨K, n, ⟨sk, si, st, sc, sb⟩, Dt, fl⟩ (.slice fka fl.length fkc) ∧ T' + V.armSum (storeD d ⟨sk, si, st, sc, sb⟩).1.arms ≤ T + V.armSum d.arms) := fun w2 F2 M w' hb' => by rw [hcd]; exact M.rstore ⟨sk, si, st, sc, sb⟩ HXB.out.body HXB.out.txid HRO.out.1 HRO.out.2.1 HFI.out.arms w' hb'
        rw [← hcd, ← hev] at HS
        generalize (storeD d ⟨sk, si, st, sc, sb⟩).1 = dz at *
        have hcc : ((cd : Int) != (cd : Int)) = false := by simp
        clear hcd hev
        go_wp2_with fail
        rw [← HW1.out]
        refine HS.out.mono ?_
        rintro e w2 ⟨rfl, F2, M2⟩
        have HM2 := hide M2
        have y2 := M2.nine.s2
        have y3 := M2.nine.s3
        have y4 := M2.nine.s4
        have y5 := M2.nine.s5
        have y6 := M2.nine.s6
        simp only [] at y2 y3 y4 y5 y6
        clear M2 HS e0 f1 f2 f3 f4 f5 f6 f7 f8
        go_wp2_with fail
        go_region_held3 (fun w' => w'.cell? ⟨wr.heap.size, 2, none⟩ = some (.int .i64 sk) ∧ w'.cell? ⟨wr.heap.size, 3, none⟩ = some (.int .i64 si) ∧ w'.cell? ⟨wr.heap.size, 4, none⟩ = some (.int .u64 (st : Int)) ∧ w'.cell? ⟨wr.heap.size, 5, none⟩ = some (.int .i64 sc) ∧ w'.cell? ⟨wr.heap.size, 6, none⟩ = some (.string sb)) (go_keep)
          (first
            | (go_at_call 8; refine (HRS.out w2 F2 HM2.out _ (by first | exact Below.refl _ _ | exact V.bdrew1 (Below.refl _ _))).mono ?_; rintro e w3 ⟨rfl, G3, T3, M3, t3⟩; have u2 := M3.nine.s2; have u3 := M3.nine.s3; have u4 := M3.nine.s4; have u5 := M3.nine.s5; have u6 := M3.nine.s6; simp only [] at u2 u3 u4 u5 u6)
            | (go_at_call 7; refine (HNM.out _ (by first | exact V.bdrew1 HM2.out.duo.bel | exact HM2.out.duo.bel)).mono ?_; rintro e w3 ⟨rfl, rfl⟩))
        have HFN := hide (HFNX.out T3 t3)
        have HM := hide M3
        clear M3 t3 HM2 HRS HNM HFNX u2 u3 u4 u5 u6 y2 y3 y4 y5 y6
        obtain ⟨wz, hwz⟩ : ∃ wz, wz = w3 := ⟨_, rfl⟩
        obtain ⟨Fz, hFz⟩ : ∃ Fz : Nat → Prop, Fz = F2 := ⟨_, rfl⟩
        obtain ⟨Gz, hGz⟩ : ∃ Gz : Nat → Prop, Gz = G3 := ⟨_, rfl⟩
        obtain ⟨Tz, hTz⟩ : ∃ Tz : Nat, Tz = T3 := ⟨_, rfl⟩
        subst hwz hFz hGz hTz
        have HDU : Hid (Calls Tryz.prog 23 #[.pointer (some ⟨b, 0, none⟩)] wz fun e w' => ∃ v', e = .returned v' ∧ w'.ownsRow wz.heap.size 82 2 v' dz.dur.length (V.secCells dz.dur) ∧ Below wz.heap.size wz w') := V.durable_any b Fz (V.shortD dz) wz HM.out.duo.dev
        have HLD : Hid (dz.dur.length ≤ 5864062014805) := by have := HM.out.duo.dev.ok.dur_len; show dz.dur.length ≤ _; have h2 : (V.shortD dz).dur.length = dz.dur.length := rfl; omega
        have HLP : Hid (dz.pend.length ≤ 5864062014805) := by have := HFN.out.pend; show _ ≤ _; omega
        have hq1 : (dz.nr != dz.nr) = false := by simp
        have hq2 : (dz.nw != dz.nw) = false := by simp
        have hq3 : (dz.ns != dz.ns) = false := by simp
        go_wp2_with fail
        refine HDU.out.mono ?_
        rintro e w6 ⟨v6, rfl, hr6, hb6⟩
        have HS6 := hide (V.secsIn_own hr6 HLD.out)
        obtain ⟨a6, c6, rfl, -⟩ := V.owns_form hr6
        have HB6 := hide hb6
        have HRD := hide (V.rdur_any c Gz dz w6 (HM.out.up hb6).duo.ref.at' HLD.out)
        clear HDU hr6 hb6
        go_wp2_with fail
        refine HRD.out.mono ?_
        rintro e w7 ⟨v7, rfl, hr7, hb7⟩
        have HS7 := hide (V.secsIn_own hr7 HLD.out)
        obtain ⟨a7, c7, rfl, -⟩ := V.owns_form hr7
        have HB7 := hide (Below.next HB6.out hb7)
        have HSA := hide (V.sames_any dz.dur _ _ w7 (HS6.out.keep hb7) HS7.out)
        clear HRD hr7 hb7 HB6
        go_wp2_with fail
        refine HSA.out.mono ?_
        rintro e w8 ⟨rfl, hb8⟩
        have HB8 := hide (Below.next HB7.out hb8)
        have HPN : Hid (Calls Tryz.prog 25 #[.pointer (some ⟨b, 0, none⟩)] w8 fun e w' => ∃ v', e = .returned v' ∧ w'.ownsRow w8.heap.size 82 2 v' dz.pend.length (V.secCells dz.pend) ∧ Below w8.heap.size w8 w') := V.pending_any b Fz (V.shortD dz) w8 (HM.out.up HB8.out).duo.dev HLP.out
        clear HSA hb8 HB7 HS6 HS7
        go_wp2_with fail
        refine HPN.out.mono ?_
        rintro e w9 ⟨v9, rfl, hr9, hb9⟩
        have HS9 := hide (V.secsIn_own hr9 HLP.out)
        obtain ⟨a9, c9, rfl, -⟩ := V.owns_form hr9
        have HB9 := hide (Below.next HB8.out hb9)
        have HRP := hide (V.rpend_any c Gz dz w9 (HM.out.up HB9.out).duo.ref.at' HLP.out)
        clear HPN hr9 hb9 HB8
        go_wp2_with fail
        refine HRP.out.mono ?_
        rintro e w10 ⟨v10, rfl, hr10, hb10⟩
        have HS10 := hide (V.secsIn_own hr10 HLP.out)
        obtain ⟨a10, c10, rfl, -⟩ := V.owns_form hr10
        have HB10 := hide (Below.next HB9.out hb10)
        have HSB := hide (V.sames_any dz.pend _ _ w10 (HS9.out.keep hb10) HS10.out)
        clear HRP hr10 hb10 HB9
        go_wp2_with fail
        refine HSB.out.mono ?_
        rintro e w11 ⟨rfl, hb11⟩
        have HB11 := hide (Below.next HB10.out hb11)
        have HCN : Hid (Calls Tryz.prog 27 #[.pointer (some ⟨b, 0, none⟩)] w11 fun e w' => e = .returned (.tuple #[.int .i64 dz.nr, .int .i64 dz.nw, .int .i64 dz.ns]) ∧ Below w11.heap.size w11 w') := V.counts_any b Fz (V.shortD dz) w11 (HM.out.up HB11.out).duo.dev
        clear HSB hb11 HB10 HS9 HS10
        go_wp2_with fail
        refine HCN.out.mono ?_
        rintro e w12 ⟨rfl, hb12⟩
        have HB12 := hide (Below.next HB11.out hb12)
        have HRC := hide (V.rcounts_any c Gz dz w12 (HM.out.up HB12.out).duo.ref.at')
        clear HCN hb12 HB11
        go_wp2_with fail
        refine HRC.out.mono ?_
        rintro e w13 ⟨rfl, hb13⟩
        have HEND : Hid (SDuo W w13 b Fz (V.shortD dz) c Gz dz Tz) := (HM.out.up (Below.next HB12.out hb13)).duo
        clear HRC hb13 HB12 HM
        go_wp2_with fail
        go_roundw
        case rel => exact ⟨k + 1, Fz, Gz, dz, Tz, by omega, by go_num, HEND.out, HFN.out⟩
        case measure => simp [intOf]; omega
      · have e1 : (K == 1) = false := by simp; omega
        have e2 : (K == 2) = true := by simp [hk]
        have HKK := hide hk
        clear hk
        have HS : Hid (Calls Tryz.prog 9 #[.pointer (some ⟨b, 0, none⟩), .int .i64 n] W1 fun e w'' => e = .returned (.tuple #[.agg (loadR d n).2.1.cells.toArray, V.errV A (loadR d n).2.2]) ∧ ∃ F', SMid W w'' b F' (V.shortD (loadR d n).1) c G5 d T wr.heap.size ⟨K, n, ⟨sk, si, st, sc, sb⟩, Dt, fl⟩ (.slice fka fl.length fkc)) := HM1.out.load HE.out n W1 (Below.refl _ _)
        have HFN : Hid (SFine steps (k + 1) (loadR d n).1 T) := HFI.out.next hkl (by rw [(load_same d n).1]; omega) (by rw [(load_same d n).2]; omega) (by rw [(load_same d n).2]; omega) (by rw [(load_same d n).2]; exact HFI.out.arms)
        obtain ⟨cd, hcd⟩ : ∃ cd, cd = (loadR d n).2.2 := ⟨_, rfl⟩
        obtain ⟨ev, hev⟩ : ∃ ev, ev = V.errV A cd := ⟨_, rfl⟩
        have HNM : Hid (∀ w', Below W.heap.size W w' → Calls Tryz.prog 7 #[ev] w' fun e w'' => e = .returned (.int .i64 (cd : Int)) ∧ w' = w'') := fun w' hb' => by rw [hev]; exact snum_any A w' (HER.out.keep hb') cd (by rw [hcd]; exact load_code d n)
        have HRS : Hid (∀ w2 F2, SMid W w2 b F2 (V.shortD (loadR d n).1) c G5 d T wr.heap.size ⟨K, n, ⟨sk, si, st, sc, sb⟩, Dt, fl⟩ (.slice fka fl.length fkc) → ∀ w', Below w2.heap.size w2 w' → Calls Tryz.prog 10 #[.pointer (some ⟨c, 0, none⟩), .int .i64 n] w' fun e w'' => e = .returned (.tuple #[.agg (loadR d n).2.1.cells.toArray, .int .i64 (cd : Int)]) ∧ SMid W w'' b F2 (V.shortD (loadR d n).1) c G5 (loadR d n).1 T wr.heap.size ⟨K, n, ⟨sk, si, st, sc, sb⟩, Dt, fl⟩ (.slice fka fl.length fkc) ∧ V.Step G5 G5 w' w'') := fun w2 F2 M w' hb' => by rw [hcd]; exact M.rload n HRO.out.1 w' hb'
        rw [← hcd, ← hev] at HS
        generalize (loadR d n).1 = dz at *
        generalize (loadR d n).2.1 = sh at *
        obtain ⟨hk5, hi5, ht5, hc5, hb5⟩ := sh
        have HS' : Hid (Calls Tryz.prog 9 #[.pointer (some ⟨b, 0, none⟩), .int .i64 n] W1 fun e w'' => e = .returned (.tuple #[.agg #[.int .i64 hk5, .int .i64 hi5, .int .u64 (ht5 : Int), .int .i64 hc5, .string hb5], ev]) ∧ ∃ F', SMid W w'' b F' (V.shortD dz) c G5 d T wr.heap.size ⟨K, n, ⟨sk, si, st, sc, sb⟩, Dt, fl⟩ (.slice fka fl.length fkc)) := HS.out
        have HRS' : Hid (∀ w2 F2, SMid W w2 b F2 (V.shortD dz) c G5 d T wr.heap.size ⟨K, n, ⟨sk, si, st, sc, sb⟩, Dt, fl⟩ (.slice fka fl.length fkc) → ∀ w', Below w2.heap.size w2 w' → Calls Tryz.prog 10 #[.pointer (some ⟨c, 0, none⟩), .int .i64 n] w' fun e w'' => e = .returned (.tuple #[.agg #[.int .i64 hk5, .int .i64 hi5, .int .u64 (ht5 : Int), .int .i64 hc5, .string hb5], .int .i64 (cd : Int)]) ∧ SMid W w'' b F2 (V.shortD dz) c G5 dz T wr.heap.size ⟨K, n, ⟨sk, si, st, sc, sb⟩, Dt, fl⟩ (.slice fka fl.length fkc) ∧ V.Step G5 G5 w' w'') := HRS.out
        have hcc : ((cd : Int) != (cd : Int)) = false := by simp
        have HNS := hide (fun w => sh_nself w hk5 hi5 (ht5 : Int) hc5 hb5)
        clear hcd hev HS HRS
        go_wp2_with fail
        rw [← HW1.out]
        refine HS'.out.mono ?_
        rintro e w2 ⟨rfl, F2, M2⟩
        obtain ⟨W3, hW3⟩ : ∃ W3, W3 = w2.alloc (.cells #[.int .i64 hk5, .int .i64 hi5, .int .u64 (ht5 : Int), .int .i64 hc5, .string hb5] 31) := ⟨_, rfl⟩
        have hb3 : Below w2.heap.size w2 W3 := by rw [hW3]; exact below_new _ _
        have HBQ : Hid (Boxed w2.heap.size [.int .i64 hk5, .int .i64 hi5, .int .u64 (ht5 : Int), .int .i64 hc5, .string hb5] W3) := by rw [hW3]; exact boxed_new w2 #[.int .i64 hk5, .int .i64 hi5, .int .u64 (ht5 : Int), .int .i64 hc5, .string hb5] 31
        have HRL := hide (HRS'.out w2 F2 M2 W3 hb3)
        have HGL : Hid (¬ G5 w2.heap.size) := fun hg => by have := RAll_lt M2.duo.ref _ hg; omega
        have M3 := M2.up hb3
        have y1 : (w2.alloc (.cells #[.int .i64 hk5, .int .i64 hi5, .int .u64 (ht5 : Int), .int .i64 hc5, .string hb5] 31)).cell? ⟨wr.heap.size, 1, none⟩ = some (.int .i64 n) := by rw [← hW3]; exact M3.nine.s1
        have HW3 := hide hW3
        clear M2 M3 hb3 HS' HRS' e0 f1 f2 f3 f4 f5 f6 f7 f8 hW3
        go_wp2_with fail
        rw [← HW3.out]
        refine HRL.out.mono ?_
        rintro e w4 ⟨rfl, M4, S4⟩
        obtain ⟨W5, hW5⟩ : ∃ W5, W5 = w4.alloc (.cells #[.int .i64 hk5, .int .i64 hi5, .int .u64 (ht5 : Int), .int .i64 hc5, .string hb5] 31) := ⟨_, rfl⟩
        have hb5' : Below w4.heap.size w4 W5 := by rw [hW5]; exact below_new _ _
        have hbq := HBQ.out
        have q0 : W5.cell? ⟨w2.heap.size, 0, none⟩ = some (.int .i64 hk5) := V.cell_below hb5' (S4.cell (hbq.2 0 (by simp)) HGL.out)
        have q1 : W5.cell? ⟨w2.heap.size, 1, none⟩ = some (.int .i64 hi5) := V.cell_below hb5' (S4.cell (hbq.2 1 (by simp)) HGL.out)
        have q2 : W5.cell? ⟨w2.heap.size, 2, none⟩ = some (.int .u64 (ht5 : Int)) := V.cell_below hb5' (S4.cell (hbq.2 2 (by simp)) HGL.out)
        have q3 : W5.cell? ⟨w2.heap.size, 3, none⟩ = some (.int .i64 hc5) := V.cell_below hb5' (S4.cell (hbq.2 3 (by simp)) HGL.out)
        have q4 : W5.cell? ⟨w2.heap.size, 4, none⟩ = some (.string hb5) := V.cell_below hb5' (S4.cell (hbq.2 4 (by simp)) HGL.out)
        have HNW : Hid (Calls Tryz.prog 7 #[ev] W5 fun e w'' => e = .returned (.int .i64 (cd : Int)) ∧ W5 = w'') := HNM.out W5 (M4.up hb5').duo.bel
        have hns := HNS.out W5
        have HM := hide (M4.up hb5')
        have HW5 := hide hW5
        rw [hW5] at q0 q1 q2 q3 q4 hns
        clear M4 S4 hbq hb5' hW5 HRL HNM y1 HBQ HNS
        go_wp2_with fail
        rw [← HW5.out]
        refine HNW.out.mono ?_
        rintro e w6' ⟨rfl, rfl⟩
        clear HNW q0 q1 q2 q3 q4 hns
        obtain ⟨wz, hwz⟩ : ∃ wz, wz = W5 := ⟨_, rfl⟩
        obtain ⟨Fz, hFz⟩ : ∃ Fz : Nat → Prop, Fz = F2 := ⟨_, rfl⟩
        obtain ⟨Gz, hGz⟩ : ∃ Gz : Nat → Prop, Gz = G5 := ⟨_, rfl⟩
        obtain ⟨Tz, hTz⟩ : ∃ Tz : Nat, Tz = T := ⟨_, rfl⟩
        rw [← hwz]
        rw [← hwz, ← hFz, ← hGz, ← hTz] at HM
        rw [← hTz] at HFN
        clear hwz hFz hGz hTz HW5
        have HDU : Hid (Calls Tryz.prog 23 #[.pointer (some ⟨b, 0, none⟩)] wz fun e w' => ∃ v', e = .returned v' ∧ w'.ownsRow wz.heap.size 82 2 v' dz.dur.length (V.secCells dz.dur) ∧ Below wz.heap.size wz w') := V.durable_any b Fz (V.shortD dz) wz HM.out.duo.dev
        have HLD : Hid (dz.dur.length ≤ 5864062014805) := by have := HM.out.duo.dev.ok.dur_len; show dz.dur.length ≤ _; have h2 : (V.shortD dz).dur.length = dz.dur.length := rfl; omega
        have HLP : Hid (dz.pend.length ≤ 5864062014805) := by have := HFN.out.pend; show _ ≤ _; omega
        have hq1 : (dz.nr != dz.nr) = false := by simp
        have hq2 : (dz.nw != dz.nw) = false := by simp
        have hq3 : (dz.ns != dz.ns) = false := by simp
        go_wp2_with fail
        refine HDU.out.mono ?_
        rintro e w6 ⟨v6, rfl, hr6, hb6⟩
        have HS6 := hide (V.secsIn_own hr6 HLD.out)
        obtain ⟨a6, c6, rfl, -⟩ := V.owns_form hr6
        have HB6 := hide hb6
        have HRD := hide (V.rdur_any c Gz dz w6 (HM.out.up hb6).duo.ref.at' HLD.out)
        clear HDU hr6 hb6
        go_wp2_with fail
        refine HRD.out.mono ?_
        rintro e w7 ⟨v7, rfl, hr7, hb7⟩
        have HS7 := hide (V.secsIn_own hr7 HLD.out)
        obtain ⟨a7, c7, rfl, -⟩ := V.owns_form hr7
        have HB7 := hide (Below.next HB6.out hb7)
        have HSA := hide (V.sames_any dz.dur _ _ w7 (HS6.out.keep hb7) HS7.out)
        clear HRD hr7 hb7 HB6
        go_wp2_with fail
        refine HSA.out.mono ?_
        rintro e w8 ⟨rfl, hb8⟩
        have HB8 := hide (Below.next HB7.out hb8)
        have HPN : Hid (Calls Tryz.prog 25 #[.pointer (some ⟨b, 0, none⟩)] w8 fun e w' => ∃ v', e = .returned v' ∧ w'.ownsRow w8.heap.size 82 2 v' dz.pend.length (V.secCells dz.pend) ∧ Below w8.heap.size w8 w') := V.pending_any b Fz (V.shortD dz) w8 (HM.out.up HB8.out).duo.dev HLP.out
        clear HSA hb8 HB7 HS6 HS7
        go_wp2_with fail
        refine HPN.out.mono ?_
        rintro e w9 ⟨v9, rfl, hr9, hb9⟩
        have HS9 := hide (V.secsIn_own hr9 HLP.out)
        obtain ⟨a9, c9, rfl, -⟩ := V.owns_form hr9
        have HB9 := hide (Below.next HB8.out hb9)
        have HRP := hide (V.rpend_any c Gz dz w9 (HM.out.up HB9.out).duo.ref.at' HLP.out)
        clear HPN hr9 hb9 HB8
        go_wp2_with fail
        refine HRP.out.mono ?_
        rintro e w10 ⟨v10, rfl, hr10, hb10⟩
        have HS10 := hide (V.secsIn_own hr10 HLP.out)
        obtain ⟨a10, c10, rfl, -⟩ := V.owns_form hr10
        have HB10 := hide (Below.next HB9.out hb10)
        have HSB := hide (V.sames_any dz.pend _ _ w10 (HS9.out.keep hb10) HS10.out)
        clear HRP hr10 hb10 HB9
        go_wp2_with fail
        refine HSB.out.mono ?_
        rintro e w11 ⟨rfl, hb11⟩
        have HB11 := hide (Below.next HB10.out hb11)
        have HCN : Hid (Calls Tryz.prog 27 #[.pointer (some ⟨b, 0, none⟩)] w11 fun e w' => e = .returned (.tuple #[.int .i64 dz.nr, .int .i64 dz.nw, .int .i64 dz.ns]) ∧ Below w11.heap.size w11 w') := V.counts_any b Fz (V.shortD dz) w11 (HM.out.up HB11.out).duo.dev
        clear HSB hb11 HB10 HS9 HS10
        go_wp2_with fail
        refine HCN.out.mono ?_
        rintro e w12 ⟨rfl, hb12⟩
        have HB12 := hide (Below.next HB11.out hb12)
        have HRC := hide (V.rcounts_any c Gz dz w12 (HM.out.up HB12.out).duo.ref.at')
        clear HCN hb12 HB11
        go_wp2_with fail
        refine HRC.out.mono ?_
        rintro e w13 ⟨rfl, hb13⟩
        have HEND : Hid (SDuo W w13 b Fz (V.shortD dz) c Gz dz Tz) := (HM.out.up (Below.next HB12.out hb13)).duo
        clear HRC hb13 HB12 HM
        go_wp2_with fail
        go_roundw
        case rel => exact ⟨k + 1, Fz, Gz, dz, Tz, by omega, by go_num, HEND.out, HFN.out⟩
        case measure => simp [intOf]; omega
      · have e1 : (K == 1) = false := by simp; omega
        have e2 : (K == 2) = false := by simp; omega
        have e3 : (K == 3) = true := by simp [hk]
        have HKK := hide hk
        clear hk
        have HBY : Hid (∀ w', Calls Tryz.prog 12 #[.string Dt] w' fun e w'' => ∃ v, e = .returned v ∧ w''.ownsRow w'.heap.size 5 1 v Dt.size (u8s Dt.data.toList) ∧ Below w'.heap.size w' w'') := fun w' => V.bytes_any Dt w' (by have := HXB.out.data; simp only [] at this; omega)
        have HWR : Hid (∀ w3 v, Below W1.heap.size W1 w3 → w3.ownsRow W1.heap.size 5 1 v Dt.size (u8s Dt.data.toList) → Calls Tryz.prog 11 #[.pointer (some ⟨b, 0, none⟩), .int .i64 n, v] w3 fun e w'' => e = .returned (V.errV A (d.write n (V.bl Dt)).2) ∧ ∃ F', SMid W w'' b F' (V.shortD (d.write n (V.bl Dt)).1) c G5 d T wr.heap.size ⟨K, n, ⟨sk, si, st, sc, sb⟩, Dt, fl⟩ (.slice fka fl.length fkc)) := fun w3 v hb hr => HM1.out.write HE.out n v Dt W1.heap.size HRO.out.1 HXB.out.data w3 hb (Nat.le_refl _) hr
        have HRW : Hid (∀ w2 F2, SMid W w2 b F2 (V.shortD (d.write n (V.bl Dt)).1) c G5 d T wr.heap.size ⟨K, n, ⟨sk, si, st, sc, sb⟩, Dt, fl⟩ (.slice fka fl.length fkc) → ∀ w3 v, Below w2.heap.size w2 w3 → w3.ownsRow w2.heap.size 5 1 v Dt.size (u8s Dt.data.toList) → Calls Tryz.prog 13 #[.pointer (some ⟨c, 0, none⟩), .int .i64 n, v] w3 fun e w'' => e = .returned (.int .i64 ((d.write n (V.bl Dt)).2 : Int)) ∧ ∃ G' T', SMid W w'' b F2 (V.shortD (d.write n (V.bl Dt)).1) c G' (d.write n (V.bl Dt)).1 T' wr.heap.size ⟨K, n, ⟨sk, si, st, sc, sb⟩, Dt, fl⟩ (.slice fka fl.length fkc) ∧ T' + V.armSum (d.write n (V.bl Dt)).1.arms ≤ T + V.armSum d.arms) := fun w2 F2 M w3 v hb hr => M.rwrite n HXB.out.n v Dt w2.heap.size HRO.out.1 HXB.out.data HRO.out.2.1 HFI.out.arms w3 hb (Nat.le_refl _) hr
        have HFNX : Hid (∀ T', T' + V.armSum (d.write n (V.bl Dt)).1.arms ≤ T + V.armSum d.arms → SFine steps (k + 1) (d.write n (V.bl Dt)).1 T') := fun T' h => HFI.out.next hkl (by have h1 := V.write_pend d n (V.bl Dt); rw [V.bl_len] at h1; have := HXB.out.data; simp only [] at this; omega) (by have := V.write_armsN d n (V.bl Dt); omega) (by omega) (V.write_armsIn HFI.out.arms _ _)
        generalize d.write n (V.bl Dt) = R at *
        obtain ⟨dz, cd⟩ := R
        simp only [] at HWR HRW HFNX
        obtain ⟨ev, hev⟩ : ∃ ev, ev = V.errV A cd := ⟨_, rfl⟩
        rw [← hev] at HWR
        clear hev
        have g1 : W1.cell? ⟨wr.heap.size, 1, none⟩ = some (.int .i64 n) := HM1.out.nine.s1
        have g7 : W1.cell? ⟨wr.heap.size, 7, none⟩ = some (.string Dt) := HM1.out.nine.s7
        go_wp2_with fail
        rw [← HW1.out]
        clear e0 f1 f2 f3 f4 f5 f6 f7 f8
        go_region_held3 (fun w' => w'.cell? ⟨wr.heap.size, 1, none⟩ = some (.int .i64 n) ∧ w'.cell? ⟨wr.heap.size, 7, none⟩ = some (.string Dt)) (go_keep)
          (first
            | (go_at_call 12; refine (HBY.out _).mono ?_; rintro e w3 ⟨v, rfl, hrow, hbd⟩; have hb3 : Below W1.heap.size W1 w3 := (by first | exact V.undrew hbd | exact hbd); clear hbd; have y1 := V.cell_below hb3 g1; have y7 := V.cell_below hb3 g7; obtain ⟨va, vc, rfl, -⟩ := V.owns_form hrow)
            | (go_at_call 11; refine (HWR.out _ _ hb3 hrow).mono ?_; rintro e w4 ⟨rfl, F2, M2⟩; have z1 := M2.nine.s1; have z7 := M2.nine.s7; simp only [] at z1 z7))
        have HM2 := hide M2
        clear M2 hb3 hrow y1 y7 g1 g7 HWR
        go_wp2_with fail
        go_region_held3 (fun w' => w'.cell? ⟨wr.heap.size, 1, none⟩ = some (.int .i64 n) ∧ w'.cell? ⟨wr.heap.size, 7, none⟩ = some (.string Dt)) (go_keep)
          (first
            | (go_at_call 12; refine (HBY.out _).mono ?_; rintro e w5 ⟨v5, rfl, hrow5, hbd⟩; have hb5 : Below w4.heap.size w4 w5 := (by first | exact V.undrew hbd | exact hbd); clear hbd; have y1 := V.cell_below hb5 z1; have y7 := V.cell_below hb5 z7; obtain ⟨va5, vc5, rfl, -⟩ := V.owns_form hrow5)
            | (go_at_call 13; refine (HRW.out w4 F2 HM2.out _ _ hb5 hrow5).mono ?_; rintro e w6 ⟨rfl, G3, T3, M3, t3⟩; have u1 := M3.nine.s1; have u7 := M3.nine.s7; simp only [] at u1 u7))
        have HFN := hide (HFNX.out T3 t3)
        have HM := hide M3
        clear M3 t3 HM2 HRW HBY HFNX u1 u7 y1 y7 z1 z7 hb5 hrow5
        obtain ⟨wz, hwz⟩ : ∃ wz, wz = w6 := ⟨_, rfl⟩
        obtain ⟨Fz, hFz⟩ : ∃ Fz : Nat → Prop, Fz = F2 := ⟨_, rfl⟩
        obtain ⟨Gz, hGz⟩ : ∃ Gz : Nat → Prop, Gz = G3 := ⟨_, rfl⟩
        obtain ⟨Tz, hTz⟩ : ∃ Tz : Nat, Tz = T3 := ⟨_, rfl⟩
        subst hwz hFz hGz hTz
        have HDU : Hid (Calls Tryz.prog 23 #[.pointer (some ⟨b, 0, none⟩)] wz fun e w' => ∃ v', e = .returned v' ∧ w'.ownsRow wz.heap.size 82 2 v' dz.dur.length (V.secCells dz.dur) ∧ Below wz.heap.size wz w') := V.durable_any b Fz (V.shortD dz) wz HM.out.duo.dev
        have HLD : Hid (dz.dur.length ≤ 5864062014805) := by have := HM.out.duo.dev.ok.dur_len; show dz.dur.length ≤ _; have h2 : (V.shortD dz).dur.length = dz.dur.length := rfl; omega
        have HLP : Hid (dz.pend.length ≤ 5864062014805) := by have := HFN.out.pend; show _ ≤ _; omega
        have hq1 : (dz.nr != dz.nr) = false := by simp
        have hq2 : (dz.nw != dz.nw) = false := by simp
        have hq3 : (dz.ns != dz.ns) = false := by simp
        go_wp2_with fail
        refine HDU.out.mono ?_
        rintro e w6 ⟨v6, rfl, hr6, hb6⟩
        have HS6 := hide (V.secsIn_own hr6 HLD.out)
        obtain ⟨a6, c6, rfl, -⟩ := V.owns_form hr6
        have HB6 := hide hb6
        have HRD := hide (V.rdur_any c Gz dz w6 (HM.out.up hb6).duo.ref.at' HLD.out)
        clear HDU hr6 hb6
        go_wp2_with fail
        refine HRD.out.mono ?_
        rintro e w7 ⟨v7, rfl, hr7, hb7⟩
        have HS7 := hide (V.secsIn_own hr7 HLD.out)
        obtain ⟨a7, c7, rfl, -⟩ := V.owns_form hr7
        have HB7 := hide (Below.next HB6.out hb7)
        have HSA := hide (V.sames_any dz.dur _ _ w7 (HS6.out.keep hb7) HS7.out)
        clear HRD hr7 hb7 HB6
        go_wp2_with fail
        refine HSA.out.mono ?_
        rintro e w8 ⟨rfl, hb8⟩
        have HB8 := hide (Below.next HB7.out hb8)
        have HPN : Hid (Calls Tryz.prog 25 #[.pointer (some ⟨b, 0, none⟩)] w8 fun e w' => ∃ v', e = .returned v' ∧ w'.ownsRow w8.heap.size 82 2 v' dz.pend.length (V.secCells dz.pend) ∧ Below w8.heap.size w8 w') := V.pending_any b Fz (V.shortD dz) w8 (HM.out.up HB8.out).duo.dev HLP.out
        clear HSA hb8 HB7 HS6 HS7
        go_wp2_with fail
        refine HPN.out.mono ?_
        rintro e w9 ⟨v9, rfl, hr9, hb9⟩
        have HS9 := hide (V.secsIn_own hr9 HLP.out)
        obtain ⟨a9, c9, rfl, -⟩ := V.owns_form hr9
        have HB9 := hide (Below.next HB8.out hb9)
        have HRP := hide (V.rpend_any c Gz dz w9 (HM.out.up HB9.out).duo.ref.at' HLP.out)
        clear HPN hr9 hb9 HB8
        go_wp2_with fail
        refine HRP.out.mono ?_
        rintro e w10 ⟨v10, rfl, hr10, hb10⟩
        have HS10 := hide (V.secsIn_own hr10 HLP.out)
        obtain ⟨a10, c10, rfl, -⟩ := V.owns_form hr10
        have HB10 := hide (Below.next HB9.out hb10)
        have HSB := hide (V.sames_any dz.pend _ _ w10 (HS9.out.keep hb10) HS10.out)
        clear HRP hr10 hb10 HB9
        go_wp2_with fail
        refine HSB.out.mono ?_
        rintro e w11 ⟨rfl, hb11⟩
        have HB11 := hide (Below.next HB10.out hb11)
        have HCN : Hid (Calls Tryz.prog 27 #[.pointer (some ⟨b, 0, none⟩)] w11 fun e w' => e = .returned (.tuple #[.int .i64 dz.nr, .int .i64 dz.nw, .int .i64 dz.ns]) ∧ Below w11.heap.size w11 w') := V.counts_any b Fz (V.shortD dz) w11 (HM.out.up HB11.out).duo.dev
        clear HSB hb11 HB10 HS9 HS10
        go_wp2_with fail
        refine HCN.out.mono ?_
        rintro e w12 ⟨rfl, hb12⟩
        have HB12 := hide (Below.next HB11.out hb12)
        have HRC := hide (V.rcounts_any c Gz dz w12 (HM.out.up HB12.out).duo.ref.at')
        clear HCN hb12 HB11
        go_wp2_with fail
        refine HRC.out.mono ?_
        rintro e w13 ⟨rfl, hb13⟩
        have HEND : Hid (SDuo W w13 b Fz (V.shortD dz) c Gz dz Tz) := (HM.out.up (Below.next HB12.out hb13)).duo
        clear HRC hb13 HB12 HM
        go_wp2_with fail
        go_roundw
        case rel => exact ⟨k + 1, Fz, Gz, dz, Tz, by omega, by go_num, HEND.out, HFN.out⟩
        case measure => simp [intOf]; omega
      · have e1 : (K == 1) = false := by simp; omega
        have e2 : (K == 2) = false := by simp; omega
        have e3 : (K == 3) = false := by simp; omega
        have e4 : (K == 4) = true := by simp [hk]
        have HKK := hide hk
        clear hk
        have HS := hide (HM1.out.sync HE.out HRO.out.1 W1 (Below.refl _ _))
        have HRW : Hid (∀ w2 F2, SMid W w2 b F2 (V.shortD d.sync.1) c G5 d T wr.heap.size ⟨K, n, ⟨sk, si, st, sc, sb⟩, Dt, fl⟩ (.slice fka fl.length fkc) → Calls Tryz.prog 15 #[.pointer (some ⟨c, 0, none⟩)] w2 fun e w'' => e = .returned (.int .i64 (d.sync.2 : Int)) ∧ ∃ G' T', SMid W w'' b F2 (V.shortD d.sync.1) c G' d.sync.1 T' wr.heap.size ⟨K, n, ⟨sk, si, st, sc, sb⟩, Dt, fl⟩ (.slice fka fl.length fkc) ∧ T' + V.armSum d.sync.1.arms ≤ T + V.armSum d.arms) := fun w2 F2 M => M.rsync HRO.out.1 HRO.out.2.1 HFI.out.arms w2 (Below.refl _ _)
        have HFNX : Hid (∀ T', T' + V.armSum d.sync.1.arms ≤ T + V.armSum d.arms → SFine steps (k + 1) d.sync.1 T') := fun T' h => HFI.out.next hkl (by have := V.sync_pend d; omega) (by have := V.sync_armsN d; omega) (by omega) (V.sync_armsIn HFI.out.arms)
        generalize d.sync = R at *
        obtain ⟨dz, cd⟩ := R
        simp only [] at HS HRW HFNX
        obtain ⟨ev, hev⟩ : ∃ ev, ev = V.errV A cd := ⟨_, rfl⟩
        rw [← hev] at HS
        clear hev
        go_wp2_with fail
        rw [← HW1.out]
        refine HS.out.mono ?_
        rintro e w2 ⟨rfl, F2, M2⟩
        have HR2 := hide (HRW.out w2 F2 M2)
        clear M2 HS HRW e0 f1 f2 f3 f4 f5 f6 f7 f8
        go_wp2_with fail
        refine HR2.out.mono ?_
        rintro e w3 ⟨rfl, G3, T3, M3, t3⟩
        have HFN := hide (HFNX.out T3 t3)
        have HM := hide M3
        clear M3 t3 HR2 HFNX
        obtain ⟨wz, hwz⟩ : ∃ wz, wz = w3 := ⟨_, rfl⟩
        obtain ⟨Fz, hFz⟩ : ∃ Fz : Nat → Prop, Fz = F2 := ⟨_, rfl⟩
        obtain ⟨Gz, hGz⟩ : ∃ Gz : Nat → Prop, Gz = G3 := ⟨_, rfl⟩
        obtain ⟨Tz, hTz⟩ : ∃ Tz : Nat, Tz = T3 := ⟨_, rfl⟩
        subst hwz hFz hGz hTz
        have HDU : Hid (Calls Tryz.prog 23 #[.pointer (some ⟨b, 0, none⟩)] wz fun e w' => ∃ v', e = .returned v' ∧ w'.ownsRow wz.heap.size 82 2 v' dz.dur.length (V.secCells dz.dur) ∧ Below wz.heap.size wz w') := V.durable_any b Fz (V.shortD dz) wz HM.out.duo.dev
        have HLD : Hid (dz.dur.length ≤ 5864062014805) := by have := HM.out.duo.dev.ok.dur_len; show dz.dur.length ≤ _; have h2 : (V.shortD dz).dur.length = dz.dur.length := rfl; omega
        have HLP : Hid (dz.pend.length ≤ 5864062014805) := by have := HFN.out.pend; show _ ≤ _; omega
        have hq1 : (dz.nr != dz.nr) = false := by simp
        have hq2 : (dz.nw != dz.nw) = false := by simp
        have hq3 : (dz.ns != dz.ns) = false := by simp
        go_wp2_with fail
        refine HDU.out.mono ?_
        rintro e w6 ⟨v6, rfl, hr6, hb6⟩
        have HS6 := hide (V.secsIn_own hr6 HLD.out)
        obtain ⟨a6, c6, rfl, -⟩ := V.owns_form hr6
        have HB6 := hide hb6
        have HRD := hide (V.rdur_any c Gz dz w6 (HM.out.up hb6).duo.ref.at' HLD.out)
        clear HDU hr6 hb6
        go_wp2_with fail
        refine HRD.out.mono ?_
        rintro e w7 ⟨v7, rfl, hr7, hb7⟩
        have HS7 := hide (V.secsIn_own hr7 HLD.out)
        obtain ⟨a7, c7, rfl, -⟩ := V.owns_form hr7
        have HB7 := hide (Below.next HB6.out hb7)
        have HSA := hide (V.sames_any dz.dur _ _ w7 (HS6.out.keep hb7) HS7.out)
        clear HRD hr7 hb7 HB6
        go_wp2_with fail
        refine HSA.out.mono ?_
        rintro e w8 ⟨rfl, hb8⟩
        have HB8 := hide (Below.next HB7.out hb8)
        have HPN : Hid (Calls Tryz.prog 25 #[.pointer (some ⟨b, 0, none⟩)] w8 fun e w' => ∃ v', e = .returned v' ∧ w'.ownsRow w8.heap.size 82 2 v' dz.pend.length (V.secCells dz.pend) ∧ Below w8.heap.size w8 w') := V.pending_any b Fz (V.shortD dz) w8 (HM.out.up HB8.out).duo.dev HLP.out
        clear HSA hb8 HB7 HS6 HS7
        go_wp2_with fail
        refine HPN.out.mono ?_
        rintro e w9 ⟨v9, rfl, hr9, hb9⟩
        have HS9 := hide (V.secsIn_own hr9 HLP.out)
        obtain ⟨a9, c9, rfl, -⟩ := V.owns_form hr9
        have HB9 := hide (Below.next HB8.out hb9)
        have HRP := hide (V.rpend_any c Gz dz w9 (HM.out.up HB9.out).duo.ref.at' HLP.out)
        clear HPN hr9 hb9 HB8
        go_wp2_with fail
        refine HRP.out.mono ?_
        rintro e w10 ⟨v10, rfl, hr10, hb10⟩
        have HS10 := hide (V.secsIn_own hr10 HLP.out)
        obtain ⟨a10, c10, rfl, -⟩ := V.owns_form hr10
        have HB10 := hide (Below.next HB9.out hb10)
        have HSB := hide (V.sames_any dz.pend _ _ w10 (HS9.out.keep hb10) HS10.out)
        clear HRP hr10 hb10 HB9
        go_wp2_with fail
        refine HSB.out.mono ?_
        rintro e w11 ⟨rfl, hb11⟩
        have HB11 := hide (Below.next HB10.out hb11)
        have HCN : Hid (Calls Tryz.prog 27 #[.pointer (some ⟨b, 0, none⟩)] w11 fun e w' => e = .returned (.tuple #[.int .i64 dz.nr, .int .i64 dz.nw, .int .i64 dz.ns]) ∧ Below w11.heap.size w11 w') := V.counts_any b Fz (V.shortD dz) w11 (HM.out.up HB11.out).duo.dev
        clear HSB hb11 HB10 HS9 HS10
        go_wp2_with fail
        refine HCN.out.mono ?_
        rintro e w12 ⟨rfl, hb12⟩
        have HB12 := hide (Below.next HB11.out hb12)
        have HRC := hide (V.rcounts_any c Gz dz w12 (HM.out.up HB12.out).duo.ref.at')
        clear HCN hb12 HB11
        go_wp2_with fail
        refine HRC.out.mono ?_
        rintro e w13 ⟨rfl, hb13⟩
        have HEND : Hid (SDuo W w13 b Fz (V.shortD dz) c Gz dz Tz) := (HM.out.up (Below.next HB12.out hb13)).duo
        clear HRC hb13 HB12 HM
        go_wp2_with fail
        go_roundw
        case rel => exact ⟨k + 1, Fz, Gz, dz, Tz, by omega, by go_num, HEND.out, HFN.out⟩
        case measure => simp [intOf]; omega
      · have e1 : (K == 1) = false := by simp; omega
        have e2 : (K == 2) = false := by simp; omega
        have e3 : (K == 3) = false := by simp; omega
        have e4 : (K == 4) = false := by simp; omega
        have e5 : (K == 5) = true := by simp [hk]
        have HKK := hide hk
        clear hk
        have HS := hide (HM1.out.crash fl (.slice fka fl.length fkc) HFX.out HRO.out.1 W1 (Below.refl _ _))
        have HRW : Hid (∀ w2 F2, SMid W w2 b F2 (V.shortD (d.crash fl)) c G5 d T wr.heap.size ⟨K, n, ⟨sk, si, st, sc, sb⟩, Dt, fl⟩ (.slice fka fl.length fkc) → Calls Tryz.prog 17 #[.pointer (some ⟨c, 0, none⟩), (.slice fka fl.length fkc)] w2 fun e w'' => e = .returned (.tuple #[]) ∧ ∃ G' T', SMid W w'' b F2 (V.shortD (d.crash fl)) c G' (d.crash fl) T' wr.heap.size ⟨K, n, ⟨sk, si, st, sc, sb⟩, Dt, fl⟩ (.slice fka fl.length fkc) ∧ T' + V.armSum (d.crash fl).arms ≤ T + V.armSum d.arms + fl.length) := fun w2 F2 M => M.rcrash fl (.slice fka fl.length fkc) HFX.out ⟨HXB.out.few, HXB.out.junk⟩ HRO.out.1 HRO.out.2.1 w2 (Below.refl _ _)
        have HFNX : Hid (∀ T', T' + V.armSum (d.crash fl).arms ≤ T + V.armSum d.arms + fl.length → SFine steps (k + 1) (d.crash fl) T') := fun T' h => HFI.out.next hkl (by have := V.crash_pend d fl; omega) (by rw [V.crash_arms]; omega) (by rw [HSK.out]; exact h) (by rw [V.crash_arms]; exact HFI.out.arms)
        generalize d.crash fl = dz at *
        go_wp2_with fail
        rw [← HW1.out]
        refine HS.out.mono ?_
        rintro e w2 ⟨rfl, F2, M2⟩
        have HR2 := hide (HRW.out w2 F2 M2)
        have y8 : w2.cell? ⟨wr.heap.size, 8, none⟩ = some (.slice fka fl.length fkc) := M2.nine.s8
        clear M2 HS HRW e0 f1 f2 f3 f4 f5 f6 f7 f8
        go_wp2_with fail
        refine HR2.out.mono ?_
        rintro e w3 ⟨rfl, G3, T3, M3, t3⟩
        have HFN := hide (HFNX.out T3 t3)
        have HM := hide M3
        clear M3 t3 HR2 HFNX y8
        obtain ⟨wz, hwz⟩ : ∃ wz, wz = w3 := ⟨_, rfl⟩
        obtain ⟨Fz, hFz⟩ : ∃ Fz : Nat → Prop, Fz = F2 := ⟨_, rfl⟩
        obtain ⟨Gz, hGz⟩ : ∃ Gz : Nat → Prop, Gz = G3 := ⟨_, rfl⟩
        obtain ⟨Tz, hTz⟩ : ∃ Tz : Nat, Tz = T3 := ⟨_, rfl⟩
        subst hwz hFz hGz hTz
        have HDU : Hid (Calls Tryz.prog 23 #[.pointer (some ⟨b, 0, none⟩)] wz fun e w' => ∃ v', e = .returned v' ∧ w'.ownsRow wz.heap.size 82 2 v' dz.dur.length (V.secCells dz.dur) ∧ Below wz.heap.size wz w') := V.durable_any b Fz (V.shortD dz) wz HM.out.duo.dev
        have HLD : Hid (dz.dur.length ≤ 5864062014805) := by have := HM.out.duo.dev.ok.dur_len; show dz.dur.length ≤ _; have h2 : (V.shortD dz).dur.length = dz.dur.length := rfl; omega
        have HLP : Hid (dz.pend.length ≤ 5864062014805) := by have := HFN.out.pend; show _ ≤ _; omega
        have hq1 : (dz.nr != dz.nr) = false := by simp
        have hq2 : (dz.nw != dz.nw) = false := by simp
        have hq3 : (dz.ns != dz.ns) = false := by simp
        go_wp2_with fail
        refine HDU.out.mono ?_
        rintro e w6 ⟨v6, rfl, hr6, hb6⟩
        have HS6 := hide (V.secsIn_own hr6 HLD.out)
        obtain ⟨a6, c6, rfl, -⟩ := V.owns_form hr6
        have HB6 := hide hb6
        have HRD := hide (V.rdur_any c Gz dz w6 (HM.out.up hb6).duo.ref.at' HLD.out)
        clear HDU hr6 hb6
        go_wp2_with fail
        refine HRD.out.mono ?_
        rintro e w7 ⟨v7, rfl, hr7, hb7⟩
        have HS7 := hide (V.secsIn_own hr7 HLD.out)
        obtain ⟨a7, c7, rfl, -⟩ := V.owns_form hr7
        have HB7 := hide (Below.next HB6.out hb7)
        have HSA := hide (V.sames_any dz.dur _ _ w7 (HS6.out.keep hb7) HS7.out)
        clear HRD hr7 hb7 HB6
        go_wp2_with fail
        refine HSA.out.mono ?_
        rintro e w8 ⟨rfl, hb8⟩
        have HB8 := hide (Below.next HB7.out hb8)
        have HPN : Hid (Calls Tryz.prog 25 #[.pointer (some ⟨b, 0, none⟩)] w8 fun e w' => ∃ v', e = .returned v' ∧ w'.ownsRow w8.heap.size 82 2 v' dz.pend.length (V.secCells dz.pend) ∧ Below w8.heap.size w8 w') := V.pending_any b Fz (V.shortD dz) w8 (HM.out.up HB8.out).duo.dev HLP.out
        clear HSA hb8 HB7 HS6 HS7
        go_wp2_with fail
        refine HPN.out.mono ?_
        rintro e w9 ⟨v9, rfl, hr9, hb9⟩
        have HS9 := hide (V.secsIn_own hr9 HLP.out)
        obtain ⟨a9, c9, rfl, -⟩ := V.owns_form hr9
        have HB9 := hide (Below.next HB8.out hb9)
        have HRP := hide (V.rpend_any c Gz dz w9 (HM.out.up HB9.out).duo.ref.at' HLP.out)
        clear HPN hr9 hb9 HB8
        go_wp2_with fail
        refine HRP.out.mono ?_
        rintro e w10 ⟨v10, rfl, hr10, hb10⟩
        have HS10 := hide (V.secsIn_own hr10 HLP.out)
        obtain ⟨a10, c10, rfl, -⟩ := V.owns_form hr10
        have HB10 := hide (Below.next HB9.out hb10)
        have HSB := hide (V.sames_any dz.pend _ _ w10 (HS9.out.keep hb10) HS10.out)
        clear HRP hr10 hb10 HB9
        go_wp2_with fail
        refine HSB.out.mono ?_
        rintro e w11 ⟨rfl, hb11⟩
        have HB11 := hide (Below.next HB10.out hb11)
        have HCN : Hid (Calls Tryz.prog 27 #[.pointer (some ⟨b, 0, none⟩)] w11 fun e w' => e = .returned (.tuple #[.int .i64 dz.nr, .int .i64 dz.nw, .int .i64 dz.ns]) ∧ Below w11.heap.size w11 w') := V.counts_any b Fz (V.shortD dz) w11 (HM.out.up HB11.out).duo.dev
        clear HSB hb11 HB10 HS9 HS10
        go_wp2_with fail
        refine HCN.out.mono ?_
        rintro e w12 ⟨rfl, hb12⟩
        have HB12 := hide (Below.next HB11.out hb12)
        have HRC := hide (V.rcounts_any c Gz dz w12 (HM.out.up HB12.out).duo.ref.at')
        clear HCN hb12 HB11
        go_wp2_with fail
        refine HRC.out.mono ?_
        rintro e w13 ⟨rfl, hb13⟩
        have HEND : Hid (SDuo W w13 b Fz (V.shortD dz) c Gz dz Tz) := (HM.out.up (Below.next HB12.out hb13)).duo
        clear HRC hb13 HB12 HM
        go_wp2_with fail
        go_roundw
        case rel => exact ⟨k + 1, Fz, Gz, dz, Tz, by omega, by go_num, HEND.out, HFN.out⟩
        case measure => simp [intOf]; omega
      · have e1 : (K == 1) = false := by simp; omega
        have e2 : (K == 2) = false := by simp; omega
        have e3 : (K == 3) = false := by simp; omega
        have e4 : (K == 4) = false := by simp; omega
        have e5 : (K == 5) = false := by simp; omega
        have e6 : (K == 6) = true := by simp [hk]
        have HKK := hide hk
        clear hk
        have HS := hide (HM1.out.revive W1 (Below.refl _ _))
        have HRW : Hid (∀ w2, SMid W w2 b F5 (V.shortD d.revive) c G5 d T wr.heap.size ⟨K, n, ⟨sk, si, st, sc, sb⟩, Dt, fl⟩ (.slice fka fl.length fkc) → Calls Tryz.prog 19 #[.pointer (some ⟨c, 0, none⟩)] w2 fun e w'' => e = .returned (.tuple #[]) ∧ SMid W w'' b F5 (V.shortD d.revive) c G5 d.revive T wr.heap.size ⟨K, n, ⟨sk, si, st, sc, sb⟩, Dt, fl⟩ (.slice fka fl.length fkc)) := fun w2 M => M.rrevive w2 (Below.refl _ _)
        have HFN : Hid (SFine steps (k + 1) d.revive T) := HFI.out.next hkl (by show d.pend.length ≤ _; omega) (by show d.arms.length ≤ _; omega) (by show T + V.armSum d.arms ≤ _; omega) HFI.out.arms
        generalize d.revive = dz at *
        go_wp2_with fail
        rw [← HW1.out]
        refine HS.out.mono ?_
        rintro e w2 ⟨rfl, M2⟩
        have HR2 := hide (HRW.out w2 M2)
        clear M2 HS HRW e0 f1 f2 f3 f4 f5 f6 f7 f8
        go_wp2_with fail
        refine HR2.out.mono ?_
        rintro e wz ⟨rfl, M3⟩
        have HM := hide M3
        clear M3 HR2
        obtain ⟨Fz, hFz⟩ : ∃ Fz : Nat → Prop, Fz = F5 := ⟨_, rfl⟩
        obtain ⟨Gz, hGz⟩ : ∃ Gz : Nat → Prop, Gz = G5 := ⟨_, rfl⟩
        obtain ⟨Tz, hTz⟩ : ∃ Tz : Nat, Tz = T := ⟨_, rfl⟩
        rw [← hFz, ← hGz, ← hTz] at HM
        rw [← hTz] at HFN
        clear hFz hGz hTz
        have HDU : Hid (Calls Tryz.prog 23 #[.pointer (some ⟨b, 0, none⟩)] wz fun e w' => ∃ v', e = .returned v' ∧ w'.ownsRow wz.heap.size 82 2 v' dz.dur.length (V.secCells dz.dur) ∧ Below wz.heap.size wz w') := V.durable_any b Fz (V.shortD dz) wz HM.out.duo.dev
        have HLD : Hid (dz.dur.length ≤ 5864062014805) := by have := HM.out.duo.dev.ok.dur_len; show dz.dur.length ≤ _; have h2 : (V.shortD dz).dur.length = dz.dur.length := rfl; omega
        have HLP : Hid (dz.pend.length ≤ 5864062014805) := by have := HFN.out.pend; show _ ≤ _; omega
        have hq1 : (dz.nr != dz.nr) = false := by simp
        have hq2 : (dz.nw != dz.nw) = false := by simp
        have hq3 : (dz.ns != dz.ns) = false := by simp
        go_wp2_with fail
        refine HDU.out.mono ?_
        rintro e w6 ⟨v6, rfl, hr6, hb6⟩
        have HS6 := hide (V.secsIn_own hr6 HLD.out)
        obtain ⟨a6, c6, rfl, -⟩ := V.owns_form hr6
        have HB6 := hide hb6
        have HRD := hide (V.rdur_any c Gz dz w6 (HM.out.up hb6).duo.ref.at' HLD.out)
        clear HDU hr6 hb6
        go_wp2_with fail
        refine HRD.out.mono ?_
        rintro e w7 ⟨v7, rfl, hr7, hb7⟩
        have HS7 := hide (V.secsIn_own hr7 HLD.out)
        obtain ⟨a7, c7, rfl, -⟩ := V.owns_form hr7
        have HB7 := hide (Below.next HB6.out hb7)
        have HSA := hide (V.sames_any dz.dur _ _ w7 (HS6.out.keep hb7) HS7.out)
        clear HRD hr7 hb7 HB6
        go_wp2_with fail
        refine HSA.out.mono ?_
        rintro e w8 ⟨rfl, hb8⟩
        have HB8 := hide (Below.next HB7.out hb8)
        have HPN : Hid (Calls Tryz.prog 25 #[.pointer (some ⟨b, 0, none⟩)] w8 fun e w' => ∃ v', e = .returned v' ∧ w'.ownsRow w8.heap.size 82 2 v' dz.pend.length (V.secCells dz.pend) ∧ Below w8.heap.size w8 w') := V.pending_any b Fz (V.shortD dz) w8 (HM.out.up HB8.out).duo.dev HLP.out
        clear HSA hb8 HB7 HS6 HS7
        go_wp2_with fail
        refine HPN.out.mono ?_
        rintro e w9 ⟨v9, rfl, hr9, hb9⟩
        have HS9 := hide (V.secsIn_own hr9 HLP.out)
        obtain ⟨a9, c9, rfl, -⟩ := V.owns_form hr9
        have HB9 := hide (Below.next HB8.out hb9)
        have HRP := hide (V.rpend_any c Gz dz w9 (HM.out.up HB9.out).duo.ref.at' HLP.out)
        clear HPN hr9 hb9 HB8
        go_wp2_with fail
        refine HRP.out.mono ?_
        rintro e w10 ⟨v10, rfl, hr10, hb10⟩
        have HS10 := hide (V.secsIn_own hr10 HLP.out)
        obtain ⟨a10, c10, rfl, -⟩ := V.owns_form hr10
        have HB10 := hide (Below.next HB9.out hb10)
        have HSB := hide (V.sames_any dz.pend _ _ w10 (HS9.out.keep hb10) HS10.out)
        clear HRP hr10 hb10 HB9
        go_wp2_with fail
        refine HSB.out.mono ?_
        rintro e w11 ⟨rfl, hb11⟩
        have HB11 := hide (Below.next HB10.out hb11)
        have HCN : Hid (Calls Tryz.prog 27 #[.pointer (some ⟨b, 0, none⟩)] w11 fun e w' => e = .returned (.tuple #[.int .i64 dz.nr, .int .i64 dz.nw, .int .i64 dz.ns]) ∧ Below w11.heap.size w11 w') := V.counts_any b Fz (V.shortD dz) w11 (HM.out.up HB11.out).duo.dev
        clear HSB hb11 HB10 HS9 HS10
        go_wp2_with fail
        refine HCN.out.mono ?_
        rintro e w12 ⟨rfl, hb12⟩
        have HB12 := hide (Below.next HB11.out hb12)
        have HRC := hide (V.rcounts_any c Gz dz w12 (HM.out.up HB12.out).duo.ref.at')
        clear HCN hb12 HB11
        go_wp2_with fail
        refine HRC.out.mono ?_
        rintro e w13 ⟨rfl, hb13⟩
        have HEND : Hid (SDuo W w13 b Fz (V.shortD dz) c Gz dz Tz) := (HM.out.up (Below.next HB12.out hb13)).duo
        clear HRC hb13 HB12 HM
        go_wp2_with fail
        go_roundw
        case rel => exact ⟨k + 1, Fz, Gz, dz, Tz, by omega, by go_num, HEND.out, HFN.out⟩
        case measure => simp [intOf]; omega
      · have e1 : (K == 1) = false := by simp; omega
        have e2 : (K == 2) = false := by simp; omega
        have e3 : (K == 3) = false := by simp; omega
        have e4 : (K == 4) = false := by simp; omega
        have e5 : (K == 5) = false := by simp; omega
        have e6 : (K == 6) = false := by simp; omega
        have e7 : (K == 7) = true := by simp [hk]
        have HKK := hide hk
        clear hk
        have HS := hide (HM1.out.arm n HXB.out.n.2 fl (.slice fka fl.length fkc) HFX.out ⟨HXB.out.few, HXB.out.junk⟩ HRO.out.2.2 W1 (Below.refl _ _))
        have HRW : Hid (∀ w2 F2, SMid W w2 b F2 (V.shortD (d.armF n fl)) c G5 d T wr.heap.size ⟨K, n, ⟨sk, si, st, sc, sb⟩, Dt, fl⟩ (.slice fka fl.length fkc) → Calls Tryz.prog 21 #[.pointer (some ⟨c, 0, none⟩), .int .i64 n, (.slice fka fl.length fkc)] w2 fun e w'' => e = .returned (.tuple #[]) ∧ ∃ G', SMid W w'' b F2 (V.shortD (d.armF n fl)) c G' (d.armF n fl) T wr.heap.size ⟨K, n, ⟨sk, si, st, sc, sb⟩, Dt, fl⟩ (.slice fka fl.length fkc)) := fun w2 F2 M => M.rarm n HXB.out.n fl (.slice fka fl.length fkc) HFX.out ⟨HXB.out.few, HXB.out.junk⟩ HRO.out.2.2 w2 (Below.refl _ _)
        have HFN : Hid (SFine steps (k + 1) (d.armF n fl) T) := HFI.out.next hkl (by show d.pend.length ≤ _; omega) (by show (d.arms ++ [_]).length ≤ _; simp) (by rw [HSK.out]; show T + V.armSum (d.arms ++ [_]) ≤ _; simp [V.armSum]; omega) (fun a ha => by
          rcases List.mem_append.1 ha with h | h
          · exact HFI.out.arms a h
          · rw [List.mem_singleton.1 h]; exact ⟨HXB.out.few, HXB.out.junk⟩)
        generalize d.armF n fl = dz at *
        go_wp2_with fail
        rw [← HW1.out]
        refine HS.out.mono ?_
        rintro e w2 ⟨rfl, F2, M2⟩
        have HR2 := hide (HRW.out w2 F2 M2)
        have y1 : w2.cell? ⟨wr.heap.size, 1, none⟩ = some (.int .i64 n) := M2.nine.s1
        have y8 : w2.cell? ⟨wr.heap.size, 8, none⟩ = some (.slice fka fl.length fkc) := M2.nine.s8
        clear M2 HS HRW e0 f1 f2 f3 f4 f5 f6 f7 f8
        go_wp2_with fail
        refine HR2.out.mono ?_
        rintro e wz ⟨rfl, Gz, M3⟩
        have HM := hide M3
        clear M3 HR2 y1 y8
        obtain ⟨Fz, hFz⟩ : ∃ Fz : Nat → Prop, Fz = F2 := ⟨_, rfl⟩
        obtain ⟨Tz, hTz⟩ : ∃ Tz : Nat, Tz = T := ⟨_, rfl⟩
        rw [← hFz, ← hTz] at HM
        rw [← hTz] at HFN
        clear hFz hTz
        have HDU : Hid (Calls Tryz.prog 23 #[.pointer (some ⟨b, 0, none⟩)] wz fun e w' => ∃ v', e = .returned v' ∧ w'.ownsRow wz.heap.size 82 2 v' dz.dur.length (V.secCells dz.dur) ∧ Below wz.heap.size wz w') := V.durable_any b Fz (V.shortD dz) wz HM.out.duo.dev
        have HLD : Hid (dz.dur.length ≤ 5864062014805) := by have := HM.out.duo.dev.ok.dur_len; show dz.dur.length ≤ _; have h2 : (V.shortD dz).dur.length = dz.dur.length := rfl; omega
        have HLP : Hid (dz.pend.length ≤ 5864062014805) := by have := HFN.out.pend; show _ ≤ _; omega
        have hq1 : (dz.nr != dz.nr) = false := by simp
        have hq2 : (dz.nw != dz.nw) = false := by simp
        have hq3 : (dz.ns != dz.ns) = false := by simp
        go_wp2_with fail
        refine HDU.out.mono ?_
        rintro e w6 ⟨v6, rfl, hr6, hb6⟩
        have HS6 := hide (V.secsIn_own hr6 HLD.out)
        obtain ⟨a6, c6, rfl, -⟩ := V.owns_form hr6
        have HB6 := hide hb6
        have HRD := hide (V.rdur_any c Gz dz w6 (HM.out.up hb6).duo.ref.at' HLD.out)
        clear HDU hr6 hb6
        go_wp2_with fail
        refine HRD.out.mono ?_
        rintro e w7 ⟨v7, rfl, hr7, hb7⟩
        have HS7 := hide (V.secsIn_own hr7 HLD.out)
        obtain ⟨a7, c7, rfl, -⟩ := V.owns_form hr7
        have HB7 := hide (Below.next HB6.out hb7)
        have HSA := hide (V.sames_any dz.dur _ _ w7 (HS6.out.keep hb7) HS7.out)
        clear HRD hr7 hb7 HB6
        go_wp2_with fail
        refine HSA.out.mono ?_
        rintro e w8 ⟨rfl, hb8⟩
        have HB8 := hide (Below.next HB7.out hb8)
        have HPN : Hid (Calls Tryz.prog 25 #[.pointer (some ⟨b, 0, none⟩)] w8 fun e w' => ∃ v', e = .returned v' ∧ w'.ownsRow w8.heap.size 82 2 v' dz.pend.length (V.secCells dz.pend) ∧ Below w8.heap.size w8 w') := V.pending_any b Fz (V.shortD dz) w8 (HM.out.up HB8.out).duo.dev HLP.out
        clear HSA hb8 HB7 HS6 HS7
        go_wp2_with fail
        refine HPN.out.mono ?_
        rintro e w9 ⟨v9, rfl, hr9, hb9⟩
        have HS9 := hide (V.secsIn_own hr9 HLP.out)
        obtain ⟨a9, c9, rfl, -⟩ := V.owns_form hr9
        have HB9 := hide (Below.next HB8.out hb9)
        have HRP := hide (V.rpend_any c Gz dz w9 (HM.out.up HB9.out).duo.ref.at' HLP.out)
        clear HPN hr9 hb9 HB8
        go_wp2_with fail
        refine HRP.out.mono ?_
        rintro e w10 ⟨v10, rfl, hr10, hb10⟩
        have HS10 := hide (V.secsIn_own hr10 HLP.out)
        obtain ⟨a10, c10, rfl, -⟩ := V.owns_form hr10
        have HB10 := hide (Below.next HB9.out hb10)
        have HSB := hide (V.sames_any dz.pend _ _ w10 (HS9.out.keep hb10) HS10.out)
        clear HRP hr10 hb10 HB9
        go_wp2_with fail
        refine HSB.out.mono ?_
        rintro e w11 ⟨rfl, hb11⟩
        have HB11 := hide (Below.next HB10.out hb11)
        have HCN : Hid (Calls Tryz.prog 27 #[.pointer (some ⟨b, 0, none⟩)] w11 fun e w' => e = .returned (.tuple #[.int .i64 dz.nr, .int .i64 dz.nw, .int .i64 dz.ns]) ∧ Below w11.heap.size w11 w') := V.counts_any b Fz (V.shortD dz) w11 (HM.out.up HB11.out).duo.dev
        clear HSB hb11 HB10 HS9 HS10
        go_wp2_with fail
        refine HCN.out.mono ?_
        rintro e w12 ⟨rfl, hb12⟩
        have HB12 := hide (Below.next HB11.out hb12)
        have HRC := hide (V.rcounts_any c Gz dz w12 (HM.out.up HB12.out).duo.ref.at')
        clear HCN hb12 HB11
        go_wp2_with fail
        refine HRC.out.mono ?_
        rintro e w13 ⟨rfl, hb13⟩
        have HEND : Hid (SDuo W w13 b Fz (V.shortD dz) c Gz dz Tz) := (HM.out.up (Below.next HB12.out hb13)).duo
        clear HRC hb13 HB12 HM
        go_wp2_with fail
        go_roundw
        case rel => exact ⟨k + 1, Fz, Gz, dz, Tz, by omega, by go_num, HEND.out, HFN.out⟩
        case measure => simp [intOf]; omega
      · have e1 : (K == 1) = false := by simp; omega
        have e2 : (K == 2) = false := by simp; omega
        have e3 : (K == 3) = false := by simp; omega
        have e4 : (K == 4) = false := by simp; omega
        have e5 : (K == 5) = false := by simp; omega
        have e6 : (K == 6) = false := by simp; omega
        have e7 : (K == 7) = false := by simp; omega
        have HKK := hide hk
        clear hk
        have HFN : Hid (SFine steps (k + 1) d T) := HFI.out.next hkl (by omega) (by omega) (by omega) HFI.out.arms
        have HM := HM1
        obtain ⟨dz, hdz⟩ : ∃ dz, dz = d := ⟨_, rfl⟩
        obtain ⟨wz, hwz⟩ : ∃ wz, wz = W1 := ⟨_, rfl⟩
        obtain ⟨Fz, hFz⟩ : ∃ Fz : Nat → Prop, Fz = F5 := ⟨_, rfl⟩
        obtain ⟨Gz, hGz⟩ : ∃ Gz : Nat → Prop, Gz = G5 := ⟨_, rfl⟩
        obtain ⟨Tz, hTz⟩ : ∃ Tz : Nat, Tz = T := ⟨_, rfl⟩
        rw [← hdz, ← hwz, ← hFz, ← hGz, ← hTz] at HM
        rw [← hdz, ← hTz] at HFN
        clear hFz hGz hTz hdz
        rw [HW1.out] at hwz
        clear HM1
        have HDU : Hid (Calls Tryz.prog 23 #[.pointer (some ⟨b, 0, none⟩)] wz fun e w' => ∃ v', e = .returned v' ∧ w'.ownsRow wz.heap.size 82 2 v' dz.dur.length (V.secCells dz.dur) ∧ Below wz.heap.size wz w') := V.durable_any b Fz (V.shortD dz) wz HM.out.duo.dev
        have HLD : Hid (dz.dur.length ≤ 5864062014805) := by have := HM.out.duo.dev.ok.dur_len; show dz.dur.length ≤ _; have h2 : (V.shortD dz).dur.length = dz.dur.length := rfl; omega
        have HLP : Hid (dz.pend.length ≤ 5864062014805) := by have := HFN.out.pend; show _ ≤ _; omega
        have hq1 : (dz.nr != dz.nr) = false := by simp
        have hq2 : (dz.nw != dz.nw) = false := by simp
        have hq3 : (dz.ns != dz.ns) = false := by simp
        go_wp2_with fail
        rw [← hwz]
        clear hwz e0 f1 f2 f3 f4 f5 f6 f7 f8
        refine HDU.out.mono ?_
        rintro e w6 ⟨v6, rfl, hr6, hb6⟩
        have HS6 := hide (V.secsIn_own hr6 HLD.out)
        obtain ⟨a6, c6, rfl, -⟩ := V.owns_form hr6
        have HB6 := hide hb6
        have HRD := hide (V.rdur_any c Gz dz w6 (HM.out.up hb6).duo.ref.at' HLD.out)
        clear HDU hr6 hb6
        go_wp2_with fail
        refine HRD.out.mono ?_
        rintro e w7 ⟨v7, rfl, hr7, hb7⟩
        have HS7 := hide (V.secsIn_own hr7 HLD.out)
        obtain ⟨a7, c7, rfl, -⟩ := V.owns_form hr7
        have HB7 := hide (Below.next HB6.out hb7)
        have HSA := hide (V.sames_any dz.dur _ _ w7 (HS6.out.keep hb7) HS7.out)
        clear HRD hr7 hb7 HB6
        go_wp2_with fail
        refine HSA.out.mono ?_
        rintro e w8 ⟨rfl, hb8⟩
        have HB8 := hide (Below.next HB7.out hb8)
        have HPN : Hid (Calls Tryz.prog 25 #[.pointer (some ⟨b, 0, none⟩)] w8 fun e w' => ∃ v', e = .returned v' ∧ w'.ownsRow w8.heap.size 82 2 v' dz.pend.length (V.secCells dz.pend) ∧ Below w8.heap.size w8 w') := V.pending_any b Fz (V.shortD dz) w8 (HM.out.up HB8.out).duo.dev HLP.out
        clear HSA hb8 HB7 HS6 HS7
        go_wp2_with fail
        refine HPN.out.mono ?_
        rintro e w9 ⟨v9, rfl, hr9, hb9⟩
        have HS9 := hide (V.secsIn_own hr9 HLP.out)
        obtain ⟨a9, c9, rfl, -⟩ := V.owns_form hr9
        have HB9 := hide (Below.next HB8.out hb9)
        have HRP := hide (V.rpend_any c Gz dz w9 (HM.out.up HB9.out).duo.ref.at' HLP.out)
        clear HPN hr9 hb9 HB8
        go_wp2_with fail
        refine HRP.out.mono ?_
        rintro e w10 ⟨v10, rfl, hr10, hb10⟩
        have HS10 := hide (V.secsIn_own hr10 HLP.out)
        obtain ⟨a10, c10, rfl, -⟩ := V.owns_form hr10
        have HB10 := hide (Below.next HB9.out hb10)
        have HSB := hide (V.sames_any dz.pend _ _ w10 (HS9.out.keep hb10) HS10.out)
        clear HRP hr10 hb10 HB9
        go_wp2_with fail
        refine HSB.out.mono ?_
        rintro e w11 ⟨rfl, hb11⟩
        have HB11 := hide (Below.next HB10.out hb11)
        have HCN : Hid (Calls Tryz.prog 27 #[.pointer (some ⟨b, 0, none⟩)] w11 fun e w' => e = .returned (.tuple #[.int .i64 dz.nr, .int .i64 dz.nw, .int .i64 dz.ns]) ∧ Below w11.heap.size w11 w') := V.counts_any b Fz (V.shortD dz) w11 (HM.out.up HB11.out).duo.dev
        clear HSB hb11 HB10 HS9 HS10
        go_wp2_with fail
        refine HCN.out.mono ?_
        rintro e w12 ⟨rfl, hb12⟩
        have HB12 := hide (Below.next HB11.out hb12)
        have HRC := hide (V.rcounts_any c Gz dz w12 (HM.out.up HB12.out).duo.ref.at')
        clear HCN hb12 HB11
        go_wp2_with fail
        refine HRC.out.mono ?_
        rintro e w13 ⟨rfl, hb13⟩
        have HEND : Hid (SDuo W w13 b Fz (V.shortD dz) c Gz dz Tz) := (HM.out.up (Below.next HB12.out hb13)).duo
        clear HRC hb13 HB12 HM
        go_wp2_with fail
        go_roundw
        case rel => exact ⟨k + 1, Fz, Gz, dz, Tz, by omega, by go_num, HEND.out, HFN.out⟩
        case measure => simp [intOf]; omega
    · have k2 : ¬ (k : Int) < (N : Int) := by omega
      have HBT := hide (Below.next HB0.out P.bel)
      clear P
      go_wp2_with fail
      go_ret
      exact ⟨rfl, HBT.out⟩

end Go.Proofs.YtmifadjgmjnkgaaGreatDoor
