import Derived.Test.YtlopimdnjookeabGreatDoorMPPlays
namespace Go.Proofs.YtlopimdnjookeabGreatDoor
open Go.RowKit

/-- The cells of a step of an argument. -/
def SevenAt (w : World) (g o : Nat) (x : SStp) (q : Value × Value) : Prop :=
  w.cell? ⟨g, o, none⟩ = some (.int .i64 x.kind) ∧ w.cell? ⟨g, o + 1, none⟩ = some (.int .i64 x.n) ∧ w.cell? ⟨g, o + 2, none⟩ = some (.int .i64 x.m.pages) ∧ w.cell? ⟨g, o + 3, none⟩ = some (.int .i64 x.m.root) ∧ w.cell? ⟨g, o + 4, none⟩ = some (.int .u64 (x.m.txid : Int)) ∧
  w.cell? ⟨g, o + 5, none⟩ = some q.1 ∧ w.cell? ⟨g, o + 6, none⟩ = some q.2
/-- The steps of an argument. -/
def SStepsIn (w : World) (v : Value) (l : List SStp) : Prop := ∃ a cap g off, ∃ qs : List (Value × Value), v = .slice a l.length cap ∧ l.length ≤ 1048576 ∧ (0 < l.length → a = some ⟨g, off, none⟩) ∧ qs.length = l.length ∧
  ∀ i (h : i < l.length) (h' : i < qs.length), SevenAt w g (off + i * 7) l[i] qs[i] ∧ PIn w qs[i].1 l[i].data ∧ V.FatesIn w qs[i].2 l[i].fates
structure SStepsT (l : List SStp) : Prop where
  tot : stotF l ≤ 1048576
  each : ∀ x ∈ l, SStepB x
theorem SevenAt.keep {w w' : World} {g o : Nat} {x : SStp} {q : Value × Value} (h : SevenAt w g o x q) (hb : Below w.heap.size w w') : SevenAt w' g o x q := by
  obtain ⟨h0, h1, h2, h3, h4, h5, h6⟩ := h
  exact ⟨V.cell_below hb h0, V.cell_below hb h1, V.cell_below hb h2, V.cell_below hb h3, V.cell_below hb h4, V.cell_below hb h5, V.cell_below hb h6⟩
theorem SStepsIn.keep {w w' : World} {v : Value} {l : List SStp} (h : SStepsIn w v l) (hb : Below w.heap.size w w') : SStepsIn w' v l := by
  obtain ⟨a, cap, g, off, qs, h1, h2, h3, h4, h5⟩ := h
  exact ⟨a, cap, g, off, qs, h1, h2, h3, h4, fun i h h' => ⟨(h5 i h h').1.keep hb, (h5 i h h').2.1.keep hb, (h5 i h h').2.2.keep hb⟩⟩
theorem rnew_all {w : World} {b : Nat} {F : Nat → Prop} {n : Int} (h : V.RBody w b F (V.newDev n) (.slice none 0 0) (.slice none 0 0) (.slice none 0 0) (.slice none 0 0)) : V.RAll w b F (V.newDev n) 0 :=
  ⟨_, _, _, _, h, ⟨_, World.ownsRow_nil _ _ _ _⟩, fun g hg => by simp [Value.ownBlock] at hg, .inl ⟨rfl, rfl⟩, fun g _ => by simp [Value.ownBlock], V.newDev_ok n⟩
theorem pin_nil (W : World) : PIn W (.slice none 0 0) [] := ⟨none, 0, 0, 0, rfl, Nat.le_refl _, by simp, fun h => absurd h (by simp), fun j h => absurd h (by simp)⟩
theorem fin_nil (W : World) : V.FatesIn W (.slice none 0 0) [] := ⟨none, 0, 0, 0, rfl, by simp, fun h => absurd h (by simp), fun j u h => by simp [V.fateCells] at h⟩

set_option maxRecDepth 100000 in
set_option maxHeartbeats 16000000 in
theorem mplays_any (A : Nat → Addr) (X : Int) (sv : Value) (steps : List SStp) (w : World) (hE : EnvT w.heap.size A (A 8) w) (hEr : ErrsAt A w) (hsv : SStepsIn w sv steps) (hst : SStepsT steps) :
    Calls Tryz.prog 3 #[.agg #[.int .i64 X, sv]] w fun e w' => e = .returned (.bool true) ∧ Below w.heap.size w w' := by
  obtain ⟨W, hW⟩ : ∃ W, W = w.alloc (.cells #[.int .i64 X, sv] 24) := ⟨_, rfl⟩
  have hb0 : Below w.heap.size w W := by rw [hW]; exact below_new _ _
  have hbx : Boxed w.heap.size [.int .i64 X, sv] W := by rw [hW]; exact boxed_new w #[.int .i64 X, sv] 24
  have HE : Hid (EnvT W.heap.size A (A 8) W) := by
    have h := hE.keep hb0
    have hz := hb0.size
    exact ⟨⟨h.errs.arg, h.errs.many, h.errs.dead, ⟨by have := h.errs.lo.1; omega, by have := h.errs.lo.2.1; omega, by have := h.errs.lo.2.2; omega⟩, Nat.le_refl _⟩, h.corr, ⟨by have := h.lo.1; omega, by have := h.lo.2; omega⟩, h.tab⟩
  have HER : Hid (ErrsAt A W) := hEr.keep hb0
  have HTH : Hid (SStepsIn W sv steps) := hsv.keep hb0
  have HSL : Hid (steps.length ≤ 1048576) := by obtain ⟨_, _, _, _, _, _, h, _⟩ := hsv; exact h
  have HST := hide hst
  obtain ⟨N, ta, tc, hsve, hN⟩ : ∃ N ta tc, sv = .slice ta N tc ∧ N = steps.length := by
    obtain ⟨a, c, _, _, _, h1, h2, _⟩ := hsv
    exact ⟨_, a, c, h1, rfl⟩
  have HN := hide hN
  subst hsve
  have HBX := hide hbx
  have HB0 := hide hb0
  have HWD := hide hW
  have c0 : W.cell? ⟨w.heap.size, 0, none⟩ = some (.int .i64 X) := hbx.2 0 (by simp)
  have HNW := hide (V.new_any X W)
  clear hsv hE hEr hb0 hbx hN hst
  go_enter Tryz.func3, Tryz.ntmps3
  go_wp2_with fail
  rw [← HWD.out]
  refine HNW.out.mono ?_
  rintro e w1 ⟨b, F, rfl, hd1, hb1, hf1⟩
  have HD1 := hide hd1
  have HF1 := hide hf1
  have HB1 := hide hb1
  have y0 : w1.cell? ⟨w.heap.size, 0, none⟩ = some (.int .i64 X) := V.cell_below hb1 c0
  have HRN := hide (V.rnew_any' X w1)
  clear hd1 hf1 hb1 hW HNW c0
  go_wp2_with fail
  refine HRN.out.mono ?_
  rintro e w2 ⟨c, G, rfl, hr2, hb2, hg2⟩
  have HPL : Hid (SDuo W w2 b F (V.shortD (V.newDev X)) c G (V.newDev X) 0) := ⟨HD1.out.below hb2, rnew_all hr2, Below.next HB1.out hb2, HF1.out, fun k hk => by have := hg2 k hk; have := HB1.out.size; omega, fun k hf hg => by have := HD1.out.lt k hf; have := hg2 k hg; omega⟩
  have HFI0 : Hid (SFine steps 0 (V.newDev X) 0) := ⟨Nat.zero_le _, Nat.zero_le _, by have := HST.out.tot; show 0 + 0 + stotF (steps.drop 0) ≤ _; rw [List.drop_zero]; omega, fun a ha => by cases ha⟩
  have hne1 := run_eql_pointer_nil (P := Tryz.prog) w2 25 (some ⟨b, 0, none⟩) Tryz.underlying25
  clear hr2 hb2 hg2 HRN y0 HD1 HF1 HB1
  generalize V.newDev X = D0 at *
  go_wp2_with fail
  go_loopw [5] (fun i wr => ∃ (k : Nat) (F' G' : Nat → Prop) (d : V.Dev) (T : Nat), k ≤ N ∧ i = .int .i64 (k : Int) ∧ SDuo W wr b F' (V.shortD d) c G' d T ∧ SFine steps k d T) (fun i _ => N - (intOf i).toNat)
  case atStart => exact ⟨0, F, G, D0, 0, Nat.zero_le _, rfl, HPL.out, HFI0.out⟩
  case round =>
    obtain ⟨k, F5, G5, d, T, hk, rfl, P, FI⟩ := hrel
    have b2 : wr.cell? ⟨w.heap.size, 1, none⟩ = some (.slice ta N tc) := (HBX.out.below P.bel).2 1 (by simp)
    have hNb : N ≤ 1048576 := by rw [HN.out]; exact HSL.out
    clear HPL HFI0 hne1
    by_cases hlt : k < N
    · obtain ⟨a', cap', g, off, qs, h1, h2, h3, h4, h5⟩ := HTH.out
      simp only [Value.slice.injEq] at h1
      obtain ⟨rfl, hl', rfl⟩ := h1
      obtain rfl := h3 (by omega)
      have hkl : k < steps.length := by omega
      obtain ⟨hnine, hpx, hfx⟩ := h5 k hkl (by omega)
      have HPY := hide (plays_any A W wr HE.out HER.out b c F5 G5 d T P steps[k] _ _ hpx hfx (HST.out.each _ (List.getElem_mem hkl)) (FI.room (by omega)) FI.arms)
      obtain ⟨x0, x1, x2, x3, x4, x5, x6⟩ := hnine.keep (w' := wr) P.bel
      have k0 : (0 : Int) ≤ (k : Int) := Int.natCast_nonneg _
      have k1 : (k : Int) < (N : Int) := by omega
      have HNX : Hid (∀ d' T', NextOf d T steps[k] d' T' → SFine steps (k + 1) d' T') := fun d' T' h => FI.next hkl h.pend h.more h.sum h.arms
      generalize steps[k] = sk at *
      generalize qs[k]'(by omega) = qk at *
      obtain ⟨K, n, ⟨Pg, R, Tx⟩, Dt, fl⟩ := sk
      obtain ⟨pv, fv⟩ := qk
      simp only [] at x0 x1 x2 x3 x4 x5 x6 hfx hpx HPY
      obtain ⟨pa, pc, rfl⟩ : ∃ a c, pv = .slice a Dt.length c := by obtain ⟨a, c, _, _, h, _⟩ := hpx; exact ⟨a, c, h⟩
      obtain ⟨fka, fkc, rfl⟩ : ∃ a c, fv = .slice a fl.length c := by obtain ⟨a, c, _, _, h, _⟩ := hfx; exact ⟨a, c, h⟩
      clear P FI hfx hpx h2 h3 h4 h5 hl' hnine hkl
      go_wp2_with fail
      refine HPY.out.mono ?_
      rintro e wz ⟨rfl, Fz, Gz, dz, Tz, D5, NX⟩
      have HM := hide D5
      have HFN := hide (HNX.out dz Tz NX)
      clear D5 NX HPY HNX x0 x1 x2 x3 x4 x5 x6
      have HDU : Hid (Calls Tryz.prog 8 #[.pointer (some ⟨b, 0, none⟩)] wz fun e w' => ∃ v', e = .returned v' ∧ w'.ownsRow wz.heap.size 72 2 v' dz.dur.length (V.secCells dz.dur) ∧ Below wz.heap.size wz w') := V.durable_any b Fz (V.shortD dz) wz HM.out.dev
      have HLD : Hid (dz.dur.length ≤ 5864062014805) := by have := HM.out.dev.ok.dur_len; show dz.dur.length ≤ _; have h2 : (V.shortD dz).dur.length = dz.dur.length := rfl; omega
      have HLP : Hid (dz.pend.length ≤ 5864062014805) := by have := HFN.out.pend; show _ ≤ _; omega
      go_wp2_with fail
      refine HDU.out.mono ?_
      rintro e w6 ⟨v6, rfl, hr6, hb6⟩
      have HS6 := hide (V.secsIn_own hr6 HLD.out)
      obtain ⟨a6, c6, rfl, -⟩ := V.owns_form hr6
      have HB6 := hide hb6
      have HRD := hide (V.rdur_any c Gz dz w6 (HM.out.up hb6).ref.at' HLD.out)
      clear HDU hr6 hb6
      go_wp2_with fail
      refine HRD.out.mono ?_
      rintro e w7 ⟨v7, rfl, hr7, hb7⟩
      have HS7 := hide (V.secsIn_own hr7 HLD.out)
      obtain ⟨a7, c7, rfl, -⟩ := V.owns_form hr7
      have HB7 := hide (Below.next HB6.out hb7)
      have HSA := hide (V.sames_any dz.dur _ _ w7 (HS6.out.keep hb7) HS7.out)
      clear HRD hr7 hb7 HB6
      go_wp2_with fail
      refine HSA.out.mono ?_
      rintro e w8 ⟨rfl, hb8⟩
      have HB8 := hide (Below.next HB7.out hb8)
      have HPN : Hid (Calls Tryz.prog 10 #[.pointer (some ⟨b, 0, none⟩)] w8 fun e w' => ∃ v', e = .returned v' ∧ w'.ownsRow w8.heap.size 72 2 v' dz.pend.length (V.secCells dz.pend) ∧ Below w8.heap.size w8 w') := V.pending_any b Fz (V.shortD dz) w8 (HM.out.up HB8.out).dev HLP.out
      clear HSA hb8 HB7 HS6 HS7
      go_wp2_with fail
      refine HPN.out.mono ?_
      rintro e w9 ⟨v9, rfl, hr9, hb9⟩
      have HS9 := hide (V.secsIn_own hr9 HLP.out)
      obtain ⟨a9, c9, rfl, -⟩ := V.owns_form hr9
      have HB9 := hide (Below.next HB8.out hb9)
      have HRP := hide (V.rpend_any c Gz dz w9 (HM.out.up HB9.out).ref.at' HLP.out)
      clear HPN hr9 hb9 HB8
      go_wp2_with fail
      refine HRP.out.mono ?_
      rintro e w10 ⟨v10, rfl, hr10, hb10⟩
      have HS10 := hide (V.secsIn_own hr10 HLP.out)
      obtain ⟨a10, c10, rfl, -⟩ := V.owns_form hr10
      have HB10 := hide (Below.next HB9.out hb10)
      have HSB := hide (V.sames_any dz.pend _ _ w10 (HS9.out.keep hb10) HS10.out)
      clear HRP hr10 hb10 HB9
      go_wp2_with fail
      refine HSB.out.mono ?_
      rintro e w11 ⟨rfl, hb11⟩
      have HEND : Hid (SDuo W w11 b Fz (V.shortD dz) c Gz dz Tz) := HM.out.up (Below.next HB10.out hb11)
      clear HSB hb11 HB10 HS9 HS10 HM
      go_wp2_with fail
      go_roundw
      case rel => exact ⟨k + 1, Fz, Gz, dz, Tz, by omega, by go_num, HEND.out, HFN.out⟩
      case measure => simp [intOf]; omega
    · have k2 : ¬ (k : Int) < (N : Int) := by omega
      have HP := hide P
      have HFI := hide FI
      have HCN : Hid (Calls Tryz.prog 12 #[.pointer (some ⟨b, 0, none⟩)] wr fun e w' => e = .returned (.tuple #[.int .i64 d.nr, .int .i64 d.nw, .int .i64 d.ns]) ∧ Below wr.heap.size wr w') := V.counts_any b F5 (V.shortD d) wr P.dev
      have hq1 : (d.nr == d.nr) = true := by simp
      have hq2 : (d.nw == d.nw) = true := by simp
      have hq3 : (d.ns == d.ns) = true := by simp
      clear P FI
      go_wp2_with fail
      refine HCN.out.mono ?_
      rintro e w12 ⟨rfl, hb12⟩
      have HB12 := hide hb12
      have HRC := hide (V.rcounts_any c G5 d w12 (HP.out.up HB12.out).ref.at')
      clear HCN hb12
      go_wp2_with fail
      refine HRC.out.mono ?_
      rintro e w13 ⟨rfl, hb13⟩
      have HPY := hide (plays_any A W w13 HE.out HER.out b c F5 G5 d T (HP.out.up (Below.next HB12.out hb13)) ⟨1, 0, ⟨0, 0, 0⟩, [], []⟩ _ _ (pin_nil W) (fin_nil W) ⟨⟨by decide, by decide⟩, by decide, by simp, by simp, fun f hf => by cases hf⟩ (HFI.out.room (by omega)) HFI.out.arms)
      simp only [] at HPY
      clear HRC hb13 HB12
      go_wp2_with fail
      refine HPY.out.mono ?_
      rintro e w14 ⟨rfl, Fz, Gz, dz, Tz, D5, NX⟩
      have HBT := hide (Below.next HB0.out D5.bel)
      clear D5 NX HPY HP HFI
      go_wp2_with fail
      go_ret
      exact ⟨rfl, HBT.out⟩

end Go.Proofs.YtlopimdnjookeabGreatDoor
