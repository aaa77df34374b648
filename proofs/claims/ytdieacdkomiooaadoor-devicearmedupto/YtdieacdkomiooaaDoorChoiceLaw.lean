import Derived.Test.YtdieacdkomiooaaDoorChMay
import Derived.Test.YtdieacdkomiooaaDoorSyncedLaw
namespace Go.Proofs.YtdieacdkomiooaaDoor
open Go.RowKit Go.Maps

theorem bdrew {n : Nat} {a w : World} (h : Below n a w) : Below n a w.drew := ⟨h.os, h.tape, h.output, h.size, h.block⟩

set_option maxRecDepth 100000 in
set_option maxHeartbeats 3200000 in
theorem choice_any (base : Nat) (A : Nat → Addr) (X : Int) (fv sv ftv thv : Value) (first : List Sec) (steps : List Stp) (fts : List Fate) (w : World) (hE : ErrsB base A w) (hfv : SecsIn w fv first) (hfl : first.length ≤ 1048576) (hsv : StepsIn w sv steps) (hft : FatesIn w ftv fts) (hfj : ∀ f ∈ fts, f.junk.size ≤ 1048576) :
    Calls Tryd.prog 5 #[.agg #[.int .i64 X, fv, sv, ftv, thv]] w fun e w' => e = .returned (.bool true) ∧ Below w.heap.size w w' := by
  obtain ⟨W, hW⟩ : ∃ W, W = w.alloc (.cells #[.int .i64 X, fv, sv, ftv, thv] 45) := ⟨_, rfl⟩
  have hb0 : Below w.heap.size w W := by rw [hW]; exact below_new _ _
  have hbx : Boxed w.heap.size [.int .i64 X, fv, sv, ftv, thv] W := by rw [hW]; exact boxed_new w #[.int .i64 X, fv, sv, ftv, thv] 45
  have HE : Hid (ErrsB base A W) := hE.up hb0
  have SM := small_any base A X fv sv first steps W HE.out (hfv.keep hb0) hfl (hsv.keep hb0)
  have hpl := steps_pend (smallDev (pickI X) first) w sv steps hsv rfl
  have hsz : (plays (smallDev (pickI X) first) steps).size ≤ 64 := by rw [plays_size]; exact smallDev_size X first
  have harm : (plays (smallDev (pickI X) first) steps).arms = [] := plays_arms _ _ rfl
  generalize plays (smallDev (pickI X) first) steps = D0 at *
  have HFT : Hid (FatesIn W ftv fts) := hft.keep hb0
  have c0 : W.cell? ⟨w.heap.size, 0, none⟩ = some (.int .i64 X) := hbx.2 0 (by simp)
  have c1 : W.cell? ⟨w.heap.size, 1, none⟩ = some fv := hbx.2 1 (by simp)
  have c2 : W.cell? ⟨w.heap.size, 2, none⟩ = some sv := hbx.2 2 (by simp)
  have c3 : W.cell? ⟨w.heap.size, 3, none⟩ = some ftv := hbx.2 3 (by simp)
  have o1 : fv.oneCell' = true := by obtain ⟨_, _, _, _, h, _⟩ := hfv; rw [h]; rfl
  have o2 : sv.oneCell' = true := by obtain ⟨_, _, _, _, _, h, _⟩ := hsv; rw [h]; rfl
  have o3 : ftv.oneCell' = true := by obtain ⟨_, _, _, _, h, _⟩ := hft; rw [h]; rfl
  have HSM : Hid (Calls Tryd.prog 17 #[.agg #[.int .i64 X, fv, sv], .bool false] W fun e w' => ∃ b F, e = .returned (.pointer (some ⟨b, 0, none⟩)) ∧ DevAt w' b F D0 ∧ Below W.heap.size W w' ∧ ∀ k, F k → W.heap.size ≤ k) := SM
  have HB0 : Hid (Below w.heap.size w W) := hb0
  have HWD : Hid (W = w.alloc (.cells #[.int .i64 X, fv, sv, ftv, thv] 45)) := hW
  have HWS : Hid (w.heap.size < W.heap.size) := hbx.1
  clear SM hfv hsv hft hE hfl hb0 hbx hW
  go_enter Tryd.func5, Tryd.ntmps5
  go_wp2_with fail
  rw [← HWD.out]
  refine HSM.out.mono ?_
  rintro e w1 ⟨b, F1, rfl, hd1, hb1, hF1⟩
  have B1 : Hid (Bg A W w1 b F1 D0) := ⟨hd1, hb1, hF1, HE.out.here.up hb1⟩
  have BG := begun_any base A w1 (HE.out.up hb1)
  have HBG : Hid (Calls Tryd.prog 18 #[] w1 fun e w' => e = .returned (.bool true) ∧ Below w1.heap.size w1 w') := BG
  have hne := run_eql_pointer_nil (P := Tryd.prog) w1 29 (some ⟨b, 0, none⟩) Tryd.underlying29
  clear HSM hd1 hb1 hF1 BG
  go_wp2_with fail
  refine HBG.out.mono ?_
  rintro e w2 ⟨rfl, hb2⟩
  have B2 := B1.out.up hb2
  have HV : Hid (Calls Tryd.prog 19 #[.pointer (some ⟨b, 0, none⟩)] w2 fun e w'' => e = .returned (.tuple #[]) ∧ Bg A W w'' b F1 D0.revive ∧ Step F1 F1 w2 w'') := B2.revive2
  clear HBG hb2 B1 B2 hne
  go_wp2_with fail
  refine HV.out.mono ?_
  rintro e w3 ⟨rfl, B3, -⟩
  have hok := B3.dev.ok
  have HLT : Hid (∀ k, F1 k → k < w3.heap.size) := B3.dev.lt
  have HD : Hid (Calls Tryd.prog 27 #[.pointer (some ⟨b, 0, none⟩)] w3 fun e w'' => ∃ v, e = .returned v ∧ w''.ownsRow w3.heap.size 27 2 v D0.revive.dur.length (secCells D0.revive.dur) ∧ Below w3.heap.size w3 w'') := B3.durable
  have HB3 : Hid (Bg A W w3 b F1 D0.revive) := B3
  have HMY : Hid (∀ i, Mays (lasting (D0.revive.crash fts).dur i) (lasting D0.revive.dur i) i D0.revive.pend fts) := crash_may D0.revive hok rfl fts
  have HPS : Hid (∀ x ∈ D0.revive.pend, x.dat.size = 512) := fun x hx => (hok.pend x hx).len
  have hpr : D0.revive.pend.length ≤ 2147483648 := hpl
  have hdl : D0.revive.dur.length ≤ 8388615 := hok.dur_len
  have hs0 : 0 ≤ (D0.revive.crash fts).size := (hok.crash fts).s0
  have hs1 : (D0.revive.crash fts).size ≤ 64 := by rw [show (D0.revive.crash fts).size = D0.size from by simp [Dev.crash, Dev.revive, Dev.kill]]; exact hsz
  have hdead : (D0.revive.crash fts).dead = true := by simp [Dev.crash, Dev.revive, Dev.kill]
  have hpe : (D0.revive.crash fts).pend = [] := by simp [Dev.crash, Dev.revive, Dev.kill]
  clear HV B3 hok hsz harm hpl
  generalize D0.revive = D1 at *
  go_wp2_with fail
  refine HD.out.mono ?_
  rintro e w4 ⟨ov, rfl, hov, hb4⟩
  have HB4 : Hid (Bg A W w4 b F1 D1) := HB3.out.up hb4
  obtain ⟨oa, oc, hoe, -⟩ := owns_form hov
  have HOV : Hid (w4.ownsRow w3.heap.size 27 2 ov D1.dur.length (secCells D1.dur)) := hov
  have HP : Hid (Calls Tryd.prog 22 #[.pointer (some ⟨b, 0, none⟩)] w4 fun e w'' => ∃ v, e = .returned v ∧ w''.ownsRow w4.heap.size 27 2 v D1.pend.length (secCells D1.pend) ∧ Below w4.heap.size w4 w'') := HB4.out.pending (by omega)
  have HL4 : Hid (w3.heap.size ≤ w4.heap.size) := hb4.size
  clear HD hov hb4 HB3
  go_wp2_with fail
  refine HP.out.mono ?_
  rintro e w5 ⟨pv, rfl, hpv, hb5⟩
  have HB5 : Hid (Bg A W w5 b F1 D1) := HB4.out.up hb5
  obtain ⟨pa, pc, hpe', -⟩ := owns_form hpv
  have HPV : Hid (w5.ownsRow w4.heap.size 27 2 pv D1.pend.length (secCells D1.pend)) := hpv
  have HOV5 : Hid (w5.ownsRow w3.heap.size 27 2 ov D1.dur.length (secCells D1.dur)) := owns_below HOV.out hb5
  have k3 : w5.cell? ⟨w.heap.size, 3, none⟩ = some ftv := (HB5.out.bel.cell (p := ⟨w.heap.size, 3, none⟩) HWS.out).trans c3
  have HFA : Hid (Calls Tryd.prog 24 #[ftv] w5 fun e w' => ∃ v', e = .returned v' ∧ w'.ownsRow w5.heap.size 61 4 v' fts.length (fateCells fts) ∧ Below w5.heap.size w5 w') := fates_any fts ftv w5 (HFT.out.keep HB5.out.bel)
  clear HP hpv hb5 HB4 HOV c0 c1 c2
  go_wp2_with fail
  refine HFA.out.mono ?_
  rintro e w6 ⟨vf, rfl, hvf, hb6⟩
  have B6 := HB5.out.up hb6
  have CR := B6.crash2 (by omega) fts vf _ hvf
  have HPV6 : Hid (w6.ownsRow w4.heap.size 27 2 pv D1.pend.length (secCells D1.pend)) := owns_below HPV.out hb6
  have HOV6 : Hid (w6.ownsRow w3.heap.size 27 2 ov D1.dur.length (secCells D1.dur)) := owns_below HOV5.out hb6
  obtain ⟨fa, fc, rfl, -⟩ := owns_form hvf
  have HCR : Hid (Calls Tryd.prog 23 #[.pointer (some ⟨b, 0, none⟩), .slice fa fts.length fc] w6 fun e w'' => e = .returned (.tuple #[]) ∧ ∃ F', Bg A W w'' b F' (D1.crash fts) ∧ Step F1 F' w6 w'') := CR
  clear HFA hvf hb6 B6 CR HB5 HPV HOV5 k3
  go_wp2_with fail
  refine HCR.out.mono ?_
  rintro e w7 ⟨rfl, F7, B7, s7⟩
  have HPV7 : Hid (w7.ownsRow w4.heap.size 27 2 pv D1.pend.length (secCells D1.pend)) := owns_step HPV6.out s7 (fun g hg hf => by have := (owns_blk HPV6.out g hg).1; have := HLT.out g hf; have := HL4.out; omega)
  have HOV7 : Hid (w7.ownsRow w3.heap.size 27 2 ov D1.dur.length (secCells D1.dur)) := owns_step HOV6.out s7 (fun g hg hf => by have := (owns_blk HOV6.out g hg).1; have := HLT.out g hf; omega)
  have HD7 : Hid (Calls Tryd.prog 27 #[.pointer (some ⟨b, 0, none⟩)] w7 fun e w'' => ∃ v, e = .returned v ∧ w''.ownsRow w7.heap.size 27 2 v (D1.crash fts).dur.length (secCells (D1.crash fts).dur) ∧ Below w7.heap.size w7 w'') := B7.durable
  have HB7 : Hid (Bg A W w7 b F7 (D1.crash fts)) := B7
  have hdl2 : (D1.crash fts).dur.length ≤ 8388615 := B7.dev.ok.dur_len
  clear HCR B7 s7 HPV6 HOV6
  generalize D1.crash fts = D2 at *
  go_wp2_with fail
  refine HD7.out.mono ?_
  rintro e w8 ⟨nv, rfl, hnv, hb8⟩
  have HB8 : Hid (Bg A W w8 b F7 D2) := HB7.out.up hb8
  have HPI : Hid (SecsIn w8 pv D1.pend) := secsIn_own (owns_below HPV7.out hb8) (by omega)
  have HOI : Hid (SecsIn w8 ov D1.dur) := secsIn_own (owns_below HOV7.out hb8) (by omega)
  have HNI : Hid (SecsIn w8 nv D2.dur) := secsIn_own hnv (by omega)
  have HFI : Hid (FatesIn w8 ftv fts) := HFT.out.keep HB8.out.bel
  have k8 : w8.cell? ⟨w.heap.size, 3, none⟩ = some ftv := (HB8.out.bel.cell (p := ⟨w.heap.size, 3, none⟩) HWS.out).trans c3
  obtain ⟨na, nc, hne', -⟩ := owns_form hnv
  have HFJ : Hid (∀ f ∈ fts, f.junk.size ≤ 1048576) := hfj
  have HBW : Hid (Below w.heap.size w w8) := Below.next HB0.out HB8.out.bel
  obtain ⟨S, hS⟩ : ∃ S : Nat, D2.size = (S : Int) := ⟨D2.size.toNat, by omega⟩
  have hS64 : S ≤ 64 := by omega
  have HSZ : Hid (∀ w', Below w8.heap.size w8 w' → Calls Tryd.prog 28 #[.pointer (some ⟨b, 0, none⟩)] w' fun e w'' => e = .returned (.int .i64 (S : Int)) ∧ w' = w'') := fun w' hb' => by
    have := size_any b F7 D2 w' (HB8.out.up hb').dev
    rw [hS] at this; exact this
  have HDD : Hid (∀ w', Below w8.heap.size w8 w' → Calls Tryd.prog 25 #[.pointer (some ⟨b, 0, none⟩)] w' fun e w'' => e = .returned (.bool true) ∧ w' = w'') := fun w' hb' => by
    have := dead_any b F7 D2 w' (HB8.out.up hb').dev
    rw [hdead] at this; exact this
  have HPN : Hid (∀ w', Below w8.heap.size w8 w' → Calls Tryd.prog 22 #[.pointer (some ⟨b, 0, none⟩)] w' fun e w'' => ∃ v, e = .returned v ∧ w''.ownsRow w'.heap.size 27 2 v 0 (secCells []) ∧ Below w'.heap.size w' w'') := fun w' hb' => by
    have := (HB8.out.up hb').pending (by rw [hpe]; simp)
    rw [hpe] at this; exact this
  have HNW : Hid (∀ (i : Int) w', Below w8.heap.size w8 w' → Calls Tryd.prog 30 #[nv, .int .i64 i] w' fun e w'' => e = .returned (.string (lasting D2.dur i)) ∧ Below w8.heap.size w8 w'') := fun i w' hb' =>
    (ldur_any D2.dur nv i w' (HNI.out.keep hb')).mono fun e w'' h => ⟨h.1, Below.next hb' h.2⟩
  have HOD : Hid (∀ (i : Int) w', Below w8.heap.size w8 w' → Calls Tryd.prog 30 #[ov, .int .i64 i] w' fun e w'' => e = .returned (.string (lasting D1.dur i)) ∧ Below w8.heap.size w8 w'') := fun i w' hb' =>
    (ldur_any D1.dur ov i w' (HOI.out.keep hb')).mono fun e w'' h => ⟨h.1, Below.next hb' h.2⟩
  have HMA : Hid (∀ (i : Int) w', Below w8.heap.size w8 w' → Calls Tryd.prog 29 #[.string (lasting D2.dur i), .string (lasting D1.dur i), .int .i64 i, pv, ftv] w' fun e w'' => e = .returned (.bool true) ∧ Below w8.heap.size w8 w'') := fun i w' hb' =>
    (may_any _ _ i D1.pend pv fts ftv w' (HPI.out.keep hb') HPS.out (HFI.out.keep hb') HFJ.out (HMY.out i)).mono fun e w'' h => ⟨h.1, Below.next hb' h.2⟩
  have K8 : Hid (w8.cell? ⟨w.heap.size, 3, none⟩ = some ftv) := k8
  subst hoe hpe' hne'
  clear HD7 hnv hb8 HB7 HPV7 HOV7 HB8 HPI HOI HNI HFI HMY HPS HFJ hfj hpr hdl hs0 hs1 hdead hpe hdl2 HLT HL4 c3 HFT hS HB0 HE
  go_wp2_with fail
  go_loopw [7] (fun i wr => ∃ k : Nat, k ≤ S ∧ i = .int .i64 (k : Int) ∧ Below w8.heap.size w8 wr) (fun i _ => S - (intOf i).toNat)
  case atStart => exact ⟨0, Nat.zero_le _, rfl, Below.refl _ _⟩
  case round =>
    obtain ⟨k, hk, rfl, hbw⟩ := hrel
    have HBR : Hid (Below w8.heap.size w8 wr) := hbw
    have c3 := cell_below hbw k8
    have HSR : Hid (Calls Tryd.prog 28 #[.pointer (some ⟨b, 0, none⟩)] wr fun e w'' => e = .returned (.int .i64 (S : Int)) ∧ wr = w'') := HSZ.out wr hbw
    clear k8
    by_cases hlt : k < S
    · have i1 : (k : Int) < (S : Int) := by omega
      have HN1 : Hid (∀ w', Below w8.heap.size w8 w' → Calls Tryd.prog 30 #[.slice na D2.dur.length nc, .int .i64 (k : Int)] w' fun e w'' => e = .returned (.string (lasting D2.dur k)) ∧ Below w8.heap.size w8 w'') := HNW.out k
      have HO1 : Hid (∀ w', Below w8.heap.size w8 w' → Calls Tryd.prog 30 #[.slice oa D1.dur.length oc, .int .i64 (k : Int)] w' fun e w'' => e = .returned (.string (lasting D1.dur k)) ∧ Below w8.heap.size w8 w'') := HOD.out k
      have HM1 : Hid (∀ w', Below w8.heap.size w8 w' → Calls Tryd.prog 29 #[.string (lasting D2.dur k), .string (lasting D1.dur k), .int .i64 (k : Int), .slice pa D1.pend.length pc, ftv] w' fun e w'' => e = .returned (.bool true) ∧ Below w8.heap.size w8 w'') := HMA.out k
      clear HNW HOD HMA
      generalize lasting D2.dur k = NOW at *
      generalize lasting D1.dur k = OLD at *
      generalize D2.dur.length = n2 at *
      generalize D1.dur.length = n1 at *
      generalize D1.pend.length = np at *
      go_wp2_with fail
      refine HSR.out.mono ?_
      rintro e w' ⟨rfl, rfl⟩
      go_wp2_with fail
      go_region_held (fun w' => w'.cell? ⟨w.heap.size, 3, none⟩ = some ftv) (go_keep)
        (first
          | (go_at_call_of 30 (Value.slice na n2 nc); refine (HN1.out _ ?_).mono ?_; (first | exact bdrew hbw | exact bdrew hb2 | exact hb2 | exact hbw); rintro e w1 ⟨rfl, hb1⟩; have k1 := cell_below hb1 K8.out)
          | (go_at_call_of 30 (Value.slice oa n1 oc); refine (HO1.out _ ?_).mono ?_; (first | exact bdrew hbw | exact bdrew hb1 | exact hb1 | exact hbw); rintro e w2 ⟨rfl, hb2⟩; have k2 := cell_below hb2 K8.out)
          | (go_at_call 29; refine (HM1.out _ ?_).mono ?_; (first | exact bdrew hb2 | exact bdrew hb1 | exact hb2 | exact hb1); rintro e w9 ⟨rfl, hb9⟩; have k9 := cell_below hb9 K8.out))
      all_goals
        have HR : Hid (Below w8.heap.size w8 w9) := hb9
        clear hb9 hb1 hb2 k1 k2 k9
        go_wp2_with fail
        go_roundw
        case rel => exact ⟨k + 1, by omega, by go_num, HR.out⟩
        case measure => simp [intOf]; omega
    · have i1 : ¬ (k : Int) < (S : Int) := by omega
      go_wp2_with fail
      refine HSR.out.mono ?_
      rintro e w' ⟨rfl, rfl⟩
      have HDR : Hid (Calls Tryd.prog 25 #[.pointer (some ⟨b, 0, none⟩)] wr fun e w'' => e = .returned (.bool true) ∧ wr = w'') := HDD.out wr HBR.out
      have HPR : Hid (Calls Tryd.prog 22 #[.pointer (some ⟨b, 0, none⟩)] wr fun e w'' => ∃ v, e = .returned v ∧ w''.ownsRow wr.heap.size 27 2 v 0 (secCells []) ∧ Below wr.heap.size wr w'') := HPN.out wr HBR.out
      clear HDD HPN HSZ HNW HOD HMA HSR
      go_wp2_with fail
      refine HDR.out.mono ?_
      rintro e w' ⟨rfl, rfl⟩
      go_wp2_with fail
      refine HPR.out.mono ?_
      rintro e w9 ⟨v9, rfl, hv9, hb9⟩
      obtain ⟨a9, c9, rfl, -⟩ := owns_form hv9
      have HR : Hid (Below w.heap.size w w9) := Below.next (Below.next HBW.out HBR.out) hb9
      clear hv9 hb9
      go_wp2_with fail
      go_ret
      exact ⟨rfl, HR.out⟩

end Go.Proofs.YtdieacdkomiooaaDoor
