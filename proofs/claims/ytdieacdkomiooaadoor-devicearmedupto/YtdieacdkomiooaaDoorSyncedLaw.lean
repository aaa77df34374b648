import Derived.Test.YtdieacdkomiooaaDoorStand
namespace Go.Proofs.YtdieacdkomiooaaDoor
open Go.RowKit Go.Maps

theorem seen_sync (d : Dev) (hd : d.dead = false) (ha : d.arms = []) : d.seen.sync = ({ d with dur := syncD d.dur d.pend, pend := [], nr := wrap64 (d.nr + d.size), ns := wrap64 (d.ns + 1) }, 0) := by
  unfold Dev.sync Dev.seen
  simp only [hd]
  unfold Dev.done
  simp [ha]
theorem synced_math (d : Dev) (hok : d.Ok) (hd : d.dead = false) (ha : d.arms = []) (l : List Fate) :
    d.seen.sync.2 = 0 ∧ d.seen.sync.1.pend = [] ∧ (d.seen.sync.1.crash l).dead = true ∧ (d.seen.sync.1.crash l).revive.size = d.size ∧ ∀ s n, readB (d.seen.sync.1.crash l).revive s n = readB d s n := by
  rw [seen_sync d hd ha]
  refine ⟨rfl, rfl, ?_, ?_, fun s n => readB_congr (fun j => ?_) s n⟩
  · simp [Dev.crash, hd, Dev.kill]
  · simp [Dev.crash, hd, Dev.kill, Dev.revive]
  · simp only [Dev.crash, hd, Bool.false_eq_true, if_false, Dev.kill, Dev.revive, settle_nil, standing_over]
    rw [← sync_lasting j d.pend d.dur (fun x hx => (hok.pend x hx).len)]
    rfl
theorem steps_pend (d : Dev) (w : World) (v : Value) (steps : List Stp) (h : StepsIn w v steps) (hd : d.pend = []) : (plays d steps).pend.length ≤ 2147483648 := by
  obtain ⟨a, cap, g, off, fvs, _, h2, _, h4, h5⟩ := h
  refine Nat.le_trans (plays_pend 2048 _ _ fun s hs => ?_) (by rw [hd]; simp; omega)
  obtain ⟨i, hi, rfl⟩ := List.getElem_of_mem hs
  have := (h5 i hi (by omega)).2.2.2
  omega
theorem smallDev_size (X : Int) (first : List Sec) : (smallDev (pickI X) first).size ≤ 64 := by
  have := pickI_lo X; have := pickI_hi X
  simp only [smallDev, newDev, clampN]
  split
  · omega
  · split <;> omega

set_option maxRecDepth 100000 in
set_option maxHeartbeats 3200000 in
theorem synced_any (base : Nat) (A : Nat → Addr) (X : Int) (fv sv ftv thv : Value) (first : List Sec) (steps : List Stp) (fts : List Fate) (w : World) (hE : ErrsB base A w) (hfv : SecsIn w fv first) (hfl : first.length ≤ 1048576) (hsv : StepsIn w sv steps) (hft : FatesIn w ftv fts) :
    Calls Tryd.prog 4 #[.agg #[.int .i64 X, fv, sv, ftv, thv]] w fun e w' => e = .returned (.bool true) ∧ Below w.heap.size w w' := by
  obtain ⟨W, hW⟩ : ∃ W, W = w.alloc (.cells #[.int .i64 X, fv, sv, ftv, thv] 45) := ⟨_, rfl⟩
  have hb0 : Below w.heap.size w W := by rw [hW]; exact below_new _ _
  have hbx : Boxed w.heap.size [.int .i64 X, fv, sv, ftv, thv] W := by rw [hW]; exact boxed_new w #[.int .i64 X, fv, sv, ftv, thv] 45
  have HE : Hid (ErrsB base A W) := hE.up hb0
  have SM := small_any base A X fv sv first steps W HE.out (hfv.keep hb0) hfl (hsv.keep hb0)
  have hpl := steps_pend (smallDev (pickI X) first) w sv steps hsv rfl
  have hsz : (plays (smallDev (pickI X) first) steps).size ≤ 64 := by rw [plays_size]; exact smallDev_size X first
  have harm : (plays (smallDev (pickI X) first) steps).arms = [] := plays_arms _ _ rfl
  generalize plays (smallDev (pickI X) first) steps = D0 at *
  have HFT : Hid (FatesIn W ftv fts) := hft.keep hb0
  have c0 : W.cell? ⟨w.heap.size, 0, none⟩ = some (.int .i64 X) := hbx.2 0 (by simp)
  have c1 : W.cell? ⟨w.heap.size, 1, none⟩ = some fv := hbx.2 1 (by simp)
  have c2 : W.cell? ⟨w.heap.size, 2, none⟩ = some sv := hbx.2 2 (by simp)
  have c3 : W.cell? ⟨w.heap.size, 3, none⟩ = some ftv := hbx.2 3 (by simp)
  have o1 : fv.oneCell' = true := by obtain ⟨_, _, _, _, h, _⟩ := hfv; rw [h]; rfl
  have o2 : sv.oneCell' = true := by obtain ⟨_, _, _, _, _, h, _⟩ := hsv; rw [h]; rfl
  have o3 : ftv.oneCell' = true := by obtain ⟨_, _, _, _, h, _⟩ := hft; rw [h]; rfl
  have HSM : Hid (Calls Tryd.prog 17 #[.agg #[.int .i64 X, fv, sv], .bool false] W fun e w' => ∃ b F, e = .returned (.pointer (some ⟨b, 0, none⟩)) ∧ DevAt w' b F D0 ∧ Below W.heap.size W w' ∧ ∀ k, F k → W.heap.size ≤ k) := SM
  have HB0 : Hid (Below w.heap.size w W) := hb0
  have HWD : Hid (W = w.alloc (.cells #[.int .i64 X, fv, sv, ftv, thv] 45)) := hW
  have HWS : Hid (w.heap.size < W.heap.size) := hbx.1
  clear SM hfv hsv hft hE hfl hb0 hbx hW
  go_enter Tryd.func4, Tryd.ntmps4
  go_wp2_with fail
  rw [← HWD.out]
  refine HSM.out.mono ?_
  rintro e w1 ⟨b, F1, rfl, hd1, hb1, hF1⟩
  have B1 : Hid (Bg A W w1 b F1 D0) := ⟨hd1, hb1, hF1, HE.out.here.up hb1⟩
  have BG := begun_any base A w1 (HE.out.up hb1)
  have HBG : Hid (Calls Tryd.prog 18 #[] w1 fun e w' => e = .returned (.bool true) ∧ Below w1.heap.size w1 w') := BG
  have hne := run_eql_pointer_nil (P := Tryd.prog) w1 29 (some ⟨b, 0, none⟩) Tryd.underlying29
  clear HSM hd1 hb1 hF1 BG
  go_wp2_with fail
  refine HBG.out.mono ?_
  rintro e w2 ⟨rfl, hb2⟩
  have B2 := B1.out.up hb2
  have HV : Hid (Calls Tryd.prog 19 #[.pointer (some ⟨b, 0, none⟩)] w2 fun e w'' => e = .returned (.tuple #[]) ∧ Bg A W w'' b F1 D0.revive ∧ Step F1 F1 w2 w'') := B2.revive2
  clear HBG hb2 B1 B2 hne
  go_wp2_with fail
  refine HV.out.mono ?_
  rintro e w3 ⟨rfl, B3, -⟩
  have hok := B3.dev.ok
  obtain ⟨m1, m2, m3, m4, m5⟩ := synced_math D0.revive hok rfl harm fts
  have hsz' : D0.revive.size ≤ 1024 := by show D0.size ≤ 1024; omega
  have ST := stand_any A W w3 b F1 D0.revive B3 rfl hsz'
  have hL := readB_len hok 0 D0.revive.size.toNat
  have hLn : (readB D0.revive 0 D0.revive.size.toNat).length ≤ 140737488355328 := by omega
  have harm3 : D0.revive.arms = [] := harm
  have hp3 : D0.revive.pend.length ≤ 140737488355328 := by show D0.pend.length ≤ _; omega
  have hdead : (D0.revive.seen.sync.1.crash fts).revive.dead = false := rfl
  have hszz : (D0.revive.seen.sync.1.crash fts).revive.size ≤ 1024 := by rw [m4]; exact hsz'
  have m5' := m5 0 D0.revive.size.toNat
  rw [← m4] at m5'
  rw [m4] at m5'
  have HM : Hid (readB (D0.revive.seen.sync.1.crash fts).revive 0 (D0.revive.seen.sync.1.crash fts).revive.size.toNat = readB D0.revive 0 D0.revive.size.toNat) := by show _ = _; rw [m4]; exact m5 _ _
  generalize readB D0.revive 0 D0.revive.size.toNat = L at *
  have HST : Hid (Calls Tryd.prog 20 #[.pointer (some ⟨b, 0, none⟩)] w3 fun e w'' => ∃ v, e = .returned (.tuple #[v, .bool true]) ∧ w''.ownsRow w3.heap.size 5 1 v L.length (u8s L) ∧ Bg A W w'' b F1 D0.revive.seen ∧ Step F1 F1 w3 w'') := ST
  have HLT : Hid (∀ k, F1 k → k < w3.heap.size) := B3.dev.lt
  clear ST HV B3 hL m4 m5 m5' hok
  go_wp2_with fail
  refine HST.out.mono ?_
  rintro e w4 ⟨v, rfl, hv, B4, -⟩
  have HBY : Hid (BytesAt w4 F1 v L) := bytesAt_own hv hLn (fun g hg hf => by have := (owns_blk hv g hg).1; have := HLT.out g hf; omega)
  obtain ⟨va, vc, rfl, -⟩ := owns_form hv
  have SY := B4.sync2 harm3 hp3
  rw [m1] at SY
  have e0 : errV A 0 = .nilIface := rfl
  rw [e0] at SY
  have HSY : Hid (Calls Tryd.prog 21 #[.pointer (some ⟨b, 0, none⟩)] w4 fun e w'' => e = .returned .nilIface ∧ ∃ F', Bg A W w'' b F' D0.revive.seen.sync.1 ∧ Step F1 F' w4 w'') := SY
  clear HST hv B4 SY e0 harm3 hp3 m1 HLT
  go_wp2_with fail
  refine HSY.out.mono ?_
  rintro e w5 ⟨rfl, F5, B5, s5⟩
  have HBY5 : Hid (BytesAt w5 F5 (.slice va L.length vc) L) := HBY.out.step s5
  have PN := B5.pending (by rw [m2]; simp)
  rw [m2] at PN
  have HPN : Hid (Calls Tryd.prog 22 #[.pointer (some ⟨b, 0, none⟩)] w5 fun e w'' => ∃ v, e = .returned v ∧ w''.ownsRow w5.heap.size 27 2 v 0 (secCells []) ∧ Below w5.heap.size w5 w'') := PN
  have HB5 : Hid (Bg A W w5 b F5 D0.revive.seen.sync.1) := B5
  clear HSY B5 s5 HBY PN
  generalize D0.revive.seen.sync.1 = D2 at *
  go_wp2_with fail
  refine HPN.out.mono ?_
  rintro e w6 ⟨vp, rfl, hvp, hb6⟩
  obtain ⟨pa, pc, rfl, -⟩ := owns_form hvp
  have HB6 : Hid (Bg A W w6 b F5 D2) := HB5.out.up hb6
  have HBY6 : Hid (BytesAt w6 F5 (.slice va L.length vc) L) := HBY5.out.step (Step.of_below hb6)
  have k3 : w6.cell? ⟨w.heap.size, 3, none⟩ = some ftv := (HB6.out.bel.cell (p := ⟨w.heap.size, 3, none⟩) HWS.out).trans c3
  have HFA : Hid (Calls Tryd.prog 24 #[ftv] w6 fun e w' => ∃ v', e = .returned v' ∧ w'.ownsRow w6.heap.size 61 4 v' fts.length (fateCells fts) ∧ Below w6.heap.size w6 w') := fates_any fts ftv w6 (HFT.out.keep HB6.out.bel)
  clear HPN hvp hb6 HB5 HBY5 c0 c1 c2 c3
  go_wp2_with fail
  refine HFA.out.mono ?_
  rintro e w7 ⟨vf, rfl, hvf, hb7⟩
  have B7 := HB6.out.up hb7
  have CR := B7.crash2 (by rw [m2]; simp) fts vf _ hvf
  have HBY7 : Hid (BytesAt w7 F5 (.slice va L.length vc) L) := HBY6.out.step (Step.of_below hb7)
  obtain ⟨fa, fc, rfl, -⟩ := owns_form hvf
  have HCR : Hid (Calls Tryd.prog 23 #[.pointer (some ⟨b, 0, none⟩), .slice fa fts.length fc] w7 fun e w'' => e = .returned (.tuple #[]) ∧ ∃ F', Bg A W w'' b F' (D2.crash fts) ∧ Step F5 F' w7 w'') := CR
  clear HFA hvf hb7 B7 CR HB6 HBY6 k3
  go_wp2_with fail
  refine HCR.out.mono ?_
  rintro e w8 ⟨rfl, F8, B8, s8⟩
  have HBY8 : Hid (BytesAt w8 F8 (.slice va L.length vc) L) := HBY7.out.step s8
  have DD := dead_any b F8 _ w8 B8.dev
  rw [m3] at DD
  have HDD : Hid (Calls Tryd.prog 25 #[.pointer (some ⟨b, 0, none⟩)] w8 fun e w' => e = .returned (.bool true) ∧ w8 = w') := DD
  have HV : Hid (Calls Tryd.prog 19 #[.pointer (some ⟨b, 0, none⟩)] w8 fun e w'' => e = .returned (.tuple #[]) ∧ Bg A W w'' b F8 (D2.crash fts).revive ∧ Step F8 F8 w8 w'') := B8.revive2
  clear HCR B8 s8 HBY7 DD
  go_wp2_with fail
  refine HDD.out.mono ?_
  rintro e w8' ⟨rfl, rfl⟩
  clear HDD
  go_wp2_with fail
  refine HV.out.mono ?_
  rintro e w9 ⟨rfl, B9, s9⟩
  have HBY9 : Hid (BytesAt w9 F8 (.slice va L.length vc) L) := HBY8.out.step s9
  have ST := stand_any A W w9 b F8 _ B9 hdead hszz
  rw [HM.out] at ST
  have HST : Hid (Calls Tryd.prog 20 #[.pointer (some ⟨b, 0, none⟩)] w9 fun e w'' => ∃ v, e = .returned (.tuple #[v, .bool true]) ∧ w''.ownsRow w9.heap.size 5 1 v L.length (u8s L) ∧ Bg A W w'' b F8 (D2.crash fts).revive.seen ∧ Step F8 F8 w9 w'') := ST
  clear HV ST B9 s9 HBY8 HM hdead hszz
  go_wp2_with fail
  refine HST.out.mono ?_
  rintro e w10 ⟨v2, rfl, hv2, B10, s10⟩
  have BY10 := (HBY9.out.step s10).isIn
  have HSB : Hid (Calls Tryd.prog 26 #[.slice va L.length vc, v2] w10 fun e w' => e = .returned (.bool true) ∧ Below w10.heap.size w10 w') := sameb_any L _ _ w10 BY10 (bytesIn_own hv2 hLn)
  obtain ⟨va2, vc2, rfl, -⟩ := owns_form hv2
  have HB10 : Hid (Below w.heap.size w w10) := Below.next HB0.out B10.bel
  clear HST hv2 B10 s10 BY10 HBY9
  go_wp2_with fail
  refine HSB.out.mono ?_
  rintro e w11 ⟨rfl, hb11⟩
  have HR : Hid (Below w.heap.size w w11) := Below.next HB10.out hb11
  clear HSB hb11
  go_wp2_with fail
  go_ret
  exact ⟨rfl, HR.out⟩

end Go.Proofs.YtdieacdkomiooaaDoor
