import Derived.Test.YtdieacdkomiooabDoorGH
import Derived.Deep.RegionHeld3
namespace Go.Proofs.YtdieacdkomiooabDoor
open Go.RowKit Go.Maps

theorem xor_bound (x : Int) : 0 ≤ bits .xor .u8 x 255 ∧ bits .xor .u8 x 255 < 256 := by
  show 0 ≤ IntKind.u8.wrap _ ∧ IntKind.u8.wrap _ < 256
  rw [IntKind.wrap_u8']
  omega
theorem six_cells {w : World} {q : Nat} {v0 v1 v2 v3 v4 v5 : Value} {t : TypeId} (h : w.heap[q]? = some (.cells #[v0, v1, v2, v3, v4, v5] t (0, 0))) : w.cell? ⟨q, 0, none⟩ = some v0 ∧ w.cell? ⟨q, 1, none⟩ = some v1 ∧ w.cell? ⟨q, 2, none⟩ = some v2 ∧ w.cell? ⟨q, 3, none⟩ = some v3 ∧ w.cell? ⟨q, 4, none⟩ = some v4 ∧ w.cell? ⟨q, 5, none⟩ = some v5 :=
  ⟨by rw [cell_of_row _ _ _ _ _ _ h]; rfl, by rw [cell_of_row _ _ _ _ _ _ h]; rfl, by rw [cell_of_row _ _ _ _ _ _ h]; rfl, by rw [cell_of_row _ _ _ _ _ _ h]; rfl, by rw [cell_of_row _ _ _ _ _ _ h]; rfl, by rw [cell_of_row _ _ _ _ _ _ h]; rfl⟩
/-- The two cells of the answer that hold lists. -/
theorem H4.cells {A : Nat → Addr} {W w : World} {b : Nat} {F : Nat → Prop} {c : Nat} {G : Nat → Prop} {d : Dev} {T : Nat} {steps : List Stp} {k : Nat} {s : Stp} {P q2 : Nat} {fv : Value} {pm : Nat} {bv sv : Value} {LB LS : List Value} {CB CS : Nat → List Value} {vb vs : Value} (h : H4 A W w b F c G d T steps k s P q2 fv pm bv sv LB LS CB CS vb vs) : w.cell? ⟨q2, 1, none⟩ = some vb ∧ w.cell? ⟨q2, 2, none⟩ = some vs := by
  obtain ⟨e, a, b', c', hg⟩ := h.got
  exact ⟨(six_cells hg).2.1, (six_cells hg).2.2.1⟩
theorem H4.byte {A : Nat → Addr} {W w : World} {b : Nat} {F : Nat → Prop} {c : Nat} {G : Nat → Prop} {d : Dev} {T : Nat} {steps : List Stp} {k : Nat} {s : Stp} {P q2 : Nat} {fv : Value} {pm : Nat} {bv sv : Value} {LB LS : List Value} {CB CS : Nat → List Value} {g n vc : Nat} {vs : Value} (h : H4 A W w b F c G d T steps k s P q2 fv pm bv sv LB LS CB CS (.slice (some ⟨g, 0, none⟩) n vc) vs) (j : Nat) (hj : j < n) : ∃ x : Int, w.cell? ⟨g, j, none⟩ = some (.int .u8 x) ∧ w.frozen? ⟨g, j, none⟩ = false := by
  obtain ⟨_, va, n', vc', he, cur, hc, h3, h4⟩ := h.bw g rfl
  simp only [Value.slice.injEq] at he
  obtain ⟨-, rfl, -⟩ := he
  obtain ⟨x, hx, _⟩ := h4 j hj
  exact ⟨x, by rw [cell_of_row _ _ _ _ _ _ hc]; exact hx, frozen_cells hc⟩
theorem H4.sector {A : Nat → Addr} {W w : World} {b : Nat} {F : Nat → Prop} {c : Nat} {G : Nat → Prop} {d : Dev} {T : Nat} {steps : List Stp} {k : Nat} {s : Stp} {P q2 : Nat} {fv : Value} {pm : Nat} {bv sv : Value} {LB LS : List Value} {CB CS : Nat → List Value} {g n vc : Nat} {vb : Value} (h : H4 A W w b F c G d T steps k s P q2 fv pm bv sv LB LS CB CS vb (.slice (some ⟨g, 0, none⟩) n vc)) (j : Nat) (hj : j < n) : (∃ u, w.cell? ⟨g, j * 2, none⟩ = some u) ∧ (∃ u, w.cell? ⟨g, j * 2 + 1, none⟩ = some u) ∧ w.frozen? ⟨g, j * 2, none⟩ = false ∧ w.frozen? ⟨g, j * 2 + 1, none⟩ = false := by
  obtain ⟨_, va, n', vc', he, cur, hc, h3⟩ := h.sw g rfl
  simp only [Value.slice.injEq] at he
  obtain ⟨-, rfl, -⟩ := he
  exact ⟨⟨_, by rw [cell_of_row _ _ _ _ _ _ hc]; exact Array.getElem?_eq_getElem (by omega)⟩, ⟨_, by rw [cell_of_row _ _ _ _ _ _ hc]; exact Array.getElem?_eq_getElem (by omega)⟩, frozen_cells hc, frozen_cells hc⟩

set_option maxRecDepth 100000 in
set_option maxHeartbeats 3200000 in
theorem dapart_any (base : Nat) (A : Nat → Addr) (X : Int) (fv sv : Value) (first : List Sec) (steps : List Stp) (w : World) (hE : ErrsB base A w) (hfv : SecsIn w fv first) (hfl : first.length ≤ 1048576) (hsv : StepsIn w sv steps) (hst : StepsT steps) :
    Calls Tryd.prog 5 #[.agg #[.int .i64 X, fv, sv]] w fun e w' => e = .returned (.bool true) ∧ Below w.heap.size w w' := by
  obtain ⟨W, hW⟩ : ∃ W, W = w.alloc (.cells #[.int .i64 X, fv, sv] 25) := ⟨_, rfl⟩
  have hb0 : Below w.heap.size w W := by rw [hW]; exact below_new _ _
  have hbx : Boxed w.heap.size [.int .i64 X, fv, sv] W := by rw [hW]; exact boxed_new w #[.int .i64 X, fv, sv] 25
  have HE : Hid (ErrsB base A W) := hE.up hb0
  have HFV : Hid (SecsIn W fv first) := hfv.keep hb0
  have HTH : Hid (StepsIn W sv steps) := hsv.keep hb0
  have HSC : Hid (∀ w', Below W.heap.size W w' → Calls Tryd.prog 20 #[fv] w' fun e w'' => ∃ v', e = .returned v' ∧ w''.ownsRow w'.heap.size 68 2 v' first.length (secCells first) ∧ Below w'.heap.size w' w'') := fun w' hb' => sectors_any first _ w' (HFV.out.keep hb')
  have HOP0 : Hid (∀ w' v n, Below W.heap.size W w' → w'.ownsRow n 68 2 v first.length (secCells first) → Calls Tryd.prog 19 #[.int .i64 X, v] w' (OpenPost A w' X first)) := fun w' v n hb' hr => open_any base A X first v w' (HE.out.up hb') ⟨hr.1, hr.2.imp id fun ⟨g, cap, cur, q1, _, q3⟩ => ⟨g, cap, cur, q1, Nat.zero_le _, q3⟩⟩ (by omega)
  have HRO0 : Hid (∀ w', Below W.heap.size W w' → Calls Tryd.prog 21 #[.int .i64 X, fv] w' (ROpenPost w' X first)) := fun w' hb' => ropen_any X first fv w' (HFV.out.keep hb')
  have HSL : Hid (steps.length ≤ 1048576) := by obtain ⟨_, _, _, _, _, _, h, _⟩ := hsv; exact h
  have HST := Hid.mk2 hst
  obtain ⟨fa, fcap, fn, rfl⟩ : ∃ a c n, fv = .slice a c n := by obtain ⟨a, c, _, _, h, _⟩ := hfv; exact ⟨a, _, c, h⟩
  obtain ⟨N, ta, tc, hsve, hN⟩ : ∃ N ta tc, sv = .slice ta N tc ∧ N = steps.length := by
    obtain ⟨a, c, _, _, _, h1, h2, _⟩ := hsv
    exact ⟨_, a, c, h1, rfl⟩
  have HN := Hid.mk2 hN
  subst hsve
  have HBX := Hid.mk2 hbx
  have HB0 : Hid (Below w.heap.size w W) := hb0
  have HWD := Hid.mk2 hW
  have c0 : W.cell? ⟨w.heap.size, 0, none⟩ = some (.int .i64 X) := hbx.2 0 (by simp)
  have c1 : W.cell? ⟨w.heap.size, 1, none⟩ = some (.slice fa fcap fn) := hbx.2 1 (by simp)
  clear hfv hsv hE hfl hb0 hbx hN hst
  cases hop : opens (newDev X).size 0 first
  · have HOP : Hid (∀ w' v n, Below W.heap.size W w' → w'.ownsRow n 68 2 v first.length (secCells first) → Calls Tryd.prog 19 #[.int .i64 X, v] w' fun e w'' => e = .returned (.tuple #[.pointer none, .iface 175 (.pointer (some (A 0)))]) ∧ Below w'.heap.size w' w'') := fun w' v n hb' hr => (HOP0.out w' v n hb' hr).mono fun e w'' h => by
      rcases h with ⟨h, _⟩ | ⟨_, h1, h2⟩
      · rw [hop] at h; cases h
      · exact ⟨h1, h2⟩
    have HRO : Hid (∀ w', Below W.heap.size W w' → Calls Tryd.prog 21 #[.int .i64 X, .slice fa fcap fn] w' fun e w'' => e = .returned (.tuple #[.pointer none, .int .i64 1]) ∧ Below w'.heap.size w' w'') := fun w' hb' => (HRO0.out w' hb').mono fun e w'' h => by
      rcases h with ⟨h, _⟩ | ⟨_, h1, h2⟩
      · rw [hop] at h; cases h
      · exact ⟨h1, h2⟩
    have HNM : Hid (∀ w', Below W.heap.size W w' → Calls Tryd.prog 22 #[.iface 175 (.pointer (some (A 0)))] w' fun e w'' => e = .returned (.int .i64 1) ∧ w' = w'') := fun w' hb' => num_any A w' (HE.out.up hb').at' 1 (by simp)
    clear hop HOP0 HRO0 HST HTH HSL
    go_enter Tryd.func5, Tryd.ntmps5
    go_wp2_with fail
    rw [← HWD.out]
    clear hW
    go_region_held3 (fun w' => w'.cell? ⟨w.heap.size, 0, none⟩ = some (.int .i64 X) ∧ w'.cell? ⟨w.heap.size, 1, none⟩ = some (.slice fa fcap fn)) (go_keep)
      (first
        | (go_at_call 20; refine (HSC.out _ (by first | exact bdrew1 (Below.refl _ _) | exact Below.refl _ _)).mono ?_; rintro e w1 ⟨v1, rfl, hv1, hbd⟩; have hb1 : Below W.heap.size W w1 := (by first | exact undrew hbd | exact hbd); clear hbd; have y0 := cell_below hb1 c0; have y1 := cell_below hb1 c1; obtain ⟨va, vc, rfl, -⟩ := owns_form hv1)
        | (go_at_call 19; refine (HOP.out _ _ _ hb1 hv1).mono ?_; rintro e w2 ⟨rfl, hb2'⟩; have hb2 := Below.next hb1 hb2'; have u0 := cell_below hb2' y0; have u1 := cell_below hb2' y1))
    all_goals
      have HB2 := Hid.mk2 hb2
      have HR2 := Hid.mk2 (HRO.out w2 hb2)
      clear hb2 hb2' hb1 hv1 y0 y1 HSC HOP
      go_wp2_with fail
      refine HR2.out.mono ?_
      rintro e w3 ⟨rfl, hb3⟩
      have HB3 := Hid.mk2 (Below.next HB2.out hb3)
      have HN3 := Hid.mk2 (HNM.out w3 (Below.next HB2.out hb3))
      have hne1 := run_eql_pointer_nil (P := Tryd.prog) w3 29 none Tryd.underlying29
      have hne2 := run_eql_pointer_nil (P := Tryd.prog) w3 53 none Tryd.underlying53
      clear HR2 hb3
      go_wp2_with fail
      refine HN3.out.mono ?_
      rintro e w4 ⟨rfl, rfl⟩
      go_wp2_with fail
      go_ret
      exact ⟨rfl, Below.next HB0.out HB3.out⟩
  · obtain ⟨D, hD⟩ : ∃ D : Dev, D = { newDev X with dur := openD first } := ⟨_, rfl⟩
    have HDA : Hid (D.arms = [] ∧ D.pend = []) := by rw [hD]; exact ⟨rfl, rfl⟩
    have HOP : Hid (∀ w' v n, Below W.heap.size W w' → w'.ownsRow n 68 2 v first.length (secCells first) → Calls Tryd.prog 19 #[.int .i64 X, v] w' fun e w'' => ∃ b F, e = .returned (.tuple #[.pointer (some ⟨b, 0, none⟩), .nilIface]) ∧ DevAt w'' b F D ∧ Below w'.heap.size w' w'' ∧ ∀ k, F k → w'.heap.size ≤ k) := fun w' v n hb' hr => (HOP0.out w' v n hb' hr).mono fun e w'' h => by
      rcases h with ⟨_, h⟩ | ⟨h, _⟩
      · rw [hD]; exact h
      · rw [hop] at h; cases h
    have HRO : Hid (∀ w', Below W.heap.size W w' → Calls Tryd.prog 21 #[.int .i64 X, .slice fa fcap fn] w' fun e w'' => ∃ c G, e = .returned (.tuple #[.pointer (some ⟨c, 0, none⟩), .int .i64 0]) ∧ (∃ lv, RBody w'' c G D (.slice none 0 0) lv (.slice none 0 0) (.slice none 0 0)) ∧ Below w'.heap.size w' w'' ∧ ∀ k, G k → w'.heap.size ≤ k) := fun w' hb' => (HRO0.out w' hb').mono fun e w'' h => by
      rcases h with ⟨_, h⟩ | ⟨h, _⟩
      · rw [hD]; exact h
      · rw [hop] at h; cases h
    have HNM : Hid (∀ w', Below W.heap.size W w' → Calls Tryd.prog 22 #[.nilIface] w' fun e w'' => e = .returned (.int .i64 0) ∧ w' = w'') := fun w' hb' => num_any A w' (HE.out.up hb').at' 0 (by simp)
    clear hop HOP0 HRO0 hD
    go_enter Tryd.func5, Tryd.ntmps5
    go_wp2_with fail
    rw [← HWD.out]
    clear hW
    go_region_held3 (fun w' => w'.cell? ⟨w.heap.size, 0, none⟩ = some (.int .i64 X) ∧ w'.cell? ⟨w.heap.size, 1, none⟩ = some (.slice fa fcap fn)) (go_keep)
      (first
        | (go_at_call 20; refine (HSC.out _ (by first | exact bdrew1 (Below.refl _ _) | exact Below.refl _ _)).mono ?_; rintro e w1 ⟨v1, rfl, hv1, hbd⟩; have hb1 : Below W.heap.size W w1 := (by first | exact undrew hbd | exact hbd); clear hbd; have y0 := cell_below hb1 c0; have y1 := cell_below hb1 c1; obtain ⟨va, vc, rfl, -⟩ := owns_form hv1)
        | (go_at_call 19; refine (HOP.out _ _ _ hb1 hv1).mono ?_; rintro e w2 ⟨b, F, rfl, hd2, hb2', hf2⟩; have hb2 := Below.next hb1 hb2'; have u0 := cell_below hb2' y0; have u1 := cell_below hb2' y1))
    have HB2 := Hid.mk2 hb2
    have HD2 := Hid.mk2 hd2
    have HF2 : Hid (∀ k, F k → W.heap.size ≤ k) := fun k hk => Nat.le_trans hb1.size (hf2 k hk)
    have HR2 := Hid.mk2 (HRO.out w2 hb2)
    clear hb2 hb2' hb1 hv1 y0 y1 HSC HOP hd2 hf2
    go_wp2_with fail
    refine HR2.out.mono ?_
    rintro e w3 ⟨c, G, rfl, ⟨lv, hr3⟩, hb3, hg3⟩
    have HB3 := Hid.mk2 (Below.next HB2.out hb3)
    have HN3 := Hid.mk2 (HNM.out w3 (Below.next HB2.out hb3))
    have hne1 := run_eql_pointer_nil (P := Tryd.prog) w3 29 (some ⟨b, 0, none⟩) Tryd.underlying29
    have hne2 := run_eql_pointer_nil (P := Tryd.prog) w3 53 (some ⟨c, 0, none⟩) Tryd.underlying53
    have HPL : Hid (PlayAt A W w3 b F c G D 0 steps 0) := by
      refine ⟨⟨?_, ropen_all hr3 HDA.out.1 HD2.out.ok, fun k hk => ?_, fun k hf hg => ?_⟩, ?_⟩
      · rw [shortD_none HDA.out.1]
        exact ⟨HD2.out.below hb3, HB3.out, HF2.out, HE.out.here.up HB3.out⟩
      · have := hg3 k hk; have := HB2.out.size; omega
      · have := HD2.out.lt k hf; have := hg3 k hg; omega
      · refine ⟨by rw [HDA.out.2]; simp, by rw [HDA.out.1]; simp, ?_, fun a ha => by rw [HDA.out.1] at ha; cases ha⟩
        rw [HDA.out.1]
        have := HST.out.tot
        simp [armSum]; exact this
    have HAP : Hid (AP A W (w3.alloc (.cells #[.slice none 0 0, .slice none 0 0] 64)) b F c G D 0 steps 0 w3.heap.size (.slice none 0 0) (.slice none 0 0) [] [] (fun _ => []) (fun _ => [])) := ⟨RS.init HPL.out.duo, HPL.out.fine, rfl, rfl⟩
    clear HR2 hb3 hr3 hg3 u0 u1 HPL
    go_wp2_with fail
    refine HN3.out.mono ?_
    rintro e w4 ⟨rfl, rfl⟩
    clear HN3 HNM HRO HF2 HD2 HB2
    go_wp2_with fail
    generalize w3.heap.size = pm at *
    generalize w3.alloc (.cells #[.slice none 0 0, .slice none 0 0] 64) = wm at *
    clear hne1 hne2
    go_loopw [8] (fun i wr => ∃ (k : Nat) (F' G' : Nat → Prop) (d : Dev) (T : Nat) (bv sv : Value) (LB LS : List Value) (CB CS : Nat → List Value), k ≤ N ∧ i = .int .i64 (k : Int) ∧ AP A W wr b F' c G' d T steps k pm bv sv LB LS CB CS) (fun i _ => N - (intOf i).toNat)
    case atStart => exact ⟨0, F, G, D, 0, _, _, _, _, _, _, Nat.zero_le _, rfl, HAP.out⟩
    case round =>
      obtain ⟨k, F5, G5, d, T, bv, sv, LB, LS, CB, CS, hk, rfl, P⟩ := hrel
      have HP := Hid.mk2 P
      have b2 : wr.cell? ⟨w.heap.size, 2, none⟩ = some (.slice ta N tc) := (HBX.out.below P.rs.duo.one.bel).2 2 (by simp)
      have hNb : N ≤ 1048576 := by rw [HN.out]; exact HSL.out
      clear HAP
      by_cases hlt : k < N
      · obtain ⟨a', cap', g, off, fvs, h1, h2, h3, h4, h5⟩ := HTH.out
        simp only [Value.slice.injEq] at h1
        obtain ⟨rfl, hl', rfl⟩ := h1
        obtain rfl := h3 (by omega)
        have hkl : k < steps.length := by omega
        obtain ⟨⟨x0, x1, x2, x3, x4⟩, hfx, hnx, hdx⟩ := h5 k hkl (by omega)
        replace x0 := cell_below P.rs.duo.one.bel x0
        replace x1 := cell_below P.rs.duo.one.bel x1
        replace x2 := cell_below P.rs.duo.one.bel x2
        replace x3 := cell_below P.rs.duo.one.bel x3
        replace x4 := cell_below P.rs.duo.one.bel x4
        have k0 : (0 : Int) ≤ (k : Int) := Int.natCast_nonneg _
        have k1 : (k : Int) < (N : Int) := by omega
        have hea := HST.out.each _ (List.getElem_mem hkl)
        generalize hsk : steps[k] = sk at *
        generalize hfk : fvs[k]'(by omega) = fk at *
        obtain ⟨fka, fkc, rfl⟩ : ∃ a c, fk = .slice a sk.fates.length c := by obtain ⟨a, c, _, _, h, _⟩ := hfx; exact ⟨a, c, h⟩
        obtain ⟨W1, hW1⟩ : ∃ W1, W1 = wr.alloc (.cells #[.int .i64 sk.kind, .int .i64 sk.sector, .int .i64 sk.n, .string sk.data, .slice fka sk.fates.length fkc] 35) := ⟨_, rfl⟩
        have hbw : Below wr.heap.size wr W1 := by rw [hW1]; exact below_new _ _
        have hzw : W1.heap.size = wr.heap.size + 1 := by rw [hW1]; simp
        have hbx1 : Boxed wr.heap.size [.int .i64 sk.kind, .int .i64 sk.sector, .int .i64 sk.n, .string sk.data, .slice fka sk.fates.length fkc] W1 := by rw [hW1]; exact boxed_new wr #[.int .i64 sk.kind, .int .i64 sk.sector, .int .i64 sk.n, .string sk.data, .slice fka sk.fates.length fkc] 35
        have h5W : Five W1 wr.heap.size sk (.slice fka sk.fates.length fkc) := ⟨hbx1.2 0 (by simp), hbx1.2 1 (by simp), hbx1.2 2 (by simp), hbx1.2 3 (by simp), hbx1.2 4 (by simp)⟩
        have HA := Hid.mk2 (ap_hand P HSL.out hkl sk (.slice fka sk.fates.length fkc) hfx hnx hdx hea.2.2.1 W1 hbw hzw h5W)
        have HTL := Hid.mk2 (fun w2 F6 va sa vc sc M w3 hb3 E a' b' c' hg3 w' hb' => ap_told (A := A) (W := W) (w2 := w2) (b := b) (c := c) (F6 := F6) (G := G5) (pm := pm) (bv := bv) (sv := sv) (LB := LB) (LS := LS) (CB := CB) (CS := CS) P.fine HST.out HSL.out hkl sk hsk wr.heap.size (.slice fka sk.fates.length fkc) hfx hdx va sa vc sc M w3 hb3 E a' b' c' hg3 w' hb')
        have HSM := Hid.mk2 (fun (w3 : World) vb vs ub us (B : Both w3 (d.actF sk).2 vb vs ub us) w' (hb' : Below w3.heap.size w3 w') => same_any (d.actF sk).2 vb vs ub us w' (B.keep hb').a1 (B.keep hb').a2 (B.keep hb').b1 (B.keep hb').b2)
        have HPm : Hid (∀ q, MKb pm bv sv LB LS q → q < wr.heap.size) := fun q hq => (P.rs.mkk.lt hq).2
        have HWP : Hid (W.heap.size ≤ wr.heap.size) := P.rs.duo.one.bel.size
        have HLB : Hid (LB.length = 2 * k ∧ LS.length = 2 * k) := ⟨P.lb, P.ls⟩
        have HEA := Hid.mk2 hea
        have HLN := Hid.mk2 (actF_lens d sk P.rs.duo.two.ok (by have := P.fine.pend; omega))
        have e0 := h5W.s0
        have e1 := h5W.s1
        have e2 := h5W.s2
        have e3 := h5W.s3
        have e4 := h5W.s4
        clear P HP hfx hbw hbx1 h2 h3 h4 h5 hsk hfk hdx hnx hl' hkl h5W hzw hea
        generalize d.actF sk = R at *
        obtain ⟨R1, re, rby, rse, ra, rb, rc⟩ := R
        simp only [] at HA HTL HSM HLN
        obtain ⟨K, S, n, Dt, fl⟩ := sk
        simp only [] at x0 x1 x2 x3 x4 e0 e1 e2 e3 e4 hW1 HA HTL HEA
        go_wp2_with fail
        rw [← hW1]
        clear hW1 x0 x1 x2 x3 x4
        refine HA.out.mono ?_
        rintro e w2 ⟨va, vc, sa, sc, F6, rfl, M⟩
        obtain ⟨W3, hW3⟩ : ∃ W3, W3 = w2.alloc (.cells #[.int .i64 (re : Int), .slice va rby.length vc, .slice sa rse.length sc, .int .i64 ra, .int .i64 rb, .int .i64 rc] 38) := ⟨_, rfl⟩
        have hb3 : Below w2.heap.size w2 W3 := by rw [hW3]; exact below_new _ _
        have hg3 : W3.heap[w2.heap.size]? = some (.cells #[.int .i64 (re : Int), .slice va rby.length vc, .slice sa rse.length sc, .int .i64 ra, .int .i64 rb, .int .i64 rc] 38 (0, 0)) := by rw [hW3]; exact heap_alloc_new w2 _
        have HVA : Hid (0 < rby.length → ∃ g, va = some ⟨g, 0, none⟩) := fun h0 => by
          obtain ⟨a', c', hsl, hsm⟩ := owns_form M.rb
          simp only [Value.slice.injEq] at hsl
          obtain ⟨g, hg⟩ := hsm (by rw [← hsl.2.1]; exact h0)
          exact ⟨g, by rw [hsl.1, hg]⟩
        have HSA : Hid (0 < rse.length → ∃ g, sa = some ⟨g, 0, none⟩) := fun h0 => by
          obtain ⟨a', c', hsl, hsm⟩ := owns_form M.rr
          simp only [Value.slice.injEq] at hsl
          obtain ⟨g, hg⟩ := hsm (by rw [← hsl.2.1]; exact h0)
          exact ⟨g, by rw [hsl.1, hg]⟩
        have HT3 := Hid.mk2 (fun w' hb' => HTL.out w2 F6 va sa vc sc M W3 hb3 _ _ _ _ hg3 w' hb')
        have h53 := M.five.below hb3
        obtain ⟨y0, y1, y2, y3, y4⟩ := h53
        obtain ⟨t0, t1, t2, t3, t4, t5⟩ := six_cells hg3
        simp only [] at y0 y1 y2 y3 y4
        generalize hq2 : w2.heap.size = q2 at *
        clear M HA HTL e0 e1 e2 e3 e4 hb3 hg3
        go_wp2_with fail
        rw [← hW3]
        clear hW3
        go_region_held3 (fun w' => (w'.cell? ⟨wr.heap.size, 0, none⟩ = some (.int .i64 K) ∧ w'.cell? ⟨wr.heap.size, 1, none⟩ = some (.int .i64 S) ∧ w'.cell? ⟨wr.heap.size, 2, none⟩ = some (.int .i64 n) ∧ w'.cell? ⟨wr.heap.size, 3, none⟩ = some (.string Dt) ∧ w'.cell? ⟨wr.heap.size, 4, none⟩ = some (.slice fka fl.length fkc)) ∧ w'.cell? ⟨q2, 0, none⟩ = some (.int .i64 (re : Int)) ∧ w'.cell? ⟨q2, 1, none⟩ = some (.slice va rby.length vc) ∧ w'.cell? ⟨q2, 2, none⟩ = some (.slice sa rse.length sc) ∧ w'.cell? ⟨q2, 3, none⟩ = some (.int .i64 ra) ∧ w'.cell? ⟨q2, 4, none⟩ = some (.int .i64 rb) ∧ w'.cell? ⟨q2, 5, none⟩ = some (.int .i64 rc)) (go_keep)
          (first
            | (go_at_call 17; refine (HSM.out w4 _ _ _ _ hB4 _ (by first | exact Below.refl _ _ | exact bdrew1 (Below.refl _ _))).mono ?_; rintro e w5 ⟨rfl, hbd5⟩; have hb5 : Below w4.heap.size w4 w5 := (by first | exact hbd5 | exact undrew hbd5); clear hbd5; have f0 := cell_below hb5 z0; have f1 := cell_below hb5 z1; have f2 := cell_below hb5 z2; have f3 := cell_below hb5 z3; have f4 := cell_below hb5 z4; have g0 := cell_below hb5 s0; have g1 := cell_below hb5 s1; have g2 := cell_below hb5 s2; have g3 := cell_below hb5 s3; have g4 := cell_below hb5 s4; have g5 := cell_below hb5 s5)
            | (go_at_call 23; refine (HT3.out _ (by first | exact Below.refl _ _ | exact bdrew1 (Below.refl _ _))).mono ?_; rintro e w4 ⟨ua, uc, ta2, tc2, G6, T6, rfl, H, hB4, hg4⟩; obtain ⟨z0, z1, z2, z3, z4⟩ := H.five; obtain ⟨s0, s1, s2, s3, s4, s5⟩ := six_cells hg4; simp only [] at z0 z1 z2 z3 z4))
        have HH5 := Hid.mk2 (H.up hb5)
        clear H hB4 hg4 hb5 y0 y1 y2 y3 y4 t0 t1 t2 t3 t4 t5 z0 z1 z2 z3 z4 s0 s1 s2 s3 s4 s5 f0 f1 f2 f3 f4 g0 g1 g2 g3 g4 g5 HT3 HSM
        go_wp2_with fail
        generalize wr.heap.size = P0 at *
        clear b2
        go_loopw [12] (fun i wr => ∃ j : Nat, j ≤ rby.length ∧ i = .int .i64 (j : Int) ∧ H4 A W wr b F6 c G6 R1 T6 steps k ⟨K, S, n, Dt, fl⟩ P0 q2 (.slice fka fl.length fkc) pm bv sv LB LS CB CS (.slice va rby.length vc) (.slice sa rse.length sc)) (fun i _ => rby.length - (intOf i).toNat)
        case atStart => exact ⟨0, Nat.zero_le _, rfl, HH5.out⟩
        case round =>
          obtain ⟨j, hj, rfl, H⟩ := hrel
          have HH := Hid.mk2 H
          obtain ⟨p1, p2⟩ := H.cells
          have hrb : rby.length ≤ 140737488355328 := HLN.out.1
          clear HH5 H
          by_cases hjl : j < rby.length
          · obtain ⟨g, rfl⟩ := HVA.out (by omega)
            obtain ⟨x, c8, z8⟩ := HH.out.byte j hjl
            have HPK := Hid.mk2 (HH.out.pokeB HWP.out HPm.out j (bits .xor .u8 x 255) (xor_bound x))
            have j1 : (j : Int) < (rby.length : Int) := by omega
            have j0 : (0 : Int) ≤ (j : Int) := Int.natCast_nonneg _
            clear HH
            go_wp2_with fail
            go_region
            all_goals
              go_wp2_with fail
              go_roundw
              case rel => exact ⟨j + 1, by omega, by go_num, by first | exact HPK.out | exact HPK.out.up (bdrew1 (Below.refl _ _))⟩
              case measure => simp [intOf]; omega
          · have j1 : ¬ (j : Int) < (rby.length : Int) := by omega
            have HH6 := HH
            clear HH
            go_wp2_with fail
            clear p1 p2 j1 hjl
            obtain ⟨w6, hw6⟩ : ∃ w6, w6 = wr := ⟨_, rfl⟩
            rw [← hw6] at HH6 ⊢
            clear hw6
            go_loopw [13] (fun i wr => ∃ j : Nat, j ≤ rse.length ∧ i = .int .i64 (j : Int) ∧ H4 A W wr b F6 c G6 R1 T6 steps k ⟨K, S, n, Dt, fl⟩ P0 q2 (.slice fka fl.length fkc) pm bv sv LB LS CB CS (.slice va rby.length vc) (.slice sa rse.length sc)) (fun i _ => rse.length - (intOf i).toNat)
            case atStart => exact ⟨0, Nat.zero_le _, rfl, HH6.out⟩
            case round =>
              obtain ⟨j, hj, rfl, H⟩ := hrel
              have HH := Hid.mk2 H
              obtain ⟨p1, p2⟩ := H.cells
              have hrs : rse.length ≤ 5864062014805 := HLN.out.2
              clear HH6 H
              by_cases hjl : j < rse.length
              · obtain ⟨g, rfl⟩ := HSA.out (by omega)
                obtain ⟨⟨u8, c8⟩, ⟨u9, c9⟩, z8, z9⟩ := HH.out.sector j hjl
                have HPK := Hid.mk2 (HH.out.pokeS HWP.out HPm.out j (.int .i64 (-3)) (.string { data := #[115, 112, 111, 105, 108, 116] }))
                have j1 : (j : Int) < (rse.length : Int) := by omega
                have j0 : (0 : Int) ≤ (j : Int) := Int.natCast_nonneg _
                clear HH
                go_wp2_with fail
                go_roundw
                case rel => exact ⟨j + 1, by omega, by go_num, HPK.out⟩
                case measure => simp [intOf]; omega
              · have j1 : ¬ (j : Int) < (rse.length : Int) := by omega
                have HFN := Hid.mk2 HH.out.fine
                have HLK := Hid.mk2 (looks_any b c F6 G6 (shortD R1) R1 wr HH.out.rs.duo.one.dev HH.out.rs.duo.two.at' rfl rfl rfl rfl (by have := HH.out.fine.pend; show R1.pend.length ≤ _; omega))
                have HPE : Hid (R1.pend.length ≤ 5864062014000) := by have := HH.out.fine.pend; show R1.pend.length ≤ _; omega
                have HY := Hid.mk2 HH.out.y
                have HOK := Hid.mk2 HH.out.rs.duo.two.ok
                clear HH
                go_wp2_with fail
                refine HLK.out.mono ?_
                rintro e w5 ⟨rfl, hb5⟩
                have HY5 := Hid.mk2 (HY.out.up hb5)
                have HR5 := Hid.mk2 (HY5.out.read 0 1 (by omega))
                clear hb5 HLK HY p1 p2 j1 hjl
                go_wp2_with fail
                refine HR5.out.mono ?_
                rintro e w6 ⟨va1, vc1, ev1, rfl, hY6, hK6, -, -⟩
                have HK6 := Hid.mk2 hK6
                have HQ6 := Hid.mk2 (hY6.rread (by have := HPE.out; omega) 0 1 ⟨by omega, by omega⟩ ⟨by omega, by omega⟩)
                clear HR5 HY5 hY6 hK6
                go_wp2_with fail
                refine HQ6.out.mono ?_
                rintro e w7 ⟨q7, rfl, hY7, hs7⟩
                have HK7 := Hid.mk2 (HK6.out.two hs7)
                have HOK2 := Hid.mk2 hY7.rs.duo.two.ok
                have HR7 := Hid.mk2 (hY7.read S n HEA.out.1.2)
                obtain ⟨o0, o1, o2, o3, o4⟩ := hY7.five
                simp only [] at o1 o2
                clear HQ6 HK6 hY7 hs7 o0 o3 o4
                go_wp2_with fail
                refine HR7.out.mono ?_
                rintro e w8 ⟨va2, vc2, ev2, rfl, hY8, hK8, hn8, hs8⟩
                have HK8 := Hid.mk2 hK8
                have HL8 := Hid.mk2 (HK7.out.one hs8)
                have HNE : Hid (∀ g, (Value.slice va2 ((R1.read 0 1).1.read S n).2.1.length vc2).ownBlock = some g → (Value.slice va1 (R1.read 0 1).2.1.length vc1).ownBlock ≠ some g) := fun g h1 h2 => by
                  have := hn8 g h1
                  have := (owns_blk HK7.out.row g h2).2.1
                  omega
                have HQ8 := Hid.mk2 (hY8.rread (by rw [read_pend]; have := HPE.out; omega) S n HEA.out.2.1 HEA.out.1)
                obtain ⟨o0', o1', o2', o3', o4'⟩ := hY8.five
                simp only [] at o1' o2'
                clear HR7 HK7 hY8 hK8 hn8 hs8 o0' o3' o4' o1 o2
                go_wp2_with fail
                refine HQ8.out.mono ?_
                rintro e w9 ⟨q9, rfl, hY9, hs9⟩
                have HK9 := Hid.mk2 (HK8.out.two hs9)
                have HL9 := Hid.mk2 (HL8.out.two hs9)
                have HR9 := Hid.mk2 hY9.rs
                have HS9 : Hid (w9.cell? ⟨pm, 1, none⟩ = some sv) := by show w9.cell? _ = _; rw [cell_of_row _ _ _ _ _ _ hY9.rs.mkk.blk]; rfl
                have HF9 : Hid (Fine steps (k + 1) ((R1.read 0 1).1.read S n).1 T6) := (HFN.out.read 0 1).read S n
                have HN1 : Hid ((R1.read 0 1).2.1.length ≤ 524288) := read_len R1 HOK.out 0 1
                have HN2 : Hid (((R1.read 0 1).1.read S n).2.1.length ≤ 524288) := read_len _ HOK2.out S n
                have HPE9 : Hid (((R1.read 0 1).1.read S n).1.pend.length ≤ 5864062014000) := by rw [read_pend, read_pend]; exact HPE.out
                generalize ((R1.read 0 1).1.read S n).2.1 = m2 at *
                generalize ((R1.read 0 1).1.read S n).1 = d3 at *
                generalize (R1.read 0 1).2.1 = m1 at *
                clear HQ8 HK8 HL8 hY9 hs9 o1' o2' HFN HPE HEA
                obtain ⟨a1, c1', w10, hrun1, hc1, hz1, hc0, hR10, hs10⟩ := HL9.out.keep HR9.out HN1.out (by have := HLB.out; omega)
                have HRUN1 := Hid.mk2 hrun1
                have HK10 := Hid.mk2 (KB.push (v' := .slice va1 m1.length vc1) HR9.out HK9.out hs10 HNE.out)
                have HR10 := Hid.mk2 hR10
                clear hrun1 hR10 hs10 HR9 HL9 HK9 HNE
                obtain ⟨a2, c2', w11, hrun2, hc2, hz2, hc3, hR11, hs11⟩ := HK10.out.keep HR10.out HN2.out (by have := HLB.out; simp; omega)
                simp only [List.length_append, List.length_cons, List.length_nil, Nat.zero_add] at hrun2 hR11
                rw [set_size] at hrun2
                have HRUN2 := Hid.mk2 hrun2
                have HR11 := Hid.mk2 hR11
                clear hrun2 hR11 hs11 HR10 HK10
                have u0 : w9.cell? ⟨pm, 1, none⟩ = some sv := HS9.out
                have HHH : Hid ((w11.setCell ⟨pm, 0, none⟩ (.slice a2 (LB.length + 1 + 1) c2')).cell? ⟨pm, 1, none⟩ = some sv) := by rw [cell_of_row _ _ _ _ _ _ HR11.out.mkk.blk]; rfl
                go_wp2_with (first | (have hq := HRUN1; clear hq; at_builtin; refine wpList_append_runV 61 rfl _ _ rfl rfl _ _ rfl rfl _ _ HRUN1.out ?_; clear HRUN1) | (at_builtin; refine wpList_append_runV 61 rfl _ _ rfl rfl _ _ rfl rfl _ _ HRUN2.out ?_; clear HRUN2))
                clear hc1 hz1 hc0 hc2 hz2 hc3 u0
                generalize w11.setCell ⟨pm, 0, none⟩ (.slice a2 (LB.length + 1 + 1) c2') = wD at *
                have u0 : wD.cell? ⟨pm, 1, none⟩ = some sv := HHH.out
                have HDU := Hid.mk2 (fun w' (hb : Below wD.heap.size wD w') => (HR11.out.up hb).durable)
                have HLS : Hid (LS.length ≤ 1073741820) := by have := HLB.out; show LS.length ≤ _; omega
                clear HR11 HHH
                go_region_law
                  (first
                    | (refine step_dur _ (by rfl) _ (.pointer (some ⟨b, 0, none⟩)) (by rfl) (by rfl) ((HDU.out _ (by first | exact bdrew1 (Below.refl _ _) | exact Below.refl _ _)).mono ?_); rintro e w12 ⟨va3, vc3, rfl, hP12, -⟩; obtain ⟨a3, c3, w13, hrun3, hx1, hf1, z1, u1, hR13⟩ := hP12.push (by have := HLS.out; omega); have HRUN3 := Hid.mk2 hrun3; have HR13 := Hid.mk2 hR13; clear hrun3 hR13 hP12; refine ⟨_, rfl, ?_⟩)
                    | (refine step_append_ss _ (by rfl) _ _ (by rfl) (by rfl) sv (.slice (some ⟨w12.heap.size, 0, none⟩) 1 1) (by rfl) (by rfl) _ _ HRUN3.out ?_))
                all_goals
                  have HPN := Hid.mk2 (fun w' (hb : Below (w13.setCell ⟨pm, 1, none⟩ (.slice a3 (LS.length + 1) c3)).heap.size (w13.setCell ⟨pm, 1, none⟩ (.slice a3 (LS.length + 1) c3)) w') => (HR13.out.up hb).pending HPE9.out)
                  have HU9 : Hid ((w13.setCell ⟨pm, 1, none⟩ (.slice a3 (LS.length + 1) c3)).cell? ⟨pm, 1, none⟩ = some (.slice a3 (LS.length + 1) c3)) := by show World.cell? _ _ = _; rw [cell_of_row _ _ _ _ _ _ HR13.out.mkk.blk]; rfl
                  clear HRUN3 hx1 hf1 z1 u1 HR13 HDU u0
                  try generalize w13.setCell ⟨pm, 1, none⟩ (.slice a3 (LS.length + 1) c3) = wE at *
                  have u0 := HU9.out
                  clear HU9
                  go_wp2_with fail
                  go_region_law
                    (first
                      | (refine step_pend _ (by rfl) _ (.pointer (some ⟨b, 0, none⟩)) (by rfl) (by rfl) ((HPN.out _ (by first | exact bdrew1 (Below.refl _ _) | exact Below.refl _ _ | exact bdrew1 (bdrew1 (Below.refl _ _)))).mono ?_); rintro e w14 ⟨va4, vc4, rfl, hP14, -⟩; obtain ⟨a4, c4, w15, hrun4, hx1, hf1, z1, u1, hR15⟩ := hP14.push (by have := HLS.out; simp; omega); simp only [List.length_append, List.length_cons, List.length_nil, Nat.zero_add] at hrun4 hR15; have HRUN4 := Hid.mk2 hrun4; have HR15 := Hid.mk2 hR15; clear hrun4 hR15 hP14; refine ⟨_, rfl, ?_⟩)
                      | (refine step_append_ss _ (by rfl) _ _ (by rfl) (by rfl) (.slice a3 (LS.length + 1) c3) (.slice (some ⟨w14.heap.size, 0, none⟩) 1 1) (by rfl) (by rfl) _ _ HRUN4.out ?_))
                  all_goals
                    clear HRUN4 hx1 hf1 z1 u1 HPN u0
                    go_wp2_with fail
                    go_roundw
                    case rel => exact ⟨k + 1, F6, G6, d3, T6, _, _, _, _, _, _, by omega, by go_num, ⟨by first | exact HR15.out | exact HR15.out.up (bdrew1 (Below.refl _ _)), HF9.out, by have := HLB.out; simp; omega, by have := HLB.out; simp; omega⟩⟩
                    case measure => simp [intOf]; omega
      · have k2 : ¬ (k : Int) < (N : Int) := by omega
        have HFU := Hid.mk2 (P.full (by omega))
        have HLO : Hid (∀ w', Duo A W w' b F5 (shortD d) c G5 d T → Calls Tryd.prog 24 #[.pointer (some ⟨b, 0, none⟩), .pointer (some ⟨c, 0, none⟩)] w' fun e w'' => e = .returned (.bool true) ∧ Below w'.heap.size w' w'') := fun w' h => looks_any b c F5 G5 (shortD d) d w' h.one.dev h.two.at' rfl rfl rfl rfl (by have := P.fine.pend; show d.pend.length ≤ _; omega)
        clear P HP
        go_wp2_with fail
        refine HFU.out.mono ?_
        rintro e w5 ⟨rfl, hD⟩
        have HL5 := Hid.mk2 (HLO.out w5 hD)
        have HB5 := Hid.mk2 (Below.next HB0.out hD.one.bel)
        clear HFU HLO hD
        go_wp2_with fail
        refine HL5.out.mono ?_
        rintro e w6 ⟨rfl, hb6⟩
        have HBT := Hid.mk2 (Below.next HB5.out hb6)
        clear hb6 HL5 HB5
        go_wp2_with fail
        go_ret
        exact ⟨rfl, HBT.out⟩

end Go.Proofs.YtdieacdkomiooabDoor
