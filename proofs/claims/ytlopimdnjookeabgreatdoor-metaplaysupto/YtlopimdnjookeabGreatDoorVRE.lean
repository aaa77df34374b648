import Derived.Test.YtlopimdnjookeabGreatDoorA6
import Derived.Deep.DeepCutAuto
import Derived.Deep.CutBlock
import Derived.Deep.QuietTactic
import Derived.Deep.RegionHeld3
import Derived.BigQuiet
namespace Go.Proofs.YtlopimdnjookeabGreatDoor.V
open Go.RowKit Go.Maps

set_option maxRecDepth 100000 in
set_option maxHeartbeats 4000000 in
theorem rsettle_any (b : Nat) (F : Nat → Prop) (d : Dev) (T : Nat) (w : World) (tv0 lv0 pv av : Value) (h : RFul w b F d T tv0 lv0 pv av) (l : List Fate) (v : Value) (hpl : d.pend.length ≤ 5864062014805) (hlen : l.length ≤ 1048576) (hT : T ≤ 1048576) (hJ : ∀ f ∈ l, f.junk.size ≤ 1048576)
    (hfi : ∀ w', w.heap.size ≤ w'.heap.size → (∀ i, i < w.heap.size → i ≠ b → tv0.ownBlock ≠ some i → w'.heap[i]? = w.heap[i]?) → FatesIn w' v l) :
    Calls Tryz.prog 57 #[.pointer (some ⟨b, 0, none⟩), v] w fun e w' => e = .returned (.tuple #[]) ∧ ∃ F' T', RAll w' b F' (d.kill l) T' ∧ Step F F' w w' ∧ T' ≤ T + l.length := by
  have HI0 : Hid (SInv w w b F F d T T l tv0 tv0 lv0 pv av 0 0) := ⟨by rw [durK_zero]; exact h, Step.refl _ _, fun _ _ _ _ => rfl, fun g hg => .inl hg, Nat.le_refl _⟩
  obtain ⟨va, vc, hv⟩ : ∃ a c, v = .slice a l.length c := by
    obtain ⟨a, c, g, off, hv, _⟩ := hfi w (Nat.le_refl _) (fun _ _ _ _ => rfl)
    exact ⟨a, c, hv⟩
  have HFI := Hid.mk2 hfi
  have HOK := Hid.mk2 h.ok
  obtain ⟨N, hN⟩ : ∃ N, N = l.length := ⟨_, rfl⟩
  have HN := Hid.mk2 hN
  have HJ := Hid.mk2 hJ
  subst hv
  rw [← hN] at hlen
  have HV : Hid (∀ w', w.heap.size ≤ w'.heap.size → (∀ i, i < w.heap.size → i ≠ b → tv0.ownBlock ≠ some i → w'.heap[i]? = w.heap[i]?) → FatesIn w' (.slice va N vc) l) := by rw [hN]; exact HFI.out
  rw [← hN]
  clear h hfi HFI hN hJ
  go_enter Tryz.func57, Tryz.ntmps57
  go_wp2_with fail
  go_loopw [4] (fun i wr => ∃ k F' T' tv lv, k ≤ N ∧ i = .int .i64 (k : Int) ∧ SInv w wr b F F' d T T' l tv0 tv lv pv av k k) (fun i _ => N - (intOf i).toNat)
  case atStart => exact ⟨0, F, T, tv0, lv0, Nat.zero_le _, rfl, HI0.out⟩
  case round =>
    obtain ⟨k, F', T', tv, lv, hk, rfl, inv⟩ := hrel
    have INV := Hid.mk2 inv
    clear inv HI0
    by_cases hlt : k < N
    · have hkl : k < l.length := by have := HN.out; omega
      have hfin := HV.out wr INV.out.step.size INV.out.keep
      obtain ⟨a', cap', g, off, he, -, ha', hcs⟩ := hfin.cells
      obtain ⟨rfl, -, rfl⟩ : va = a' ∧ N = l.length ∧ vc = cap' := by simpa using he
      obtain ⟨c0, c1, c2, c3⟩ := hcs k hkl
      obtain rfl := ha' (by omega)
      clear he ha' hcs
      obtain ⟨pa, pc, hpv, -⟩ := owns_form INV.out.full.body.pend
      have HPV := Hid.mk2 hpv
      obtain ⟨PN, hPN⟩ : ∃ PN, PN = d.pend.length := ⟨_, rfl⟩
      have HPN := Hid.mk2 hPN
      simp only [] at hpv
      rw [← hPN] at hpv
      have f3 : wr.cell? ⟨b, 3, none⟩ = some (.slice pa PN pc) := by rw [← hpv]; exact INV.out.full.body.cell 3
      clear hpv
      have HFR : Hid (∀ w', Below wr.heap.size wr w' → Calls Tryz.prog 74 #[.slice (some ⟨g, off, none⟩) N vc, .int .i64 (k : Int)] w' fun e w2 => e = .returned (.bool (!earl l k l[k].ix)) ∧ Below w'.heap.size w' w2) := fun w' hb => rfirst_any l _ k w' (hfin.keep hb) hkl
      have HSK : Hid (l[k].ix < 0 ∨ (PN : Int) ≤ l[k].ix ∨ earl l k l[k].ix = true → durK d.pend d.dur l (k + 1) = durK d.pend d.dur l k) := fun hs => durK_skip _ _ l k hkl (by rw [← hPN]; exact hs)
      have HTK : Hid (∀ j (hj : j < d.pend.length), l[k].ix = (j : Int) → earl l k l[k].ix = false → durK d.pend d.dur l (k + 1) = meetX (durK d.pend d.dur l k) d.pend[j] l[k]) := fun j hj hx hs => durK_take _ _ l k j hkl hj hx hs
      have HJK : Hid (l[k].junk.size ≤ 1048576) := HJ.out _ (List.getElem_mem hkl)
      generalize l[k] = f at *
      obtain ⟨X, K, C, J⟩ := f
      simp only [] at c0 c1 c2 c3 HFR HSK HJK
      generalize earl l k X = ea at *
      have HBA := Hid.mk2 (below_new wr (.cells #[.int .i64 X, .int .i64 K, .int .i64 C, .string J] 114))
      have HXA : Hid (Boxed wr.heap.size [.int .i64 X, .int .i64 K, .int .i64 C, .string J] (wr.alloc (.cells #[.int .i64 X, .int .i64 K, .int .i64 C, .string J] 114))) := boxed_new wr _ _
      clear hfin hPN
      have hlt' : (k : Int) < (N : Int) := by omega
      go_wp2_with fail
      refine (HFR.out _ HBA.out).mono ?_
      rintro e w2 ⟨rfl, hb2⟩
      have hwz : wr.heap.size < (wr.alloc (.cells #[.int .i64 X, .int .i64 K, .int .i64 C, .string J] 114)).heap.size := by simp
      have HB2 : Hid (Below wr.heap.size wr w2) := Below.next HBA.out hb2
      have HX2 : Hid (Boxed wr.heap.size [.int .i64 X, .int .i64 K, .int .i64 C, .string J] w2) := HXA.out.below hb2
      have INV2 := Hid.mk2 (INV.out.below HB2.out)
      have g3 : w2.cell? ⟨b, 3, none⟩ = some (.slice pa PN pc) := cell_below HB2.out f3
      have x0 : w2.cell? ⟨wr.heap.size, 0, none⟩ = some (.int .i64 X) := HX2.out.2 0 (by simp)
      have x1 : w2.cell? ⟨wr.heap.size, 1, none⟩ = some (.int .i64 K) := HX2.out.2 1 (by simp)
      have x2 : w2.cell? ⟨wr.heap.size, 2, none⟩ = some (.int .i64 C) := HX2.out.2 2 (by simp)
      have x3 : w2.cell? ⟨wr.heap.size, 3, none⟩ = some (.string J) := HX2.out.2 3 (by simp)
      have HFB : Hid (¬ F' wr.heap.size) := fun hf => by have := INV.out.full.body.lt _ hf; omega
      clear hb2 HFR HBA HXA f3 c0 c1 c2 c3 INV hwz
      by_cases hA : X < 0
      · have HE := Hid.mk2 (HSK.out (.inl hA))
        have HNX := Hid.mk2 (fun m : Nat => (INV2.out.skip HE.out).below (below_drewN (Below.refl _ _) m))
        clear HSK HTK
        go_wp2_with fail
        go_quiet (fail)
        go_wp2_with fail
        exact ⟨⟨k + 1, F', T', tv, lv, by omega, by go_num, HNX.out _⟩, by simp [intOf]; omega⟩
      · by_cases hB : (PN : Int) ≤ X
        · have HE := Hid.mk2 (HSK.out (.inr (.inl hB)))
          have HNX := Hid.mk2 (fun m : Nat => (INV2.out.skip HE.out).below (below_drewN (Below.refl _ _) m))
          clear HSK HTK
          go_wp2_with fail
          go_quiet (fail)
          go_wp2_with fail
          exact ⟨⟨k + 1, F', T', tv, lv, by omega, by go_num, HNX.out _⟩, by simp [intOf]; omega⟩
        · cases ea with
          | true =>
            have HE := Hid.mk2 (HSK.out (.inr (.inr rfl)))
            have HNX := Hid.mk2 (fun m : Nat => (INV2.out.skip HE.out).below (below_drewN (Below.refl _ _) m))
            clear HSK HTK
            go_wp2_with fail
            go_quiet (fail)
            go_wp2_with fail
            exact ⟨⟨k + 1, F', T', tv, lv, by omega, by go_num, HNX.out _⟩, by simp [intOf]; omega⟩
          | false =>
            obtain ⟨j, rfl⟩ : ∃ j : Nat, X = (j : Int) := ⟨X.toNat, by omega⟩
            have hjl : j < d.pend.length := by have := HPN.out; omega
            have HE := Hid.mk2 (HTK.out j hjl rfl rfl)
            have HSO : Hid (SecOk d.size d.pend[j]) := HOK.out.pend _ (List.getElem_mem hjl)
            obtain ⟨gp, cp, hpe, hpc⟩ := secs_at INV2.out.full.body.pend (by show 0 < d.pend.length; omega)
            obtain ⟨p0, p1⟩ := hpc j hjl
            have e3 : w2.cell? ⟨b, 3, none⟩ = some (.slice (some ⟨gp, 0, none⟩) PN cp) := by rw [HPN.out, INV2.out.full.body.cell 3]; exact congrArg some hpe
            obtain ⟨rfl, rfl⟩ : pa = some ⟨gp, 0, none⟩ ∧ pc = cp := by rw [g3] at e3; simpa using e3
            simp only [] at p0 p1
            generalize d.pend[j] = y at *
            obtain ⟨yi, yd⟩ := y
            simp only [] at p0 p1
            clear HSK HTK e3 hpc
            have hB' : ¬ (PN : Int) ≤ (j : Int) := hB
            have hjn : j < PN := by omega
            have hj0 : (0 : Int) ≤ (j : Int) := by omega
            have hjn' : (j : Int) < (PN : Int) := by omega
            go_wp2_with fail
            go_quiet (fail)
            go_wp2_with fail
            go_cut [7] (fun u7 wx => ∃ nb : Nat, u7 = .pointer (some ⟨nb, 0, none⟩) ∧ wx.heap[nb]? = some (.cells #[.int .i64 yi, .string yd] 72 (0, 0)) ∧ w2.heap.size ≤ nb ∧ Below w2.heap.size w2 wx)
            case first =>
              have HBW : ∀ m, Below w2.heap.size w2 ((w2.drewN m).alloc (.cells #[.int .i64 0, .string { data := #[] }] 72)) := fun m => ⟨rfl, rfl, rfl, by simp, fun i hi => (below_new (w2.drewN m) _).block i hi⟩
              have y0 : ∀ m, ((w2.drewN m).alloc (.cells #[.int .i64 0, .string { data := #[] }] 72)).cell? ⟨wr.heap.size, 0, none⟩ = some (.int .i64 (j : Int)) := fun m => cell_below (HBW m) x0
              have y1 : ∀ m, ((w2.drewN m).alloc (.cells #[.int .i64 0, .string { data := #[] }] 72)).cell? ⟨gp, j * 2, none⟩ = some (.int .i64 yi) := fun m => cell_below (HBW m) p0
              have y2 : ∀ m, ((w2.drewN m).alloc (.cells #[.int .i64 0, .string { data := #[] }] 72)).cell? ⟨gp, j * 2 + 1, none⟩ = some (.string yd) := fun m => cell_below (HBW m) p1
              have y3 : ∀ m, ((w2.drewN m).alloc (.cells #[.int .i64 0, .string { data := #[] }] 72)).cell? ⟨b, 3, none⟩ = some (.slice (some ⟨gp, 0, none⟩) PN pc) := fun m => cell_below (HBW m) g3
              have hnw : ∀ m, ((w2.drewN m).alloc (.cells #[.int .i64 0, .string { data := #[] }] 72)).heap[w2.heap.size]? = some (.cells #[.int .i64 0, .string { data := #[] }] 72 (0, 0)) := fun m => heap_alloc_new (w2.drewN m) _
              have n0 : ∀ m, ((w2.drewN m).alloc (.cells #[.int .i64 0, .string { data := #[] }] 72)).cell? ⟨w2.heap.size, 0, none⟩ = some (.int .i64 0) := fun m => by rw [cell_of_row _ _ _ _ _ _ (hnw m)]; rfl
              have n1 : ∀ m u, (((w2.drewN m).alloc (.cells #[.int .i64 0, .string { data := #[] }] 72)).setCell ⟨w2.heap.size, 0, none⟩ u).cell? ⟨w2.heap.size, 1, none⟩ = some (.string { data := #[] }) := fun m u => by rw [cell_of_row _ _ _ _ _ _ (set_cells (hnw m))]; rfl
              have n1' : ∀ m, ((w2.drewN m).alloc (.cells #[.int .i64 0, .string { data := #[] }] 72)).cell? ⟨w2.heap.size, 1, none⟩ = some (.string { data := #[] }) := fun m => by rw [cell_of_row _ _ _ _ _ _ (hnw m)]; rfl
              have n2 : ∀ m i, ((w2.drewN m).alloc (.cells #[.int .i64 0, .string { data := #[] }] 72)).frozen? ⟨w2.heap.size, i, none⟩ = false := fun m i => frozen_cells (hnw m)
              have n3 : ∀ m u i, (((w2.drewN m).alloc (.cells #[.int .i64 0, .string { data := #[] }] 72)).setCell ⟨w2.heap.size, 0, none⟩ u).frozen? ⟨w2.heap.size, i, none⟩ = false := fun m u i => frozen_cells (set_cells (hnw m))
              clear HBW hnw
              go_region
              all_goals
                go_wp2_with fail
                go_meet
                case rel => exact ⟨_, rfl, (pend_copy w2 _ yi yd).1, Nat.le_refl _, (pend_copy w2 _ yi yd).2⟩
            case rest =>
              obtain ⟨nb, rfl, hrow, hnb, hbw⟩ := hcut
              have INVC := Hid.mk2 (INV2.out.below hbw)
              have HNF : Hid (¬ F' nb) := fun hf => by have := INV2.out.full.body.lt nb hf; omega
              have HYD : Hid (yd.size = 512) := HSO.out.len
              have r1 : wc.cell? ⟨wr.heap.size, 1, none⟩ = some (.int .i64 K) := cell_below hbw x1
              have q0 : wc.cell? ⟨nb, 0, none⟩ = some (.int .i64 yi) := by rw [cell_of_row _ _ _ _ _ _ hrow]; rfl
              have q1 : wc.cell? ⟨nb, 1, none⟩ = some (.string yd) := by rw [cell_of_row _ _ _ _ _ _ hrow]; rfl
              have l2 : wc.cell? ⟨b, 2, none⟩ = some lv := INVC.out.full.body.cell 2
              have HRS := Hid.mk2 (fun (W : World) (hW : Below wc.heap.size wc W) => INVC.out.rset yi yd HYD.out W hW)
              by_cases hK2 : K = 2
              · have HL : Hid (durK d.pend d.dur l (k + 1) = setD (durK d.pend d.dur l k) yi yd) := by show _ = _; rw [HE.out]; simp [meetX, hK2]
                have HNX : Hid (∀ W w1 v', Below wc.heap.size wc W → Below W.heap.size W w1 → w1.ownsRow W.heap.size 72 2 v' (setD (durK d.pend d.dur l k) yi yd).length (secCells (setD (durK d.pend d.dur l k) yi yd)) → SInv w (w1.setCell ⟨b, 2, none⟩ v') b F (grow F' W w1) d T T' l tv0 tv v' pv av (k + 1) (k + 1)) := fun W w1 v' hW h1 hr => (INVC.out.below hW).last h1 hr HL.out HOK.out (by omega)
                subst hK2
                have hcb : b < wc.heap.size := World.block_lt_of_cell? _ _ l2
                have HZ2 := Hid.mk2 (frozen_cells (j := 2) INVC.out.full.body.blk)
                have HR1 := Hid.mk2 r1
                have HNB1 : Hid (¬ wr.heap.size = b) := fun e => HFB.out (by rw [e]; exact INVC.out.full.body.fb)
                go_wp2_with fail
                go_region_law
                  (first
                    | (refine step_rset _ (by rfl) _ _ lv (.agg #[.int .i64 yi, .string yd]) (by rfl) (by rfl) (by rfl) ((HRS.out _ (by first | exact bdrew1 (Below.refl _ _) | exact Below.refl _ _)).mono ?_); rintro e w5 ⟨v5, rfl, hr5, hb5⟩; have hb6 : Below wc.heap.size wc w5 := (by first | exact hb5 | exact undrew hb5); have HX5 := Hid.mk2 (HNX.out _ w5 v5 (by first | exact bdrew1 (Below.refl _ _) | exact Below.refl _ _) hb5 hr5); obtain ⟨a5, c5, rfl, -⟩ := owns_form hr5; have s2 : w5.cell? ⟨b, 2, none⟩ = some lv := cell_below hb6 l2; have sz2 : w5.frozen? ⟨b, 2, none⟩ = false := (hb6.frozen (p := ⟨b, 2, none⟩) hcb).trans HZ2.out; have s1 : (w5.setCell ⟨b, 2, none⟩ (.slice a5 (setD (durK d.pend d.dur l k) yi yd).length c5)).cell? ⟨wr.heap.size, 1, none⟩ = some (.int .i64 2) := (World.cell?_of_block (a := ⟨wr.heap.size, 1, none⟩) (set_other HNB1.out)).trans (cell_below hb6 HR1.out); clear hb5 hb6 hr5; refine ⟨_, rfl, ?_⟩))
                all_goals
                  clear HRS HNX l2 r1
                  go_wp2_with fail
                  exact ⟨⟨k + 1, _, T', tv, _, by omega, by go_num, HX5.out⟩, by simp [intOf]; omega⟩
              · by_cases hK3 : K = 3
                · subst hK3
                  have HL : Hid (durK d.pend d.dur l (k + 1) = setD (durK d.pend d.dur l k) yi (tornB yd ⟨(j : Int), 3, C, J⟩)) := by show _ = _; rw [HE.out]; simp [meetX]
                  have HTS : Hid ((tornB yd ⟨(j : Int), 3, C, J⟩).size = 512) := tornB_size yd _
                  have HTO : Hid (∀ W, Calls Tryz.prog 76 #[.string yd, .agg #[.int .i64 (j : Int), .int .i64 3, .int .i64 C, .string J]] W fun e w' => e = .returned (.string (tornB yd ⟨(j : Int), 3, C, J⟩)) ∧ Below W.heap.size W w') := fun W => rtorn_any yd ⟨(j : Int), 3, C, J⟩ W HYD.out HJK.out
                  generalize tornB yd ⟨(j : Int), 3, C, J⟩ = TB at *
                  have HLA : Hid (∀ W, Below wc.heap.size wc W → Calls Tryz.prog 75 #[.pointer (some ⟨b, 0, none⟩), .int .i64 yi] W fun e w' => ∃ s, e = .returned (.string s) ∧ Below W.heap.size W w') := fun W hW =>
                    (rlasting_any b F' _ W ⟨tv, lv, pv, av, (INVC.out.full.below hW).body⟩ yi (by have := Dev.Ok.dur_len INVC.out.full.ok; simp only [] at this ⊢; omega)).mono fun e w' h => ⟨_, h.1, h.2⟩
                  have r0 : wc.cell? ⟨wr.heap.size, 0, none⟩ = some (.int .i64 (j : Int)) := cell_below hbw x0
                  have r2 : wc.cell? ⟨wr.heap.size, 2, none⟩ = some (.int .i64 C) := cell_below hbw x2
                  have r3 : wc.cell? ⟨wr.heap.size, 3, none⟩ = some (.string J) := cell_below hbw x3
                  have hnbl : nb < wc.heap.size := (Array.getElem?_eq_some_iff.1 hrow).1
                  have HBX : Hid (Boxed wr.heap.size [.int .i64 (j : Int), .int .i64 3, .int .i64 C, .string J] wc) := HX2.out.below hbw
                  have hfn : wr.heap.size < nb := by have : wr.heap.size < w2.heap.size := HX2.out.1; omega
                  have hwn : w.heap.size ≤ nb := Nat.le_trans INV2.out.step.size hnb
                  have hfl : wr.heap.size < wc.heap.size := World.block_lt_of_cell? _ _ r0
                  have HROW := Hid.mk2 hrow
                  clear HRS l2 hrow r2 r3 r0 x0 x1 x2 x3
                  go_wp2_with fail
                  have HBA := Hid.mk2 (below_new wc (.cells #[.int .i64 yi, .string { data := #[] }, .string yd, .string { data := #[] }] 118))
                  have HTN := Hid.mk2 (heap_alloc_new wc (.cells #[.int .i64 yi, .string { data := #[] }, .string yd, .string { data := #[] }] 118))
                  refine (HLA.out _ HBA.out).mono ?_
                  rintro e w11 ⟨s0, rfl, hb11⟩
                  have HB11 : Hid (Below wc.heap.size wc w11) := Below.next HBA.out hb11
                  have t11 : w11.heap[wc.heap.size]? = some (.cells #[.int .i64 yi, .string { data := #[] }, .string yd, .string { data := #[] }] 118 (0, 0)) := (hb11.block _ (by simp)).trans HTN.out
                  have HTF : Hid (¬ F' wc.heap.size) := fun hf => by have := INVC.out.full.body.lt _ hf; omega
                  have hwc : w.heap.size ≤ wc.heap.size := INVC.out.step.size
                  have hz11 : wc.heap.size < w11.heap.size := (Array.getElem?_eq_some_iff.1 t11).1
                  have e1 : w11.cell? ⟨wc.heap.size, 1, none⟩ = some (.string { data := #[] }) := by rw [cell_of_row _ _ _ _ _ _ t11]; rfl
                  have e1f : w11.frozen? ⟨wc.heap.size, 1, none⟩ = false := frozen_cells t11
                  have t12 : (w11.setCell ⟨wc.heap.size, 1, none⟩ (.string s0)).heap[wc.heap.size]? = some (.cells #[.int .i64 yi, .string s0, .string yd, .string { data := #[] }] 118 (0, 0)) := set_cells t11
                  have n12 : (w11.setCell ⟨wc.heap.size, 1, none⟩ (.string s0)).heap[nb]? = some (.cells #[.int .i64 yi, .string yd] 72 (0, 0)) := (set_other (by omega)).trans ((HB11.out.block nb hnbl).trans HROW.out)
                  have q12 : (w11.setCell ⟨wc.heap.size, 1, none⟩ (.string s0)).cell? ⟨nb, 1, none⟩ = some (.string yd) := by rw [cell_of_row _ _ _ _ _ _ n12]; rfl
                  have HI12 := Hid.mk2 ((INVC.out.below HB11.out).side wc.heap.size 1 (.string s0) hwc HTF.out)
                  have hbx12 : Boxed wr.heap.size [.int .i64 (j : Int), .int .i64 3, .int .i64 C, .string J] w11 := HBX.out.below HB11.out
                  have bx : ∀ i u, w11.cell? ⟨wr.heap.size, i, none⟩ = some u → (w11.setCell ⟨wc.heap.size, 1, none⟩ (.string s0)).cell? ⟨wr.heap.size, i, none⟩ = some u := fun i u h => (World.cell?_of_block (a := ⟨wr.heap.size, i, none⟩) (set_other (show wr.heap.size ≠ wc.heap.size by omega))).trans h
                  have b0 := bx 0 _ (hbx12.2 0 (by simp))
                  have b1 := bx 1 _ (hbx12.2 1 (by simp))
                  have b2 := bx 2 _ (hbx12.2 2 (by simp))
                  have b3 := bx 3 _ (hbx12.2 3 (by simp))
                  simp only [List.getElem_cons_zero, List.getElem_cons_succ] at b0 b1 b2 b3
                  have HT12 := Hid.mk2 t12
                  have HN12 := Hid.mk2 n12
                  clear HBA HTN hb11 t11 t12 n12 hbx12 bx HLA HBX HROW INVC q0 q1 r1
                  go_wp2_with fail
                  generalize w11.setCell ⟨wc.heap.size, 1, none⟩ (.string s0) = W12 at *
                  refine (HTO.out _).mono ?_
                  rintro e w13 ⟨rfl, hb13⟩
                  have hz12 : wc.heap.size < W12.heap.size := (Array.getElem?_eq_some_iff.1 HT12.out).1
                  have n13 : w13.heap[nb]? = some (.cells #[.int .i64 yi, .string yd] 72 (0, 0)) := (hb13.block nb (by omega)).trans HN12.out
                  have t13 : w13.heap[wc.heap.size]? = some (.cells #[.int .i64 yi, .string s0, .string yd, .string { data := #[] }] 118 (0, 0)) := (hb13.block _ hz12).trans HT12.out
                  have c13 : w13.cell? ⟨nb, 1, none⟩ = some (.string yd) := by rw [cell_of_row _ _ _ _ _ _ n13]; rfl
                  have z13 : w13.frozen? ⟨nb, 1, none⟩ = false := frozen_cells n13
                  have n14 : (w13.setCell ⟨nb, 1, none⟩ (.string TB)).heap[nb]? = some (.cells #[.int .i64 yi, .string TB] 72 (0, 0)) := set_cells n13
                  have t14 : (w13.setCell ⟨nb, 1, none⟩ (.string TB)).heap[wc.heap.size]? = some (.cells #[.int .i64 yi, .string s0, .string yd, .string { data := #[] }] 118 (0, 0)) := (set_other (by omega)).trans t13
                  have c14 : (w13.setCell ⟨nb, 1, none⟩ (.string TB)).cell? ⟨nb, 1, none⟩ = some (.string TB) := by rw [cell_of_row _ _ _ _ _ _ n14]; rfl
                  have c15 : (w13.setCell ⟨nb, 1, none⟩ (.string TB)).cell? ⟨wc.heap.size, 3, none⟩ = some (.string { data := #[] }) := by rw [cell_of_row _ _ _ _ _ _ t14]; rfl
                  have z15 : (w13.setCell ⟨nb, 1, none⟩ (.string TB)).frozen? ⟨wc.heap.size, 3, none⟩ = false := frozen_cells t14
                  have HI14 := Hid.mk2 (((HI12.out.below hb13).side nb 1 (.string TB) hwn HNF.out).side wc.heap.size 3 (.string TB) hwc HTF.out)
                  have HT15 : Hid (((w13.setCell ⟨nb, 1, none⟩ (.string TB)).setCell ⟨wc.heap.size, 3, none⟩ (.string TB)).heap[wc.heap.size]? = some (.cells #[.int .i64 yi, .string s0, .string yd, .string TB] 118 (0, 0))) := set_cells t14
                  have HN15 : Hid (((w13.setCell ⟨nb, 1, none⟩ (.string TB)).setCell ⟨wc.heap.size, 3, none⟩ (.string TB)).heap[nb]? = some (.cells #[.int .i64 yi, .string TB] 72 (0, 0))) := (set_other (by omega)).trans n14
                  have HB15 : Hid (((w13.setCell ⟨nb, 1, none⟩ (.string TB)).setCell ⟨wc.heap.size, 3, none⟩ (.string TB)).cell? ⟨wr.heap.size, 1, none⟩ = some (.int .i64 3)) := (World.cell?_of_block (a := ⟨wr.heap.size, 1, none⟩) ((set_other (show wr.heap.size ≠ wc.heap.size by omega)).trans (set_other (show wr.heap.size ≠ nb by omega)))).trans (cell_below hb13 b1)
                  clear hb13 n13 t13 n14 t14 HI12 HT12 HN12 HTO b0 b1 b2 b3 q12 e1 e1f hz12
                  go_wp2_with fail
                  generalize (w13.setCell ⟨nb, 1, none⟩ (.string TB)).setCell ⟨wc.heap.size, 3, none⟩ (.string TB) = W3 at *
                  clear c13 z13 c14 c15 z15
                  obtain ⟨i0, hi, hz0, hz1, hz2⟩ := info_parts Tryz.info118
                  have a0 : W3.cell? ⟨b, 0, none⟩ = some tv := HI14.out.full.body.cell 0
                  have d0 : W3.cell? ⟨wc.heap.size, 0, none⟩ = some (.int .i64 yi) := by rw [cell_of_row _ _ _ _ _ _ HT15.out]; rfl
                  have d1 : W3.cell? ⟨wc.heap.size, 1, none⟩ = some (.string s0) := by rw [cell_of_row _ _ _ _ _ _ HT15.out]; rfl
                  have d2 : W3.cell? ⟨wc.heap.size, 2, none⟩ = some (.string yd) := by rw [cell_of_row _ _ _ _ _ _ HT15.out]; rfl
                  have d3 : W3.cell? ⟨wc.heap.size, 3, none⟩ = some (.string TB) := by rw [cell_of_row _ _ _ _ _ _ HT15.out]; rfl
                  have a0' : (W3.alloc (.cells #[.int .i64 yi, .string s0, .string yd, .string TB] 118)).cell? ⟨b, 0, none⟩ = some tv := cell_below (below_new W3 _) a0
                  have hb3 : b < W3.heap.size := World.block_lt_of_cell? _ _ a0
                  obtain ⟨csx, hcsx⟩ := HI14.out.full.tears
                  have HTROW : Hid (∀ W : World, (∀ i, i < W3.heap.size → W.heap[i]? = W3.heap[i]?) → W.ownsRow 0 118 4 tv T' csx) := fun W hW => owns_block hcsx (fun g hg => hW g (owns_blk hcsx g hg).2.1)
                  have HT63 : Hid (T' + 1 ≤ maxLen ∧ (T' + 1) * 56 ≤ 140737488355328) := by have := HI14.out.le; exact ⟨by unfold maxLen; omega, by omega⟩
                  have HONE : Hid (∀ u ∈ [Value.int .i64 yi, .string s0, .string yd, .string TB], u.oneCell' = true) := fun u hu => by simp only [List.mem_cons, List.not_mem_nil, or_false] at hu; rcases hu with rfl | rfl | rfl | rfl <;> rfl
                  have HGR : Hid (∀ (W w14 : World) (g c : Nat) cs', Below W3.heap.size W3 W → W.heap.size = W3.heap.size + 1 → w14.ownsRow 0 118 4 (.slice (some ⟨g, 0, none⟩) (T' + 1) c) (T' + 1) cs' → W.grownBy w14 tv.ownBlock → (tv.ownBlock = some g ∨ g = W3.heap.size + 1) →
                      SInv w (w14.setCell ⟨b, 0, none⟩ (.slice (some ⟨g, 0, none⟩) (T' + 1) c)) b F (grow F' W w14) d T (T' + 1) l tv0 (.slice (some ⟨g, 0, none⟩) (T' + 1) c) lv pv av k (k + 1) ∧ w14.cell? ⟨b, 0, none⟩ = some tv ∧ w14.frozen? ⟨b, 0, none⟩ = false ∧
                        (w14.setCell ⟨b, 0, none⟩ (.slice (some ⟨g, 0, none⟩) (T' + 1) c)).heap[nb]? = some (.cells #[.int .i64 yi, .string TB] 72 (0, 0)) ∧ ¬ (grow F' W w14) nb) := fun W w14 g c cs' h1 h2 h3 h4 h5 => HI14.out.tear_grown h1 h2 h3 h4 h5 HN15.out HNF.out
                  clear hcsx HI14 HT15 HB15
                  go_region_law
                    (first
                      | (refine step_append_lies _ (by rfl) _ _ 49 (by rfl) 0 118 i0 (.agg #[.int .i64 0, .string ⟨#[]⟩, .string ⟨#[]⟩, .string ⟨#[]⟩]) 4 56 Tryz.underlying49 hi hz0 hz1 hz2 (by rfl) (by decide) tv T' csx (by rfl) (by first | exact HTROW.out _ (fun i hi => heap_alloc_old W3 _ hi) | exact HTROW.out _ (fun i hi => heap_alloc_old _ _ hi)) ⟨W3.heap.size, 0, none⟩ 1 1 [.int .i64 yi, .string s0, .string yd, .string TB] (by rfl) (by rfl) (by first | exact World.news_of_block (heap_alloc_new W3 _) | exact World.news_of_block (heap_alloc_new _ _)) HONE.out (by decide) HT63.out.1 HT63.out.2 (Nat.zero_le _) (W3.heap.size + 1) (by simp) ?_; intro g14 c14 w14 ho14 hg14 hat14 hl14; have H14 := Hid.mk2 (HGR.out _ w14 g14 c14 _ (by first | exact below_new W3 _ | exact ⟨rfl, rfl, rfl, by simp, fun i hi => heap_alloc_old W3 _ hi⟩) (by simp) ho14 hg14 hat14); have p0 := H14.out.2.1; have p1 := H14.out.2.2.1; clear ho14 hg14 hat14 hl14))
                  all_goals
                    have hi15 := H14.out.1
                    have n15 := H14.out.2.2.2.1
                    clear HGR HTROW HONE a0 a0' hb3 d0 d1 d2 d3 p0 p1 hi hz0 hz1 hz2 H14 HN15
                    generalize w14.setCell ⟨b, 0, none⟩ (.slice (some ⟨g14, 0, none⟩) (T' + 1) c14) = W15 at *
                    have l2 : W15.cell? ⟨b, 2, none⟩ = some lv := hi15.full.body.cell 2
                    have HZ2 := Hid.mk2 (frozen_cells (j := 2) hi15.full.body.blk)
                    have hcb : b < W15.heap.size := World.block_lt_of_cell? _ _ l2
                    have m0 : W15.cell? ⟨nb, 0, none⟩ = some (.int .i64 yi) := by rw [cell_of_row _ _ _ _ _ _ n15]; rfl
                    have m1 : W15.cell? ⟨nb, 1, none⟩ = some (.string TB) := by rw [cell_of_row _ _ _ _ _ _ n15]; rfl
                    have HRS := Hid.mk2 (fun (W : World) (hW : Below W15.heap.size W15 W) => hi15.rset yi TB HTS.out W hW)
                    have HNX := Hid.mk2 (fun (W w1 : World) (v' : Value) (hW : Below W15.heap.size W15 W) (h1 : Below W.heap.size W w1) (hr : w1.ownsRow W.heap.size 72 2 v' (setD (durK d.pend d.dur l k) yi TB).length (secCells (setD (durK d.pend d.dur l k) yi TB))) => (hi15.below hW).last h1 hr HL.out HOK.out (by omega))
                    clear hi15 n15
                    go_wp2_with fail
                    go_region_law
                      (first
                        | (refine step_rset _ (by rfl) _ _ lv (.agg #[.int .i64 yi, .string TB]) (by rfl) (by rfl) (by rfl) ((HRS.out _ (by first | exact bdrew1 (Below.refl _ _) | exact Below.refl _ _)).mono ?_); rintro e w5 ⟨v5, rfl, hr5, hb5⟩; have hb6 : Below W15.heap.size W15 w5 := (by first | exact hb5 | exact undrew hb5); have HX5 := Hid.mk2 (HNX.out _ w5 v5 (by first | exact bdrew1 (Below.refl _ _) | exact Below.refl _ _) hb5 hr5); obtain ⟨a5, c5, rfl, -⟩ := owns_form hr5; have s2 : w5.cell? ⟨b, 2, none⟩ = some lv := cell_below hb6 l2; have sz2 : w5.frozen? ⟨b, 2, none⟩ = false := (hb6.frozen (p := ⟨b, 2, none⟩) hcb).trans HZ2.out; clear hb5 hb6 hr5; refine ⟨_, rfl, ?_⟩))
                    all_goals
                      clear HRS HNX l2 m0 m1
                      go_wp2_with fail
                      exact ⟨⟨k + 1, _, T' + 1, _, _, by omega, by go_num, HX5.out⟩, by simp [intOf]; omega⟩
                · have HE2 := Hid.mk2 (show durK d.pend d.dur l (k + 1) = durK d.pend d.dur l k by rw [HE.out]; simp [meetX, hK2, hK3])
                  have HNX := Hid.mk2 (INVC.out.skip HE2.out)
                  have hb2 : (K == 2) = false := by simp [hK2]
                  have hb3 : (K == 3) = false := by simp [hK3]
                  clear HRS l2
                  go_wp2_with fail
                  exact ⟨⟨k + 1, F', T', tv, lv, by omega, by go_num, HNX.out⟩, by simp [intOf]; omega⟩
    · have hke : k = N := by omega
      subst hke
      obtain ⟨h1, s1⟩ := INV.out.full.noPend
      have b3 : wr.cell? ⟨b, 3, none⟩ = some pv := INV.out.full.body.cell 3
      have z3 : wr.frozen? ⟨b, 3, none⟩ = false := frozen_cells INV.out.full.body.blk
      have b4 : (wr.setCell ⟨b, 3, none⟩ (.slice none 0 0)).cell? ⟨b, 4, none⟩ = some (.bool d.dead) := h1.body.cell 4
      have z4 : (wr.setCell ⟨b, 3, none⟩ (.slice none 0 0)).frozen? ⟨b, 4, none⟩ = false := frozen_cells h1.body.blk
      have hdur : durK d.pend d.dur l k = settleD d.pend [] d.dur l := by rw [HN.out, durK_all]
      obtain ⟨h2, s2⟩ := h1.setCount (d' := d.kill l) 4 (.bool true) rfl (by show settleD d.pend [] d.dur l = durK d.pend d.dur l k; rw [hdur]) rfl rfl (HOK.out.kill l)
      have HH : Hid (RAll ((wr.setCell ⟨b, 3, none⟩ (.slice none 0 0)).setCell ⟨b, 4, none⟩ (.bool true)) b F' (d.kill l) T') := ⟨_, _, _, _, h2⟩
      have HSS : Hid (Step F F' w ((wr.setCell ⟨b, 3, none⟩ (.slice none 0 0)).setCell ⟨b, 4, none⟩ (.bool true))) := (INV.out.step.trans s1).trans s2
      have HLE : Hid (T' ≤ T + k) := INV.out.le
      obtain ⟨pa, pc, rfl, -⟩ := owns_form INV.out.full.body.pend
      clear h1 s1 h2 s2 hdur INV
      go_wp2_with fail
      go_end0
      exact ⟨rfl, F', T', HH.out, HSS.out, HLE.out⟩

end Go.Proofs.YtlopimdnjookeabGreatDoor.V
