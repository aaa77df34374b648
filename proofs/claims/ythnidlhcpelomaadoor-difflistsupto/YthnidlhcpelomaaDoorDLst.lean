import Derived.Test.YthnidlhcpelomaaDoorDCf
import Derived.Test.YthnidlhcpelomaaDoorDSb
import Derived.Test.YthnidlhcpelomaaDoorDStep
namespace Go.Proofs.YthnidlhcpelomaaDoor
open Go.RowKit
attribute [local go_sem ↓] Go.wp_at_zero Go.wp_at_succ
attribute [local go_sem] Oper.semAt_some

set_option maxHeartbeats 4000000 in
theorem lists_any (va vb : Value) (a b : List Pr) (w : World) (hA : PrR w va a) (hB : PrR w vb b) (hoa : OkL a) (hob : OkL b) (hn : (a.length + b.length + 1) * 56 ≤ 140737488355328) (pO : Addr) (hO : w.cell? ⟨0, 0, none⟩ = some (.iface 102 (.pointer (some pO)))) :
    Calls Tryd.prog 8 #[va, vb] w fun e w' => Below w.heap.size w w' ∧ (((riseB a && riseB b) = false ∧ e = .returned (.tuple #[.slice none 0 0, .iface 102 (.pointer (some pO))])) ∨ ((riseB a && riseB b) = true ∧ ∃ v, e = .returned (.tuple #[v, .nilIface]) ∧ ChO w' w.heap.size v (listsD a b))) := by
  have HKA : Hid (∀ W, Below w.heap.size w W → KeyR 2 W va (a.map Prod.fst)) := fun W hb => (hA.below hb).keys
  have HKB : Hid (∀ W, Below w.heap.size w W → KeyR 2 W vb (b.map Prod.fst)) := fun W hb => (hB.below hb).keys
  have HRA : Hid (∀ W, Below w.heap.size w W → Calls Tryd.prog 28 #[.agg #[va, keyPF]] W fun e w' => e = .returned (.bool (riseB a)) ∧ Below W.heap.size W w') := fun W hb => by
    rw [← riseK_map]; exact ris_p va _ W (by simp; omega) (HKA.out W hb)
  have HRB : Hid (∀ W, Below w.heap.size w W → Calls Tryd.prog 28 #[.agg #[vb, keyPF]] W fun e w' => e = .returned (.bool (riseB b)) ∧ Below W.heap.size W w') := fun W hb => by
    rw [← riseK_map]; exact ris_p vb _ W (by simp; omega) (HKB.out W hb)
  obtain ⟨a1, c1, rfl⟩ : ∃ a1 c1, va = .slice a1 a.length c1 := by obtain ⟨x, y, h, _⟩ := hA; exact ⟨x, y, h⟩
  obtain ⟨a2, c2, rfl⟩ : ∃ a2 c2, vb = .slice a2 b.length c2 := by obtain ⟨x, y, h, _⟩ := hB; exact ⟨x, y, h⟩
  obtain ⟨n1, hn1⟩ : ∃ n, n = a.length := ⟨_, rfl⟩
  obtain ⟨n2, hn2⟩ : ∃ n, n = b.length := ⟨_, rfl⟩
  rw [← hn1] at hA HKA HRA ⊢
  rw [← hn2] at hB HKB HRB ⊢
  have HN := hide (And.intro hn1 hn2)
  have HS := hide hn
  have HPA := hide hA
  have HPB := hide hB
  have HOA := hide hoa
  have HOB := hide hob
  have HGO := hide hO
  obtain ⟨ra, hra⟩ : ∃ r, r = riseB a := ⟨_, rfl⟩
  obtain ⟨rb, hrb⟩ : ∃ r, r = riseB b := ⟨_, rfl⟩
  rw [← hra] at HRA ⊢
  rw [← hrb] at HRB ⊢
  obtain ⟨R, hR⟩ : ∃ R : Ending → World → Prop, R = fun e w' => Below w.heap.size w w' ∧ (((ra && rb) = false ∧ e = .returned (.tuple #[.slice none 0 0, .iface 102 (.pointer (some pO))])) ∨ ((ra && rb) = true ∧ ∃ v, e = .returned (.tuple #[v, .nilIface]) ∧ ChO w' w.heap.size v (listsD a b))) := ⟨_, rfl⟩
  rw [← hR]
  have HR := hide hR
  have HRIS := hide (And.intro hra hrb)
  clear hn1 hn2 hn hA hB hoa hob hO hra hrb hR
  refine (callsIn_wide (n := 8)).1 ?_
  refine callsIn_of_wp_marks Tryd.func8 rfl trivial ?_ rfl
  simp only [Tryd.ntmps8, List.size_toArray, List.length_cons, List.length_nil, Nat.reduceAdd, Nat.reduceSub, Array.replicate_succ, Array.replicate_zero, List.push_toArray, List.append_toArray, List.nil_append, List.cons_append]
  refine wpIn_wide.2 ?_
  go_wp2_with fail
  refine (ofp_any n1 c1 a1 _).mono ?_
  rintro e W1 ⟨rfl, hb1⟩
  go_wp2_with fail
  refine (ofp_any n2 c2 a2 _).mono ?_
  rintro e W2 ⟨rfl, hb2⟩
  have hb12 : Below w.heap.size w W2 := Below.next hb1 hb2
  obtain ⟨W3, hW3⟩ : ∃ W3, (W2.alloc (.cells #[.slice none 0 0, .nilFunc] 56)).alloc (.cells #[.slice none 0 0, .nilFunc] 56) = W3 := ⟨_, rfl⟩
  have r1 : row2 W3 W2.heap.size (.slice none 0 0) .nilFunc 56 := by rw [← hW3]; exact al_first _ _ _
  have r2 : row2 W3 (W2.heap.size + 1) (.slice none 0 0) .nilFunc 56 := by
    rw [← hW3]
    have := World.alloc_heap_new (W2.alloc (.cells #[.slice none 0 0, .nilFunc] 56)) (.cells #[.slice none 0 0, .nilFunc] 56)
    rwa [World.size_alloc] at this
  have hb3 : Below w.heap.size w W3 := by rw [← hW3]; exact Below.next hb12 (al_below _ _ _)
  obtain ⟨b6, hb6⟩ : ∃ b6, b6 = W2.heap.size := ⟨_, rfl⟩
  rw [← hb6] at r1 r2
  have x0 := r1.c0
  have x1 := r1.c1
  have x2 := r2.c0
  have x3 := r2.c1
  have y0 := r1.frz 0
  have y1 := r1.frz 1
  have y2 := r2.frz 0
  have y3 := r2.frz 1
  rw [hb6] at x0 x1 x2 x3 y0 y1 y2 y3
  have HR1 := hide r1
  have HR2 := hide r2
  have HB3 := hide hb3
  have HB6 : Hid (b6 = W2.heap.size ∧ w.heap.size ≤ b6) := ⟨hb6, by rw [hb6]; exact hb12.size⟩
  clear r1 r2 hb3 hb12 hb1 hb2
  go_upto_region 2 with fail
  obtain ⟨W4, hW4⟩ : ∃ W4, (((W3.setCell ⟨W2.heap.size, 0, none⟩ (.slice a1 n1 c1)).setCell ⟨W2.heap.size, 1, none⟩ keyPF).setCell ⟨W2.heap.size + 1, 0, none⟩ (.slice a2 n2 c2)).setCell ⟨W2.heap.size + 1, 1, none⟩ keyPF = W4 := ⟨_, rfl⟩
  rw [hW4]
  have hx := HB6.out
  have q1 : row2 W4 b6 (.slice a1 n1 c1) keyPF 56 := by
    rw [← hW4, ← hx.1]; exact ((HR1.out.both _ _).oth (by omega) _ _).oth (by omega) _ _
  have q2 : row2 W4 (b6 + 1) (.slice a2 n2 c2) keyPF 56 := by
    rw [← hW4, ← hx.1]; exact ((HR2.out.oth (by omega) _ _).oth (by omega) _ _).both _ _
  have hb4 : Below w.heap.size w W4 := by
    rw [← hW4, ← hx.1]
    exact (((HB3.out.setCell (p := ⟨b6, 0, none⟩) hx.2 _).setCell (p := ⟨b6, 1, none⟩) hx.2 _).setCell (p := ⟨b6 + 1, 0, none⟩) (by show _ ≤ b6 + 1; omega) _).setCell (p := ⟨b6 + 1, 1, none⟩) (by show _ ≤ b6 + 1; omega) _
  rw [← hx.1]
  clear x0 x1 x2 x3 y0 y1 y2 y3 HR1 HR2 HB3 hW3 hW4 hx hb6
  have x0 := q1.c0
  have x1 := q1.c1
  have HQ1 := hide q1
  have HQ2 := hide q2
  have HB4 := hide hb4
  clear q1 q2 hb4
  go_wp2_with fail
  refine (HRA.out W4 HB4.out).mono ?_
  rintro e W5 ⟨rfl, hb5⟩
  clear x0 x1
  have HB5 := hide (Below.next HB4.out hb5)
  have HQ3 := hide (HQ1.out.bel hb5)
  have HQ4 := hide (HQ2.out.bel hb5)
  have x2 := HQ4.out.c0
  have x3 := HQ4.out.c1
  have g0 := cell_bel HB5.out HGO.out
  clear hb5 HQ1 HQ2 HB4
  cases ra with
  | false =>
    clear x2 x3
    go_upto_region 3 with fail
    go_quiet (fail)
    go_wp2
    refine postM_ret _ rfl (results_two rfl _ _) ?_
    rw [HR.out]
    exact ⟨below_drewN2 HB5.out _, .inl ⟨rfl, rfl⟩⟩
  | true =>
    go_wp2_with fail
    refine (HRB.out W5 HB5.out).mono ?_
    rintro e W6 ⟨rfl, hb6'⟩
    clear x2 x3 g0
    have HB7 := hide (Below.next HB5.out hb6')
    have HQ5 := hide (HQ3.out.bel hb6')
    have HQ6 := hide (HQ4.out.bel hb6')
    have g0 := cell_bel HB7.out HGO.out
    clear hb6' HQ3 HQ4 HB5
    cases rb with
    | false =>
      go_upto_region 3 with fail
      go_quiet (fail)
      go_wp2
      refine postM_ret _ rfl (results_two rfl _ _) ?_
      rw [HR.out]
      exact ⟨below_drewN2 HB7.out _, .inl ⟨rfl, rfl⟩⟩
    | true =>
      clear g0
      go_upto_region 5 with fail
      obtain ⟨W7, hW7⟩ : ∃ W7, W6.alloc (.cells #[.slice none 0 0] 23) = W7 := ⟨_, rfl⟩
      rw [hW7]
      have r7 : W7.heap[W6.heap.size]? = some (.cells #[.slice none 0 0] 23 (0, 0)) := by rw [← hW7]; exact World.alloc_heap_new W6 _
      have b7 : Below W6.heap.size W6 W7 := by rw [← hW7]; exact (Below.refl _ W6).alloc (Nat.le_refl _) _
      obtain ⟨b8, hb8⟩ : ∃ b8, b8 = W6.heap.size := ⟨_, rfl⟩
      rw [← hb8] at r7 ⊢
      have hb8' : w.heap.size ≤ b8 := by rw [hb8]; exact HB7.out.size
      have HQ7 := hide (HQ5.out.bel b7)
      have HQ8 := hide (HQ6.out.bel b7)
      have HB8 := hide (Below.next HB7.out b7)
      have x0 := HQ7.out.c0
      have x1 := HQ7.out.c1
      have x2 := HQ8.out.c0
      have x3 := HQ8.out.c1
      have HR7 := hide r7
      have HL8 := hide hb8'
      clear r7 b7 hb8 hb8' hW7 HQ5 HQ6 HB7
      go_wp2_with fail
      refine (sb_pp (.slice a1 n1 c1) (.slice a2 n2 c2) _).mono ?_
      rintro e W8 ⟨rfl, hs1, hs2, hb8⟩
      have HB9 := hide (Below.next HB8.out hb8)
      have HR8 : Hid (W8.heap[b8]? = some (.cells #[.slice none 0 0] 23 (0, 0))) := (hb8.block b8 (Array.getElem?_eq_some_iff.1 HR7.out).1).trans HR7.out
      have HS1 := hide hs1
      have HS2 := hide hs2
      clear x0 x1 x2 x3 hs1 hs2 hb8 HR7 HQ7 HQ8
      go_wp2_with fail
      have HM : Hid (n1 ≤ 140737488355328 ∧ n2 ≤ 140737488355328) := by have := HS.out; have := HN.out; exact ⟨by omega, by omega⟩
      refine (wpIn_wide (n := 8)).1 ?_
      refine range_s (σ := Nat × Nat) rfl (by decide) (gf := 49) (lb := #[.pointer (some ⟨W7.heap.size, 0, none⟩), .pointer (some ⟨W7.heap.size + 1, 0, none⟩)]) rfl trivial (enters_of Tryd.func49 (by kernel_rfl) rfl)
        (iter_pp tU ⟨by decide, by decide⟩ 7 (a.map Prod.fst) (b.map Prod.fst) a1 a2 n1 c1 n2 c2 _ _ w W8 HB9.out (HKA.out w (Below.refl _ _)) (HKB.out w (Below.refl _ _)) HM.out.1 HM.out.2 HS1.out HS2.out) (fun _ => rfl) HB9.out.size
        (CI b8 w a b (fun e => actV (chgV e.1 e.2))) (fun _ _ => False) (fun s A B h hk => h.keep hk HB9.out.size) (fun _ _ _ h _ => h) ?start
        (fun s => { tmps := #[.slice a1 n1 c1, .slice a2 n2 c2, undef, undef, .slice none 0 0, .nilIface, .pointer (some ⟨b6, 0, none⟩), .pointer (some ⟨b6 + 1, 0, none⟩), .pointer (some ⟨b8, 0, none⟩), ptrIf 2 (turnA (a.map Prod.fst) (b.map Prod.fst) s) a1 s.1, ptrIf 2 (turnB (a.map Prod.fst) (b.map Prod.fst) s) a2 s.2, .slice a1 n1 c1, .agg #[.slice a1 n1 c1, keyPF], .slice a2 n2 c2, .agg #[.slice a2 n2 c2, keyPF], .agg #[.slice a1 n1 c1, keyPF], .bool true, .bool false, .bool false, .agg #[.slice a2 n2 c2, keyPF], .bool true, .bool false, .bool false, undef, .agg #[.slice a1 n1 c1, keyPF], .agg #[.slice a2 n2 c2, keyPF], .func (.func 49) #[] #[.pointer (some ⟨W7.heap.size, 0, none⟩), .pointer (some ⟨W7.heap.size + 1, 0, none⟩)], ptrIf 2 (turnA (a.map Prod.fst) (b.map Prod.fst) s) a1 s.1, ptrIf 2 (turnB (a.map Prod.fst) (b.map Prod.fst) s) a2 s.2, undef, undef, undef, undef, undef, undef], defers := [] }) ?assign ?body ?done ?stop
      case start => exact ⟨Nat.zero_le _, Nat.zero_le _, HB9.out, _, [], HR8.out, ChO.nil _ _, rfl⟩
      case assign =>
        intro l s W K hK
        unfold encsS
        gi_wp2
        exact hK
      case body =>
        rintro l ⟨p, q⟩ W hI hmore
        obtain ⟨h1, h2, h3, v, out, h4, h5, h6⟩ := hI
        obtain ⟨k, x, y, e1, e2, e3, e4⟩ := side_at a b p q hmore
        have hpx : PtP W (ptrIf 2 (turnA (a.map Prod.fst) (b.map Prod.fst) (p, q)) a1 p) k x := ptp_of (HPA.out.below h3) e2
        have hpy : PtP W (ptrIf 2 (turnB (a.map Prod.fst) (b.map Prod.fst) (p, q)) a2 q) k y := ptp_of (HPB.out.below h3) e3
        have hok := ok_side HOA.out HOB.out e2 e3 e4
        have hnx := nxS_le (s := (p, q)) (ka := a.map Prod.fst) (kb := b.map Prod.fst) (by simpa using h1) (by simpa using h2)
        rw [List.length_map, List.length_map] at hnx
        rw [e1, show ∀ r, fm (fun e => actV (chgV e.1 e.2)) ((k, (x, y)) :: r) = actL k (chgV x y) ++ fm (fun e => actV (chgV e.1 e.2)) r from fun r => fm_act (fun e => chgV e.1 e.2) k (x, y) r, ← List.append_assoc] at h6
        have hlen := len_out h6 HS.out
        obtain ⟨P1, hP1⟩ : ∃ P1, P1 = ptrIf 2 (turnA (a.map Prod.fst) (b.map Prod.fst) (p, q)) a1 p := ⟨_, rfl⟩
        obtain ⟨P2, hP2⟩ : ∃ P2, P2 = ptrIf 2 (turnB (a.map Prod.fst) (b.map Prod.fst) (p, q)) a2 q := ⟨_, rfl⟩
        have HPX := hide hpx
        have HPY := hide hpy
        have HOK := hide hok
        have HNX := hide hnx
        have HE4 := hide e4
        have HBE := hide h3
        have HW4 := hide h4
        have HCH := hide h5
        have HEQ := hide h6
        have HLEN := hide hlen
        have x0 : W.cell? ⟨b8, 0, none⟩ = some v := by rw [cell_of_row W b8 0 _ _ _ h4]; rfl
        clear hpx hpy hok hnx e1 e2 e3 e4 h1 h2 h3 h4 h5 h6 hlen hmore
        dsimp only
        rw [← hP1, ← hP2]
        rw [← hP1] at HPX
        rw [← hP2] at HPY
        have hmx : Tryd.prog.follows .mixedOrders = true := by kernel_rfl
        clear hP1 hP2
        gi_wp2
        gi_region_with_o (first
          | (refine ⟨trivial, (CallsIn.inRound l (callsIn_wide.2 (chfrom_any k x y P1 P2 _ (HPX.out.bel ((Below.refl _ W).drew)) (HPY.out.bel ((Below.refl _ W).drew)) HE4.out))).mono ?_⟩; rintro e w6 ⟨rfl, hb6⟩; have HB6 : Hid (Below W.heap.size W w6) := ⟨hb6.os, hb6.tape, hb6.output, hb6.size, hb6.block⟩; have z0 := cell_bel HB6.out x0; clear hb6)
          | (refine ⟨trivial, (CallsIn.inRound l (callsIn_wide.2 (appch_any w.heap.size v out k (chgV x y) w6 (HCH.out.below HB6.out) (Nat.le_trans HBE.out.size HB6.out.size) HLEN.out HOK.out.1 HOK.out.2.1 HOK.out.2.2))).mono ?_⟩; rintro e w7 ⟨v', rfl, hown', hbut⟩; obtain ⟨a', c', rfl⟩ := hown'.form; have HO7 := hide hown'; have HB7 := hide hbut; have hrw : w7.heap[b8]? = some (.cells #[v] 23 (0, 0)) := hbut.same b8 _ ((HB6.out.block b8 (Array.getElem?_eq_some_iff.1 HW4.out).1).trans HW4.out) (fun hh => by have := hh.2; simp [ofT, tCH] at this); have z1 : w7.cell? ⟨b8, 0, none⟩ = some v := (by rw [cell_of_row w7 b8 0 _ _ _ hrw]; rfl); have z2 : w7.frozen? ⟨b8, 0, none⟩ = false := frozen_of_row _ _ _ _ _ hrw; have HRW := hide hrw; clear hown' hbut hrw))
        all_goals gi_wp2
        all_goals
          rw [← List.length_append]
          have hbW : But w.heap.size (ofT tU) W (w7.setCell ⟨b8, 0, none⟩ (.slice a' (out ++ actL k (chgV x y)).length c')) :=
            ((But.of_below HB6.out).trans (HB7.out.mono (Nat.le_refl _) tCH_tU)).setCell (p := ⟨b8, 0, none⟩) (o := .cells #[v] 23 (0, 0)) HRW.out HL8.out rfl _
          refine ⟨hbW, HNX.out.1, HNX.out.2, bel_but HBE.out hbW (Nat.le_refl _), _, out ++ actL k (chgV x y), Go.heap_setCell_same w7 b8 0 _ 23 _ HRW.out, HO7.out.keep (fun g cs _ hg => (Below.heap_setCell w7 _ _ g (fun e => by rw [e] at hg; rw [HRW.out] at hg; simp at hg)).trans hg), HEQ.out⟩
      case done =>
        rintro D s W hD hnm hI hdef
        obtain ⟨h1, h2, h3, v, out, h4, h5, h6⟩ := hI
        rw [side_end a b s.1 s.2 hnm, fm_nil, List.append_nil] at h6
        subst h6
        have HDF := hide hdef
        have HCH := hide h5
        have HBE := hide h3
        have HW4 := hide h4
        have HDD := hide hD
        have x0 : W.cell? ⟨b8, 0, none⟩ = some v := by rw [cell_of_row W b8 0 _ _ _ h4]; rfl
        clear hnm h1 h2 h3 h4 h5 hdef hD
        go_wp2
        refine postM_mark _ rfl HDF.out (results_two rfl _ _) ?_
        rw [HR.out]
        have hbp : But W8.heap.size (fun _ => true) W (W.putObj D (.deferred none)) := (But.refl _ _ W).putObj HDF.out HDD.out rfl _
        exact ⟨bel_but HBE.out hbp HB9.out.size, .inr ⟨rfl, v, rfl, HCH.out.keep fun g cs _ hg => (World.putObj_heap_other (fun e => by subst e; rw [HDF.out] at hg; cases hg)).trans hg⟩⟩
      case stop => exact fun _ _ _ _ h _ => h.elim
end Go.Proofs.YthnidlhcpelomaaDoor
