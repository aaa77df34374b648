import Derived.Test.YthnidlhcpelomaaDoorDStep2
namespace Go.Proofs.YthnidlhcpelomaaDoor
open Go.RowKit
attribute [local go_sem ↓] Go.wp_at_zero Go.wp_at_succ
attribute [local go_sem] Oper.semAt_some

set_option maxHeartbeats 8000000 in
theorem patch_any (va vb : Value) (a : List Pr) (b : List Ch) (w : World) (hA : PrR w va a) (hB : ChR w vb b) (hoa : OkL a) (hob : OkC b) (hn : (a.length + b.length + 1) * 56 ≤ 140737488355328) (pO pL : Addr) (hO : w.cell? ⟨0, 0, none⟩ = some (.iface 102 (.pointer (some pO)))) (hL : w.cell? ⟨6, 0, none⟩ = some (.iface 102 (.pointer (some pL)))) :
    Calls Tryd.prog 23 #[va, vb] w fun e w' => Below w.heap.size w w' ∧ (((riseB a && riseB b) = false ∧ e = .returned (.tuple #[.slice none 0 0, .iface 102 (.pointer (some pO))])) ∨ ((riseB a && riseB b) = true ∧ patchD a b = none ∧ e = .returned (.tuple #[.slice none 0 0, .iface 102 (.pointer (some pL))])) ∨ ((riseB a && riseB b) = true ∧ ∃ v l, patchD a b = some l ∧ e = .returned (.tuple #[v, .nilIface]) ∧ PrO w' w.heap.size v l)) := by
  have HKA : Hid (∀ W, Below w.heap.size w W → KeyR 2 W va (a.map Prod.fst)) := fun W hb => (hA.below hb).keys
  have HKB : Hid (∀ W, Below w.heap.size w W → KeyR 5 W vb (b.map Prod.fst)) := fun W hb => (hB.below hb).keys
  have HRA : Hid (∀ W, Below w.heap.size w W → Calls Tryd.prog 28 #[.agg #[va, keyPF]] W fun e w' => e = .returned (.bool (riseB a)) ∧ Below W.heap.size W w') := fun W hb => by
    rw [← riseK_map]; exact ris_p va _ W (by simp; omega) (HKA.out W hb)
  have HRB : Hid (∀ W, Below w.heap.size w W → Calls Tryd.prog 35 #[.agg #[vb, keyCF]] W fun e w' => e = .returned (.bool (riseB b)) ∧ Below W.heap.size W w') := fun W hb => by
    rw [← riseK_map]; exact ris_c vb _ W (by simp; omega) (HKB.out W hb)
  obtain ⟨a1, c1, rfl⟩ : ∃ a1 c1, va = .slice a1 a.length c1 := by obtain ⟨x, y, h, _⟩ := hA; exact ⟨x, y, h⟩
  obtain ⟨a2, c2, rfl⟩ : ∃ a2 c2, vb = .slice a2 b.length c2 := by obtain ⟨x, y, h, _⟩ := hB; exact ⟨x, y, h⟩
  obtain ⟨n1, hn1⟩ : ∃ n, n = a.length := ⟨_, rfl⟩
  obtain ⟨n2, hn2⟩ : ∃ n, n = b.length := ⟨_, rfl⟩
  rw [← hn1] at hA HKA HRA ⊢
  rw [← hn2] at hB HKB HRB ⊢
  have HN := hide (And.intro hn1 hn2)
  have HS := hide hn
  have HPA := hide hA
  have HPB := hide hB
  have HOA := hide hoa
  have HOB := hide hob
  have HGO := hide hO
  have HGL := hide hL
  obtain ⟨ra, hra⟩ : ∃ r, r = riseB a := ⟨_, rfl⟩
  obtain ⟨rb, hrb⟩ : ∃ r, r = riseB b := ⟨_, rfl⟩
  rw [← hra] at HRA ⊢
  rw [← hrb] at HRB ⊢
  obtain ⟨R, hR⟩ : ∃ R : Ending → World → Prop, R = fun e w' => Below w.heap.size w w' ∧ (((ra && rb) = false ∧ e = .returned (.tuple #[.slice none 0 0, .iface 102 (.pointer (some pO))])) ∨ ((ra && rb) = true ∧ patchD a b = none ∧ e = .returned (.tuple #[.slice none 0 0, .iface 102 (.pointer (some pL))])) ∨ ((ra && rb) = true ∧ ∃ v l, patchD a b = some l ∧ e = .returned (.tuple #[v, .nilIface]) ∧ PrO w' w.heap.size v l)) := ⟨_, rfl⟩
  rw [← hR]
  have HR := hide hR
  clear hn1 hn2 hn hA hB hoa hob hO hL hra hrb hR
  refine (callsIn_wide (n := 8)).1 ?_
  refine callsIn_of_wp_marks Tryd.func23 rfl trivial ?_ rfl
  simp only [Tryd.ntmps23, List.size_toArray, List.length_cons, List.length_nil, Nat.reduceAdd, Nat.reduceSub, Array.replicate_succ, Array.replicate_zero, List.push_toArray, List.append_toArray, List.nil_append, List.cons_append]
  refine wpIn_wide.2 ?_
  go_upto_region 1 with fail
  obtain ⟨W0, hW0⟩ : ∃ W0, (w.alloc (.cells #[.slice none 0 0] 22)).alloc (.cells #[.nilIface] 31) = W0 := ⟨_, rfl⟩
  rw [hW0]
  have p4 : row1 W0 w.heap.size (.slice none 0 0) 22 := by rw [← hW0]; exact al_first _ _ _
  have p5 : row1 W0 (w.heap.size + 1) .nilIface 31 := by
    rw [← hW0]
    have := World.alloc_heap_new (w.alloc (.cells #[.slice none 0 0] 22)) (.cells #[.nilIface] 31)
    rwa [World.size_alloc] at this
  have HB0 : Hid (Below w.heap.size w W0) := by rw [← hW0]; exact al_below _ _ _
  obtain ⟨b4, hb4⟩ : ∃ b4, b4 = w.heap.size := ⟨_, rfl⟩
  rw [← hb4] at p4 p5 ⊢
  have HL4 : Hid (w.heap.size ≤ b4) := Nat.le_of_eq hb4.symm
  have HP4 := hide p4
  have HP5 := hide p5
  clear p4 p5 hb4 hW0
  go_wp2_with fail
  refine (ofp_any n1 c1 a1 _).mono ?_
  rintro e W1 ⟨rfl, hb1⟩
  go_wp2_with fail
  refine (ofc_any n2 c2 a2 _).mono ?_
  rintro e W2 ⟨rfl, hb2⟩
  have hb02 : Below W0.heap.size W0 W2 := Below.next hb1 hb2
  have hb12 : Below w.heap.size w W2 := Below.next HB0.out hb02
  obtain ⟨W3, hW3⟩ : ∃ W3, (W2.alloc (.cells #[.slice none 0 0, .nilFunc] 56)).alloc (.cells #[.slice none 0 0, .nilFunc] 69) = W3 := ⟨_, rfl⟩
  have r1 : row2 W3 W2.heap.size (.slice none 0 0) .nilFunc 56 := by rw [← hW3]; exact al_first _ _ _
  have r2 : row2 W3 (W2.heap.size + 1) (.slice none 0 0) .nilFunc 69 := by
    rw [← hW3]
    have := World.alloc_heap_new (W2.alloc (.cells #[.slice none 0 0, .nilFunc] 56)) (.cells #[.slice none 0 0, .nilFunc] 69)
    rwa [World.size_alloc] at this
  have hb23 : Below W2.heap.size W2 W3 := by rw [← hW3]; exact al_below _ _ _
  have hb3 : Below w.heap.size w W3 := Below.next hb12 hb23
  have HP4a := hide ((HP4.out.bel hb02).bel hb23)
  have HP5a := hide ((HP5.out.bel hb02).bel hb23)
  have hlt5 : b4 + 1 < W2.heap.size := (Array.getElem?_eq_some_iff.1 (HP5.out.bel hb02)).1
  obtain ⟨b6, hb6⟩ : ∃ b6, b6 = W2.heap.size := ⟨_, rfl⟩
  rw [← hb6] at r1 r2
  have x0 := r1.c0
  have x1 := r1.c1
  have x2 := r2.c0
  have x3 := r2.c1
  have y0 := r1.frz 0
  have y1 := r1.frz 1
  have y2 := r2.frz 0
  have y3 := r2.frz 1
  rw [hb6] at x0 x1 x2 x3 y0 y1 y2 y3
  have HR1 := hide r1
  have HR2 := hide r2
  have HB3 := hide hb3
  have HB6 : Hid (b6 = W2.heap.size ∧ w.heap.size ≤ b6 ∧ b4 + 1 < b6) := ⟨hb6, by rw [hb6]; exact hb12.size, by rw [hb6]; exact hlt5⟩
  clear r1 r2 hb3 hb12 hb1 hb2 hb02 hb23 hlt5 HP4 HP5 HB0
  go_upto_region 2 with fail
  obtain ⟨W4, hW4⟩ : ∃ W4, (((W3.setCell ⟨W2.heap.size, 0, none⟩ (.slice a1 n1 c1)).setCell ⟨W2.heap.size, 1, none⟩ keyPF).setCell ⟨W2.heap.size + 1, 0, none⟩ (.slice a2 n2 c2)).setCell ⟨W2.heap.size + 1, 1, none⟩ keyCF = W4 := ⟨_, rfl⟩
  rw [hW4]
  have hx := HB6.out
  have q1 : row2 W4 b6 (.slice a1 n1 c1) keyPF 56 := by
    rw [← hW4, ← hx.1]; exact ((HR1.out.both _ _).oth (by omega) _ _).oth (by omega) _ _
  have q2 : row2 W4 (b6 + 1) (.slice a2 n2 c2) keyCF 69 := by
    rw [← hW4, ← hx.1]; exact ((HR2.out.oth (by omega) _ _).oth (by omega) _ _).both _ _
  have HP4 : Hid (row1 W4 b4 (.slice none 0 0) 22) := by
    rw [← hW4, ← hx.1]; exact (((HP4a.out.oth (by omega) _ _).oth (by omega) _ _).oth (by omega) _ _).oth (by omega) _ _
  have HP5 : Hid (row1 W4 (b4 + 1) .nilIface 31) := by
    rw [← hW4, ← hx.1]; exact (((HP5a.out.oth (by omega) _ _).oth (by omega) _ _).oth (by omega) _ _).oth (by omega) _ _
  have hb4 : Below w.heap.size w W4 := by
    rw [← hW4, ← hx.1]
    exact (((HB3.out.setCell (p := ⟨b6, 0, none⟩) hx.2.1 _).setCell (p := ⟨b6, 1, none⟩) hx.2.1 _).setCell (p := ⟨b6 + 1, 0, none⟩) (by show _ ≤ b6 + 1; omega) _).setCell (p := ⟨b6 + 1, 1, none⟩) (by show _ ≤ b6 + 1; omega) _
  rw [← hx.1]
  clear x0 x1 x2 x3 y0 y1 y2 y3 HR1 HR2 HB3 hW3 hW4 hx hb6 HP4a HP5a
  have x0 := q1.c0
  have x1 := q1.c1
  have HQ1 := hide q1
  have HQ2 := hide q2
  have HB4 := hide hb4
  clear q1 q2 hb4
  go_wp2_with fail
  refine (HRA.out W4 HB4.out).mono ?_
  rintro e W5 ⟨rfl, hb5⟩
  clear x0 x1
  have HB5 := hide (Below.next HB4.out hb5)
  have HQ3 := hide (HQ1.out.bel hb5)
  have HQ4 := hide (HQ2.out.bel hb5)
  have HP4b := hide (HP4.out.bel hb5)
  have HP5b := hide (HP5.out.bel hb5)
  have x2 := HQ4.out.c0
  have x3 := HQ4.out.c1
  clear hb5 HQ1 HQ2 HB4 HP4 HP5
  cases ra with
  | false =>
    clear x2 x3
    have g0 := cell_bel HB5.out HGO.out
    have c4 := HP4b.out.c0
    have c5 := HP5b.out.c0
    have f4 := HP4b.out.frz 0
    have f5 := HP5b.out.frz 0
    have hb0 := World.block_lt_of_cell? w _ HGO.out
    have g1 := cell_off g0 (q := ⟨b4, 0, none⟩) (by have := HL4.out; show _ ≠ b4; omega) (.slice none 0 0)
    have c6 := (HP5b.out.oth (c := b4) (by omega) 0 (.slice none 0 0)).c0
    clear hb0
    go_upto_region 3 with fail
    go_region
    all_goals go_wp2
    all_goals
      have q4 : row1 ((W5.setCell ⟨b4, 0, none⟩ (.slice none 0 0)).setCell ⟨b4 + 1, 0, none⟩ (.iface 102 (.pointer (some pO)))) b4 (.slice none 0 0) 22 := (HP4b.out.set _).oth (by omega) 0 _
      have q5 : row1 ((W5.setCell ⟨b4, 0, none⟩ (.slice none 0 0)).setCell ⟨b4 + 1, 0, none⟩ (.iface 102 (.pointer (some pO)))) (b4 + 1) (.iface 102 (.pointer (some pO))) 31 := (HP5b.out.oth (by omega) 0 _).set _
      refine postM_ret _ rfl (results_ps rfl _ _ rfl rfl _ _ _ _ q4.c0 q5.c0) ?_
      rw [HR.out]
      exact ⟨((HB5.out.setCell (p := ⟨b4, 0, none⟩) HL4.out _).setCell (p := ⟨b4 + 1, 0, none⟩) (Nat.le_succ_of_le HL4.out) _).drew, .inl ⟨rfl, rfl⟩⟩
  | true =>
    go_wp2_with fail
    refine (HRB.out W5 HB5.out).mono ?_
    rintro e W6 ⟨rfl, hb6'⟩
    clear x2 x3
    have HB7 := hide (Below.next HB5.out hb6')
    have HQ5 := hide (HQ3.out.bel hb6')
    have HQ6 := hide (HQ4.out.bel hb6')
    have HP4 := hide (HP4b.out.bel hb6')
    have HP5 := hide (HP5b.out.bel hb6')
    clear hb6' HQ3 HQ4 HB5 HP4b HP5b
    cases rb with
    | false =>
      have g0 := cell_bel HB7.out HGO.out
      have c4 := HP4.out.c0
      have c5 := HP5.out.c0
      have f4 := HP4.out.frz 0
      have f5 := HP5.out.frz 0
      have hb0 := World.block_lt_of_cell? w _ HGO.out
      have g1 := cell_off g0 (q := ⟨b4, 0, none⟩) (by have := HL4.out; show _ ≠ b4; omega) (.slice none 0 0)
      have c6 := (HP5.out.oth (c := b4) (by omega) 0 (.slice none 0 0)).c0
      clear hb0
      go_upto_region 3 with fail
      go_region
      all_goals go_wp2
      all_goals
        have q4 : row1 ((W6.setCell ⟨b4, 0, none⟩ (.slice none 0 0)).setCell ⟨b4 + 1, 0, none⟩ (.iface 102 (.pointer (some pO)))) b4 (.slice none 0 0) 22 := (HP4.out.set _).oth (by omega) 0 _
        have q5 : row1 ((W6.setCell ⟨b4, 0, none⟩ (.slice none 0 0)).setCell ⟨b4 + 1, 0, none⟩ (.iface 102 (.pointer (some pO)))) (b4 + 1) (.iface 102 (.pointer (some pO))) 31 := (HP5.out.oth (by omega) 0 _).set _
        refine postM_ret _ rfl (results_ps rfl _ _ rfl rfl _ _ _ _ q4.c0 q5.c0) ?_
        rw [HR.out]
        exact ⟨((HB7.out.setCell (p := ⟨b4, 0, none⟩) HL4.out _).setCell (p := ⟨b4 + 1, 0, none⟩) (Nat.le_succ_of_le HL4.out) _).drew, .inl ⟨rfl, rfl⟩⟩
    | true =>
      go_upto_region 5 with fail
      obtain ⟨W7, hW7⟩ : ∃ W7, W6.alloc (.cells #[.slice none 0 0] 22) = W7 := ⟨_, rfl⟩
      rw [hW7]
      have r7 : row1 W7 W6.heap.size (.slice none 0 0) 22 := by rw [← hW7]; exact World.alloc_heap_new W6 _
      have b7 : Below W6.heap.size W6 W7 := by rw [← hW7]; exact (Below.refl _ W6).alloc (Nat.le_refl _) _
      have hlt5 : b4 + 1 < W6.heap.size := (Array.getElem?_eq_some_iff.1 HP5.out).1
      obtain ⟨b8, hb8⟩ : ∃ b8, b8 = W6.heap.size := ⟨_, rfl⟩
      rw [← hb8] at r7 hlt5 ⊢
      have hb8' : w.heap.size ≤ b8 ∧ b4 + 1 < b8 := ⟨by rw [hb8]; exact HB7.out.size, hlt5⟩
      have HQ7 := hide (HQ5.out.bel b7)
      have HQ8 := hide (HQ6.out.bel b7)
      have HP4a := hide (HP4.out.bel b7)
      have HP5a := hide (HP5.out.bel b7)
      have HB8 := hide (Below.next HB7.out b7)
      have x0 := HQ7.out.c0
      have x1 := HQ7.out.c1
      have x2 := HQ8.out.c0
      have x3 := HQ8.out.c1
      have HR7 := hide r7
      have HL8 := hide hb8'
      clear r7 b7 hb8 hb8' hW7 HQ5 HQ6 HB7 HP4 HP5 hlt5
      go_wp2_with fail
      refine (sb_pc (.slice a1 n1 c1) (.slice a2 n2 c2) _).mono ?_
      rintro e W8 ⟨rfl, hs1, hs2, hb8⟩
      have HB9 := hide (Below.next HB8.out hb8)
      have HR8 := hide (HR7.out.bel hb8)
      have HP4 := hide (HP4a.out.bel hb8)
      have HP5 := hide (HP5a.out.bel hb8)
      have HS1 := hide hs1
      have HS2 := hide hs2
      clear x0 x1 x2 x3 hs1 hs2 hb8 HR7 HQ7 HQ8 HP4a HP5a
      go_wp2_with fail
      have HM : Hid (n1 ≤ 140737488355328 ∧ n2 ≤ 140737488355328) := by have := HS.out; have := HN.out; exact ⟨by omega, by omega⟩
      refine (wpIn_wide (n := 8)).1 ?_
      refine range_s (σ := Nat × Nat) rfl (by decide) (gf := 60) (lb := #[.pointer (some ⟨W7.heap.size, 0, none⟩), .pointer (some ⟨W7.heap.size + 1, 0, none⟩)]) rfl trivial (enters_of Tryd.func60 (by kernel_rfl) rfl)
        (iter_pc tV ⟨by decide, by decide⟩ 7 (a.map Prod.fst) (b.map Prod.fst) a1 a2 n1 c1 n2 c2 _ _ w W8 HB9.out (HKA.out w (Below.refl _ _)) (HKB.out w (Below.refl _ _)) HM.out.1 HM.out.2 HS1.out HS2.out) (fun _ => rfl) HB9.out.size
        (PJ b4 b8 w a b) (fun _ W => PX b4 w a b pL W) (fun s A B h hk => h.keep hk HB9.out.size) (fun s A B h hk => h.keep hk HB9.out.size) ?start
        (fun s => { tmps := #[.slice a1 n1 c1, .slice a2 n2 c2, undef, undef, .pointer (some ⟨b4, 0, none⟩), .pointer (some ⟨b4 + 1, 0, none⟩), .pointer (some ⟨b6, 0, none⟩), .pointer (some ⟨b6 + 1, 0, none⟩), .pointer (some ⟨b8, 0, none⟩), ptrIf 2 (turnA (a.map Prod.fst) (b.map Prod.fst) s) a1 s.1, ptrIf 5 (turnB (a.map Prod.fst) (b.map Prod.fst) s) a2 s.2, .slice a1 n1 c1, .agg #[.slice a1 n1 c1, keyPF], .slice a2 n2 c2, .agg #[.slice a2 n2 c2, keyCF], .agg #[.slice a1 n1 c1, keyPF], .bool true, .bool false, .bool false, .agg #[.slice a2 n2 c2, keyCF], .bool true, .bool false, .bool false, undef, .agg #[.slice a1 n1 c1, keyPF], .agg #[.slice a2 n2 c2, keyCF], .func (.func 60) #[] #[.pointer (some ⟨W7.heap.size, 0, none⟩), .pointer (some ⟨W7.heap.size + 1, 0, none⟩)], ptrIf 2 (turnA (a.map Prod.fst) (b.map Prod.fst) s) a1 s.1, ptrIf 5 (turnB (a.map Prod.fst) (b.map Prod.fst) s) a2 s.2, undef, undef, undef, undef, undef, undef, undef, undef, undef, undef], defers := [] }) ?assign ?body ?done ?stop
      case start => exact ⟨Nat.zero_le _, Nat.zero_le _, HB9.out, HP4.out, HP5.out, rfl, _, [], HR8.out, PrO.nil _ _, rfl⟩
      case assign =>
        intro l s W K hK
        unfold encsS
        gi_wp2
        exact hK
      case body =>
        rintro l ⟨p, q⟩ W hI hmore
        obtain ⟨h1, h2, h3, hr4, hr5, hall, v, out, h4, h5, h6⟩ := hI
        obtain ⟨k, x, y, e1, e2, e3, e4⟩ := side_at a b p q hmore
        have hpx : PtP W (ptrIf 2 (turnA (a.map Prod.fst) (b.map Prod.fst) (p, q)) a1 p) k x := ptp_of (HPA.out.below h3) e2
        have hpy : PtC W (ptrIf 5 (turnB (a.map Prod.fst) (b.map Prod.fst) (p, q)) a2 q) k y := ptc_of (HPB.out.below h3) e3
        have hok1 := okl_at HOA.out e2
        have hok2 := okc_at HOB.out e3
        have hok := And.intro (ok_key hok1.2 hok2.2 e4) (ok_made hok1.1 hok2.1)
        have hnx := nxS_le (s := (p, q)) (ka := a.map Prod.fst) (kb := b.map Prod.fst) (by simpa using h1) (by simpa using h2)
        rw [List.length_map, List.length_map] at hnx
        rw [all_step e1] at hall
        rw [e1, show ∀ r, fm madeV ((k, (x, y)) :: r) = madeL k (x, y) ++ fm madeV r from fun r => fm_made k (x, y) r, ← List.append_assoc] at h6
        have hlen := len_outP h6 HS.out
        obtain ⟨P1, hP1⟩ : ∃ P1, P1 = ptrIf 2 (turnA (a.map Prod.fst) (b.map Prod.fst) (p, q)) a1 p := ⟨_, rfl⟩
        obtain ⟨P2, hP2⟩ : ∃ P2, P2 = ptrIf 5 (turnB (a.map Prod.fst) (b.map Prod.fst) (p, q)) a2 q := ⟨_, rfl⟩
        have HPX := hide hpx
        have HPY := hide hpy
        have HOK := hide hok
        have HNX := hide hnx
        have HE4 := hide e4
        have HBE0 := hide h3
        have HW40 := hide h4
        have HCH0 := hide h5
        have HEQ := hide h6
        have HLEN := hide hlen
        have HALL := hide hall
        have HC40 := hide hr4
        have HC50 := hide hr5
        clear hpx hpy hok hok1 hok2 hnx e1 e2 e3 e4 h1 h2 h3 h4 h5 h6 hlen hmore hall hr4 hr5
        dsimp only
        rw [← hP1, ← hP2]
        rw [← hP1] at HPX
        rw [← hP2] at HPY
        have hmx : Tryd.prog.follows .mixedOrders = true := by kernel_rfl
        clear hP1 hP2
        gi_wp2_with fail
        refine ⟨trivial, (CallsIn.inRound l (callsIn_wide.2 (fitsp_any k x y P1 P2 W HPX.out HPY.out))).mono ?_⟩
        rintro e w5 ⟨rfl, hb5⟩
        have HB5 := hide hb5
        have HBE := hide (Below.next HBE0.out hb5)
        have HW4 := hide (HW40.out.bel hb5)
        have HCH := hide (HCH0.out.below hb5)
        have HC4 := hide (HC40.out.bel hb5)
        have HC5 := hide (HC50.out.bel hb5)
        have HPX6 := hide (HPX.out.bel hb5)
        have HPY6 := hide (HPY.out.bel hb5)
        clear hb5 HPX HPY HBE0 HW40 HCH0 HC40 HC50
        cases hok : okM (x, y) with
        | false =>
          have g0 := cell_bel HBE.out HGL.out
          have c4 := HC4.out.c0
          have c5 := HC5.out.c0
          have f4 := HC4.out.frz 0
          have f5 := HC5.out.frz 0
          have hb0 := World.block_lt_of_cell? w _ HGL.out
          have g1 := cell_off g0 (q := ⟨b4, 0, none⟩) (by have := HL4.out; show _ ≠ b4; omega) (.slice none 0 0)
          have c6 := (HC5.out.oth (c := b4) (by omega) 0 (.slice none 0 0)).c0
          have HKO := hide hok
          clear hb0 hok
          gi_wp2
          gi_region_with_o (fail)
          all_goals gi_wp2
          all_goals
            have q4 : row1 ((w5.setCell ⟨b4, 0, none⟩ (.slice none 0 0)).setCell ⟨b4 + 1, 0, none⟩ (.iface 102 (.pointer (some pL)))) b4 (.slice none 0 0) 22 := (HC4.out.set _).oth (by omega) 0 _
            have q5 : row1 ((w5.setCell ⟨b4, 0, none⟩ (.slice none 0 0)).setCell ⟨b4 + 1, 0, none⟩ (.iface 102 (.pointer (some pL)))) (b4 + 1) (.iface 102 (.pointer (some pL))) 31 := (HC5.out.oth (by omega) 0 _).set _
            have hbW : But w.heap.size (ofT tV) W ((w5.setCell ⟨b4, 0, none⟩ (.slice none 0 0)).setCell ⟨b4 + 1, 0, none⟩ (.iface 102 (.pointer (some pL)))) :=
              ((But.of_below HB5.out).setCell (p := ⟨b4, 0, none⟩) (o := .cells #[.slice none 0 0] 22 (0, 0)) HC4.out HL4.out rfl _).setCell (p := ⟨b4 + 1, 0, none⟩) (o := .cells #[.nilIface] 31 (0, 0)) (HC5.out.oth (c := b4) (by omega) 0 _) (Nat.le_succ_of_le HL4.out) rfl _
            exact ⟨hbW.drew, ((HBE.out.setCell (p := ⟨b4, 0, none⟩) HL4.out _).setCell (p := ⟨b4 + 1, 0, none⟩) (Nat.le_succ_of_le HL4.out) _).drew, q4, q5, by rw [HALL.out]; show (okM (x, y) && _) = false; rw [HKO.out]; rfl⟩
        | true =>
          have x0 := HW4.out.c0
          have HKO := hide hok
          clear hok
          gi_wp2
          gi_wp2_with fail
          refine ⟨trivial, (CallsIn.inRound l (callsIn_wide.2 (made_any w.heap.size v out k x y P1 P2 w5 HCH.out HBE.out.size HLEN.out HOK.out.1 HOK.out.2 HPX6.out HPY6.out HE4.out))).mono ?_⟩
          rintro e w7 ⟨v', rfl, hown', hbut⟩
          obtain ⟨a', c', rfl⟩ : ∃ a' c', v' = .slice a' (out ++ madeL k (x, y)).length c' := PrO.form hown'
          have HO7 := hide hown'
          have HB7 := hide (hbut.mono (Nat.le_refl _) (fun o h => tU_tV o (tPR_tU o h)))
          have hrw : row1 w7 b8 v 22 := HW4.out.but hbut rfl
          have HR4 := hide (HC4.out.but hbut rfl)
          have HR5 := hide (HC5.out.but hbut rfl)
          have z1 := hrw.c0
          have z2 := hrw.frz 0
          have HRW := hide hrw
          clear hown' hbut hrw
          all_goals gi_wp2
          all_goals
            rw [← List.length_append]
            have hb5 := HB7.out.setCell (p := ⟨b8, 0, none⟩) (o := .cells #[v] 22 (0, 0)) HRW.out HL8.out.1 rfl (.slice a' (out ++ madeL k (x, y)).length c')
            refine ⟨(But.of_below HB5.out).trans hb5, HNX.out.1, HNX.out.2, bel_but HBE.out hb5 (Nat.le_refl _), HR4.out.oth (by have := HL8.out.2; omega) 0 _, HR5.out.oth (by have := HL8.out.2; omega) 0 _, ?_, _, out ++ madeL k (x, y), HRW.out.set _, HO7.out.keep (fun g cs _ hg => (Below.heap_setCell w7 _ _ g (fun e => by rw [e] at hg; rw [show w7.heap[b8]? = _ from HRW.out] at hg; simp at hg)).trans hg), HEQ.out⟩
            rw [HALL.out]
            show (okM (x, y) && _) = _
            rw [HKO.out]
            rfl
      case done =>
        rintro D s W hD hnm hI hdef
        obtain ⟨h1, h2, h3, hr4, hr5, hall, v, out, h4, h5, h6⟩ := hI
        rw [side_end a b s.1 s.2 hnm, fm_nil, List.append_nil] at h6
        rw [side_end a b s.1 s.2 hnm] at hall
        subst h6
        obtain ⟨a', c', rfl⟩ : ∃ a' c', v = .slice a' _ c' := PrO.form h5
        have HDF := hide hdef
        have HCH := hide h5
        have HBE := hide h3
        have HW4 := hide h4
        have HDD := hide hD
        have HALL := hide hall
        have HC4 := hide hr4
        have HC5 := hide hr5
        have x0 := h4.c0
        have c4 := hr4.c0
        have c5 := hr5.c0
        have f4 := hr4.frz 0
        have f5 := hr5.frz 0
        clear hnm h1 h2 h3 h4 h5 hdef hD hall hr4 hr5
        go_wp2
        have q4 : row1 ((W.setCell ⟨b4, 0, none⟩ (.slice a' (List.length (fm madeV (side a b))) c')).setCell ⟨b4 + 1, 0, none⟩ .nilIface) b4 (.slice a' (List.length (fm madeV (side a b))) c') 22 := (HC4.out.set _).oth (by omega) 0 _
        have q5 : row1 ((W.setCell ⟨b4, 0, none⟩ (.slice a' (List.length (fm madeV (side a b))) c')).setCell ⟨b4 + 1, 0, none⟩ .nilIface) (b4 + 1) .nilIface 31 := (HC5.out.oth (by omega) 0 _).set _
        have hne4 : D ≠ b4 := fun e => by have := HDF.out; rw [e, show W.heap[b4]? = _ from HC4.out] at this; cases this
        have hne5 : D ≠ b4 + 1 := fun e => by have := HDF.out; rw [e, show W.heap[b4 + 1]? = _ from HC5.out] at this; cases this
        have hdd : ((W.setCell ⟨b4, 0, none⟩ (.slice a' (List.length (fm madeV (side a b))) c')).setCell ⟨b4 + 1, 0, none⟩ .nilIface).heap[D]? = some (.deferred (some [])) := (Below.heap_setCell _ _ _ D hne5).trans ((Below.heap_setCell _ _ _ D hne4).trans HDF.out)
        refine postM_mark _ rfl hdd (results_ps rfl _ _ rfl rfl _ _ _ _ (q4.put hdd rfl).c0 (q5.put hdd rfl).c0) ?_
        rw [HR.out]
        have hbp := ((HBE.out.setCell (p := ⟨b4, 0, none⟩) HL4.out (.slice a' (List.length (fm madeV (side a b))) c')).setCell (p := ⟨b4 + 1, 0, none⟩) (Nat.le_succ_of_le HL4.out) .nilIface)
        refine ⟨bel_but hbp ((But.refl W8.heap.size (fun _ => true) _).putObj hdd HDD.out rfl _) HB9.out.size, .inr (.inr ⟨rfl, _, _, if_pos HALL.out, rfl, ?_⟩)⟩
        refine HCH.out.keep fun g cs _ hg => ?_
        have n4 : g ≠ b4 := fun e => by rw [e, show W.heap[b4]? = _ from HC4.out] at hg; simp at hg
        have n5 : g ≠ b4 + 1 := fun e => by rw [e, show W.heap[b4 + 1]? = _ from HC5.out] at hg; simp at hg
        have nD : g ≠ D := fun e => by rw [e, HDF.out] at hg; cases hg
        exact (World.putObj_heap_other nD).trans ((Below.heap_setCell _ _ _ g n5).trans ((Below.heap_setCell _ _ _ g n4).trans hg))
      case stop =>
        rintro D s W hD hX hdef
        have HDF := hide hdef
        have HDD := hide hD
        have HX := hide hX
        clear hD hX hdef
        refine wpIn_wide.2 ?_
        go_wp2
        refine postM_mark _ rfl HDF.out (results_ps rfl _ _ rfl rfl _ _ _ _ (HX.out.r4.put HDF.out rfl).c0 (HX.out.r5.put HDF.out rfl).c0) ?_
        rw [HR.out]
        refine ⟨bel_but HX.out.bel ((But.refl W8.heap.size (fun _ => true) _).putObj HDF.out HDD.out rfl _) HB9.out.size, .inr (.inl ⟨rfl, ?_, rfl⟩)⟩
        unfold patchD
        rw [if_neg (by rw [HX.out.no]; simp)]
end Go.Proofs.YthnidlhcpelomaaDoor
