import Derived.Test.YtageokjobbjddaaGreatDoorGRL
namespace Go.Proofs.YtageokjobbjddaaGreatDoor
open Go.RowKit

theorem store_q (w : World) (H : Nat) (a0 a1 a2 a3 a4 : Value) (q : Qd) (la : Option Addr) (m k : Nat) (hr : RowAt w H #[a0, a1, a2, a3, a4] 24) : (Instr.storeAt 24 (.pointer (some ⟨H, 0, none⟩)) (.agg (qV q (.slice la m k)))).run Tryz.prog w = .ok () (w.setRow H (qV q (.slice la m k))) := store_row w H 24 _ _ hr (by kernel_rfl) rfl (by simp [Value.oneCell'])
theorem cell_off {w : World} {H k : Nat} {u v : Value} (h : w.cell? ⟨k, 0, none⟩ = some u) (hk : k < H) (j : Nat) : (w.setCell ⟨H, j, none⟩ v).cell? ⟨k, 0, none⟩ = some u :=
  (World.cell?_of_block (a := ⟨k, 0, none⟩) (Below.heap_setCell w ⟨H, j, none⟩ v k (fun e => by have e2 : k = H := e; omega))).trans h
theorem below_q {B : Nat} {a w : World} {b : Nat} (h : Below B a w) (hb : B ≤ b) (y0 y1 y2 y3 y4 : Value) : Below B a (((((w.setCell ⟨b, 0, none⟩ y0).setCell ⟨b, 1, none⟩ y1).setCell ⟨b, 2, none⟩ y2).setCell ⟨b, 3, none⟩ y3).setCell ⟨b, 4, none⟩ y4) := ((((h.setCell (p := ⟨b, 0, none⟩) hb y0).setCell (p := ⟨b, 1, none⟩) hb y1).setCell (p := ⟨b, 2, none⟩) hb y2).setCell (p := ⟨b, 3, none⟩) hb y3).setCell (p := ⟨b, 4, none⟩) hb y4
theorem q_frees {w : World} {b : Nat} {x0 x1 x2 x3 x4 : Value} {t : TypeId} (h : RowAt w b #[x0, x1, x2, x3, x4] t) : w.frozen? ⟨b, 0, none⟩ = false ∧ w.frozen? ⟨b, 1, none⟩ = false ∧ w.frozen? ⟨b, 2, none⟩ = false ∧ w.frozen? ⟨b, 3, none⟩ = false ∧ w.frozen? ⟨b, 4, none⟩ = false := ⟨h.free 0, h.free 1, h.free 2, h.free 3, h.free 4⟩
set_option maxHeartbeats 8000000 in
set_option maxRecDepth 100000 in
theorem pparse_any (A : Nat → Addr) (s : ByteArray) (w : World) (he : ErrsAt 3 gAll A w) (hv : TokEnv w) (hs : s.size ≤ 140737488355328) :
    Calls Tryz.prog 9 #[.string s] w fun e w' => ParR A w (parF s) (parD s) e w' := by
  have q1 := below_new w (.cells #[.string ⟨#[]⟩, .slice none 0 0, .string ⟨#[]⟩, .bool false, .int .i64 0] 24)
  have x1 := RowAt.new w #[.string ⟨#[]⟩, .slice none 0 0, .string ⟨#[]⟩, .bool false, .int .i64 0] 24
  obtain ⟨W1, hW1⟩ : ∃ W1, w.alloc (.cells #[.string ⟨#[]⟩, .slice none 0 0, .string ⟨#[]⟩, .bool false, .int .i64 0] 24) = W1 := ⟨_, rfl⟩
  rw [hW1] at q1 x1
  have hs1 : W1.heap.size = w.heap.size + 1 := by rw [← hW1]; simp
  have HW := hide hW1
  obtain ⟨pd, hpd⟩ : ∃ pd, pd = parD s := ⟨_, rfl⟩
  have HPD := hide hpd
  have HGM : Hid (0 < w.heap.size) := World.block_lt_of_cell? w _ he.two3.many
  have HGT : Hid (1 < w.heap.size) := World.block_lt_of_cell? w _ (he.1 1 (by decide)).1
  have HV := hide (hv.keep q1)
  have HE := hide (he.keep q1)
  have HX1 := hide x1
  have HB1 := hide q1
  rw [← hpd]
  clear hpd hv he hW1
  by_cases hl : 65536 < s.size
  · have hlI : (65536 : Int) < (s.size : Int) := by omega
    have HN : Hid (pd = none ∧ parF s = 3) := ⟨by rw [HPD.out, parD, if_pos hl], by rw [parF, if_pos hl]⟩
    have em : W1.cell? ⟨0, 0, none⟩ = some (.iface 166 (.pointer (some (A 2)))) := HE.out.two3.many
    have em2 := cell_off (v := .string ⟨#[]⟩) em HGM.out 0
    obtain ⟨z0, z1, z2, z3, z4⟩ := x1.q5
    obtain ⟨zf0, zf1, zf2, zf3, zf4⟩ := q_frees x1
    have HZ5 := hide (q_put x1 (.string ⟨#[]⟩) (.slice none 0 0) (.string ⟨#[]⟩) (.bool false) (.int .i64 0))
    have HB5 := hide (below_q q1 (b := w.heap.size) (Nat.le_refl _) (.string ⟨#[]⟩) (.slice none 0 0) (.string ⟨#[]⟩) (.bool false) (.int .i64 0))
    clear hl q1 x1 HV HE HPD
    go_enter Tryz.func9, Tryz.ntmps9
    go_wp2_with fail
    rw [HW.out]
    go_region
    go_wp2
    refine bodyPost_ret (results_row_tmp rfl _ _ w.heap.size 24 _ (0, 0) _ rfl HZ5.out Tryz.underlying24 rfl (by kernel_rfl)) rfl ?_
    rw [HN.out.1, HN.out.2]
    exact ⟨rfl, HB5.out.drew⟩
  · have hlI : ¬ (65536 : Int) < (s.size : Int) := by omega
    have hpd2 : pd = match queryD (nxtD s) with | none => none | some q => if qfaultD q = 0 then some q else none := by rw [HPD.out, parD, if_neg hl]; rfl
    have HPF : Hid (parF s = 2) := by show _ = _; rw [parF, if_neg hl]
    rw [HPF.out]
    have HNR := hide (pnewrd_any s W1 (by omega) HV.out)
    have HFIT := hide (fun q (h : queryD (nxtD s) = some q) => query_fit s q (by omega) h)
    have HP2 := hide hpd2
    clear hl q1 x1 HPD hpd2 HPF
    go_enter Tryz.func9, Tryz.ntmps9
    go_wp2_with fail
    rw [HW.out]
    refine HNR.out.mono ?_
    rintro e W2 ⟨b, g, rfl, hR2⟩
    have HQ := hide (pquery_any W1 b g (nxtD s).1 (nxtD s).2 W2 hR2 HV.out)
    have HB2 := hide hR2.bel
    have hb2 := hR2.hb
    have hg2 := hR2.hg
    obtain ⟨oq, hoq⟩ : ∃ oq, oq = queryD (nxtD s) := ⟨_, rfl⟩
    have eoq : queryD ((nxtD s).1, (nxtD s).2) = oq := hoq.symm
    rw [eoq] at HQ
    rw [← hoq] at HP2 HFIT
    clear hoq eoq hR2 HNR
    go_wp2_with fail
    refine HQ.out.mono ?_
    rintro e W3 ⟨hqr, hT3, hB3⟩
    have HB3 := hide (Below.next HB1.out hB3)
    have x3 := HX1.out.below hB3
    have HE3 := hide (HE.out.keep hB3)
    have hsz3 := hB3.size
    have y3 := RowAt.new W3 #[.string ⟨#[]⟩, .slice none 0 0, .string ⟨#[]⟩, .bool false, .int .i64 0] 24
    cases oq with
    | none =>
      obtain ⟨q, la, m, k, rfl⟩ := hqr
      obtain ⟨qt, qc, qo, qf, ql⟩ := q
      have HST := hide (store_q _ W3.heap.size _ _ _ _ _ ⟨qt, qc, qo, qf, ql⟩ la m k y3)
      obtain ⟨V, hV⟩ : ∃ V, (W3.alloc (.cells #[.string ⟨#[]⟩, .slice none 0 0, .string ⟨#[]⟩, .bool false, .int .i64 0] 24)).setRow W3.heap.size (qV ⟨qt, qc, qo, qf, ql⟩ (.slice la m k)) = V := ⟨_, rfl⟩
      have hB : Below W3.heap.size W3 V := by rw [← hV]; exact below_setRow (below_new W3 _) (Nat.le_refl _) _
      rw [hV] at HST
      have xV := x3.below hB
      have et : V.cell? ⟨1, 0, none⟩ = some (.iface 166 (.pointer (some (A 1)))) := ((HE3.out.keep hB).1 1 (by decide)).1
      have et2 := cell_off (v := .string ⟨#[]⟩) et HGT.out 0
      obtain ⟨z0, z1, z2, z3, z4⟩ := xV.q5
      obtain ⟨zf0, zf1, zf2, zf3, zf4⟩ := q_frees xV
      have HZ5 := hide (q_put xV (.string ⟨#[]⟩) (.slice none 0 0) (.string ⟨#[]⟩) (.bool false) (.int .i64 0))
      have HB5 := hide (below_q (Below.next HB3.out hB) (b := w.heap.size) (Nat.le_refl _) (.string ⟨#[]⟩) (.slice none 0 0) (.string ⟨#[]⟩) (.bool false) (.int .i64 0))
      have HN : Hid (pd = none) := HP2.out
      clear HQ hT3 hB3 x3 y3 hV hB xV HP2 HFIT
      go_wp2_with (first
        | (refine wpList_store_eq rfl 24 _ _ rfl _ _ rfl rfl HST.out ?_))
      go_region
      go_wp2
      refine bodyPost_ret (results_row_tmp rfl _ _ w.heap.size 24 _ (0, 0) _ rfl HZ5.out Tryz.underlying24 rfl (by kernel_rfl)) rfl ?_
      rw [HN.out]
      exact ⟨rfl, HB5.out.drew⟩
    | some q =>
      obtain ⟨la, k, rfl, hCS⟩ := hqr
      have hfit := HFIT.out q rfl
      have HST := hide (store_q _ W3.heap.size _ _ _ _ _ q la q.cs.length k y3)
      obtain ⟨V, hV⟩ : ∃ V, (W3.alloc (.cells #[.string ⟨#[]⟩, .slice none 0 0, .string ⟨#[]⟩, .bool false, .int .i64 0] 24)).setRow W3.heap.size (qV q (.slice la q.cs.length k)) = V := ⟨_, rfl⟩
      have hB : Below W3.heap.size W3 V := by rw [← hV]; exact below_setRow (below_new W3 _) (Nat.le_refl _) _
      have yV : RowAt V W3.heap.size (qV q (.slice la q.cs.length k)) 24 := by rw [← hV]; exact row_set _ _ _ _ _ y3
      rw [hV] at HST
      have hCSV := hCS.keep hB
      have HPFA := hide (pfault_any (A 0) (A 2) q (.slice la q.cs.length k) V hCSV.any (HE3.out.keep hB).two3 hfit.cnt (by have := hfit.t; omega) (by have := hfit.o; omega))
      have hsz2 : w.heap.size ≤ W2.heap.size := by have := HB2.out.size; omega
      have HCS := hide hCSV
      have HXV := hide (x3.below hB)
      have HYV := hide yV
      have HBV := hide (Below.next HB3.out hB)
      have HEV := hide (HE3.out.keep hB)
      have hp3 : pd = if qfaultD q = 0 then some q else none := HP2.out
      obtain ⟨fq, hfq⟩ : ∃ fq, fq = qfaultD q := ⟨_, rfl⟩
      rw [← hfq] at HPFA hp3
      have HP3 := hide hp3
      obtain ⟨qt, qc, qo, qf, ql⟩ := q
      simp only [qV] at HPFA HST HYV HXV
      obtain ⟨d0, d1, d2, d3, d4⟩ := yV.q5
      clear HQ hT3 hB3 x3 y3 hV hB yV HP2 HFIT hCS hCSV hfit hp3 hfq HE3 HB3
      go_wp2_with (first
        | (refine wpList_store_eq rfl 24 _ _ rfl _ _ rfl rfl HST.out ?_))
      refine HPFA.out.mono ?_
      rintro e W4 ⟨rfl, hb4⟩
      have HB4 := hide (Below.next HBV.out hb4)
      have x4 := HXV.out.below hb4
      have y4 := HYV.out.below hb4
      clear HPFA HST d0 d1 d2 d3 d4
      by_cases hq0 : fq = 0
      · subst hq0
        rw [if_pos rfl] at HP3
        have hE0 : errOf (A 0) (A 2) 0 = .nilIface := rfl
        rw [hE0]
        obtain ⟨d0, d1, d2, d3, d4⟩ := y4.q5
        have HST2 := hide (store_q _ w.heap.size _ _ _ _ _ ⟨qt, qc, qo, qf, ql⟩ la qc.length k x4)
        simp only [qV] at HST2
        have HX4 := hide x4
        have HC4 := hide (((HCS.out.keep hb4).two (Two.row1 w.heap.size W4 (qV ⟨qt, qc, qo, qf, ql⟩ (.slice la qc.length k))) (fun j hj => ⟨by omega, by omega⟩)).imp (G := fun j => w.heap.size ≤ j) (fun j hj => by omega))
        clear hE0 x4 y4 hb4 HCS HXV HYV HEV HE HB2
        go_wp2_with (first
          | (refine wpList_store_eq rfl 24 _ _ rfl _ _ rfl rfl HST2.out ?_))
        refine bodyPost_ret (results_row_tmp rfl _ _ w.heap.size 24 _ (0, 0) _ rfl (row_set _ _ _ _ _ HX4.out) Tryz.underlying24 rfl (by kernel_rfl)) rfl ?_
        rw [HP3.out]
        exact ⟨⟨la, k, rfl, HC4.out⟩, below_setRow HB4.out (Nat.le_refl _) _⟩
      · rw [if_neg hq0] at HP3
        obtain ⟨pp, hpp⟩ := errOf_nz (A 0) (A 2) hq0
        rw [hpp]
        have et : W4.cell? ⟨1, 0, none⟩ = some (.iface 166 (.pointer (some (A 1)))) := ((HEV.out.keep hb4).1 1 (by decide)).1
        have et2 := cell_off (v := .string ⟨#[]⟩) et HGT.out 0
        obtain ⟨z0, z1, z2, z3, z4⟩ := x4.q5
        obtain ⟨zf0, zf1, zf2, zf3, zf4⟩ := q_frees x4
        have HZ5 := hide (q_put x4 (.string ⟨#[]⟩) (.slice none 0 0) (.string ⟨#[]⟩) (.bool false) (.int .i64 0))
        have HB5 := hide (below_q HB4.out (b := w.heap.size) (Nat.le_refl _) (.string ⟨#[]⟩) (.slice none 0 0) (.string ⟨#[]⟩) (.bool false) (.int .i64 0))
        clear hpp x4 y4 hb4 HCS HXV HYV HEV HE HB2 hq0
        go_wp2_with fail
        go_region
        go_wp2
        refine bodyPost_ret (results_row_tmp rfl _ _ w.heap.size 24 _ (0, 0) _ rfl HZ5.out Tryz.underlying24 rfl (by kernel_rfl)) rfl ?_
        rw [HP3.out]
        exact ⟨rfl, HB5.out.drew⟩
end Go.Proofs.YtageokjobbjddaaGreatDoor
