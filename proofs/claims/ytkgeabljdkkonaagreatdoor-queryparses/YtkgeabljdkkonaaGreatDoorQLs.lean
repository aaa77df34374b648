import Derived.Test.YtkgeabljdkkonaaGreatDoorQIt
namespace Go.Proofs.YtkgeabljdkkonaaGreatDoor
open Go.RowKit

/-! The document's list of items. -/
/-- Where the loop of a list stands: q is read, the reader is at k1, the program's at u1. -/
structure LpRel (l : List Tk) (k : Nat) (lost : Bool) (r : Nat) (R0 : Option (List It × St)) (q : List It) (k1 : Nat) (lost1 : Bool) : Prop where
  le : k ≤ k1
  keep : lost = true → lost1 = true
  ok : lost1 = false → ∃ (u1 : St) (n : Nat), Rep u1 (l.drop k1) ∧ R0 = lcat q (loopD (itemD r) n u1) ∧ rk u1 < n
  no : lost = false → lost1 = true → R0 = none
  cnt : cntL q + tws l k ≤ tws l k1 + 1
  cnt' : lost1 = false → cntL q + tws l k ≤ tws l k1
  len : lost1 = false → q.length + k ≤ k1
  len2 : q.length + k ≤ k1 + 1
theorem cntL_snoc (q : List It) (x : It) : cntL (q ++ [x]) = cntL q + x.cnt := by
  induction q with
  | nil => simp [cntL]
  | cons y q ih => simp only [List.cons_append, cntL, ih]; omega
/-- One round. -/
theorem LpRel.step {l : List Tk} {k : Nat} {lost : Bool} {r : Nat} {R0 : Option (List It × St)} {q : List It} {k1 : Nat} (hl : ∀ t ∈ l, TkFine t) (h : LpRel l k lost r R0 q k1 false) {x : It} {k2 : Nat} {lost2 : Bool} {u1 : St} {n : Nat}
    (hR0 : R0 = lcat q (loopD (itemD r) n u1)) (hn : rk u1 < n) (hi : ItRel l k1 false u1 r x k2 lost2) :
    (hereB l k2 5 ⟨#[93]⟩ = true → (lost2 = false → ∃ v, R0 = some (q ++ [x], v) ∧ Rep v (l.drop (k2 + 1))) ∧ (lost = false → lost2 = true → R0 = none)) ∧
    (hereB l k2 5 ⟨#[93]⟩ = false → LpRel l k lost r R0 (q ++ [x]) (goOn k2 (hereB l k2 5 ⟨#[44]⟩)) (lost2 || !hereB l k2 5 ⟨#[44]⟩)) ∧
    k1 ≤ k2 ∧ cntL (q ++ [x]) + tws l k ≤ tws l k2 + 1 ∧ (lost2 = false → cntL (q ++ [x]) + tws l k ≤ tws l k2) ∧ (lost2 = false → k1 < k2) := by
  obtain ⟨n', rfl⟩ : ∃ n', n = n' + 1 := ⟨n - 1, by omega⟩
  rw [loopD] at hR0
  have hc := h.cnt' rfl
  have hlen := h.len rfl
  have hlost : lost = false := by
    cases e : lost with
    | false => rfl
    | true => have := h.keep e; cases this
  have hcnt : cntL (q ++ [x]) = cntL q + x.cnt := cntL_snoc q x
  have c1 := hi.cnt
  have hle := h.le
  have hile := hi.le
  refine ⟨fun hb => ⟨fun h2 => ?_, fun _ h2 => ?_⟩, fun hb => ?_, hi.le, by rw [hcnt]; omega, fun h2 => by have := hi.cnt' h2; rw [hcnt]; omega, fun h2 => (hi.ok h2).1⟩
  · obtain ⟨_, v, hv, hrv⟩ := hi.ok h2
    rw [hv] at hR0
    simp only at hR0
    rw [if_pos (by rw [← here_mark hl hrv ⟨#[93]⟩ (by simp)]; exact hb)] at hR0
    exact ⟨nxtD v.2, hR0, rep_go hrv hb⟩
  · rw [hi.no rfl h2] at hR0
    exact hR0
  · refine ⟨?_, fun e => (by rw [hlost] at e; cases e), fun h3 => ?_, fun _ h3 => ?_, ?_, fun h3 => ?_, fun h3 => ?_, ?_⟩
    · unfold goOn; split <;> omega
    · have h2 : lost2 = false := by
        cases e : lost2 with
        | false => rfl
        | true => rw [e] at h3; cases h3
      have h4 : hereB l k2 5 ⟨#[44]⟩ = true := by rw [h2] at h3; simpa using h3
      obtain ⟨_, v, hv, hrv⟩ := hi.ok h2
      rw [hv] at hR0
      simp only at hR0
      have hm : isM ⟨#[44]⟩ v = true := by rw [← here_mark hl hrv ⟨#[44]⟩ (by simp)]; exact h4
      rw [if_neg (by rw [← here_mark hl hrv ⟨#[93]⟩ (by simp), hb]; simp), if_pos hm, lcat_cons] at hR0
      have hcost := (item_cost r u1 x v hv).2
      have hst := step_rk v (isM_kind hm)
      refine ⟨nxtD v.2, n', ?_, hR0, by omega⟩
      rw [h4]
      exact rep_go hrv h4
    · cases e : lost2 with
      | true =>
        rw [hi.no rfl e] at hR0
        exact hR0
      | false =>
        have h4 : hereB l k2 5 ⟨#[44]⟩ = false := by rw [e] at h3; simpa using h3
        obtain ⟨_, v, hv, hrv⟩ := hi.ok e
        rw [hv] at hR0
        simp only at hR0
        rw [if_neg (by rw [← here_mark hl hrv ⟨#[93]⟩ (by simp), hb]; simp), if_neg (by rw [← here_mark hl hrv ⟨#[44]⟩ (by simp), h4]; simp)] at hR0
        exact hR0
    · have := tws_mono l (show k2 ≤ goOn k2 (hereB l k2 5 ⟨#[44]⟩) by unfold goOn; split <;> omega)
      rw [hcnt]; omega
    · have h2 : lost2 = false := by
        cases e : lost2 with
        | false => rfl
        | true => rw [e] at h3; cases h3
      have := tws_mono l (show k2 ≤ goOn k2 (hereB l k2 5 ⟨#[44]⟩) by unfold goOn; split <;> omega)
      have := hi.cnt' h2
      rw [hcnt]; omega
    · have h2 : lost2 = false := by
        cases e : lost2 with
        | false => rfl
        | true => rw [e] at h3; cases h3
      have := (hi.ok h2).1
      have : k2 ≤ goOn k2 (hereB l k2 5 ⟨#[44]⟩) := by unfold goOn; split <;> omega
      simp only [List.length_append, List.length_singleton]
      omega
    · have : k2 ≤ goOn k2 (hereB l k2 5 ⟨#[44]⟩) := by unfold goOn; split <;> omega
      simp only [List.length_append, List.length_singleton]
      omega
theorem Solo.then {b base : Nat} {w w1 w2 : World} (h : Solo b w w1) (k : Below base w1 w2) (hb : w.heap.size ≤ base) : Solo b w w2 :=
  ⟨k.os.trans h.os, k.tape.trans h.tape, k.output.trans h.output, Nat.le_trans h.size k.size, fun i hi hn => (k.block i (by omega)).trans (h.block i hi hn)⟩
theorem RdS.move {w V W : World} {b c k k2 : Nat} {a : Option Addr} {l : List Tk} {lost lost2 : Bool} (h0 : RdS w b a c l k lost) (h : RdS V b a c l k2 lost2) (hs : Solo b w W) (hrow : W.heap[b]? = V.heap[b]?) : RdS W b a c l k2 lost2 :=
  ⟨hrow.trans h.row, h0.tk.solo hs, h.le, h.len⟩
set_option maxHeartbeats 8000000 in
set_option maxRecDepth 100000 in
theorem rlist_step (b : Nat) (a : Option Addr) (c : Nat) (l : List Tk) (r : Nat) (hl : ∀ t ∈ l, TkFine t) (hI : RItemC b a c l r) : RListC b a c l r := by
  intro d k lost u w hd h hrep
  obtain ⟨i0, hi, hz0, hz1, hz2⟩ := info_parts Tryz.info49
  have hblt := h.row.lt
  have HLL : Hid (l.length ≤ 1000000 ∧ k ≤ l.length) := ⟨h.len, h.le⟩
  have HI := hide hI
  have HFL := hide hl
  have HF0 := hide h
  have HMK := hide (here_any b a c l k lost 5 ⟨#[93]⟩ w h)
  have HD := hide hd
  obtain ⟨R0, hR0⟩ : ∃ R0, R0 = listD (itemD r) u := ⟨_, rfl⟩
  have HR0 := hide hR0
  obtain ⟨Q, hQ⟩ : ∃ Q : Ending → World → Prop, Q = RLsR w b a c l k lost u r := ⟨_, rfl⟩
  rw [← hQ]
  have HQ := hide hQ
  by_cases hm : hereB l k 5 ⟨#[93]⟩ = true
  · rw [hm] at HMK
    have HREL : Hid (LsRel l k lost u r [] (k + 1) lost) := by
      have hw := tws_mono l (show k ≤ k + 1 by omega)
      refine ⟨by omega, fun e => e, fun e => ⟨by omega, ?_⟩, fun e1 e2 => (by rw [e1] at e2; cases e2), by simp [cntL]; omega, fun _ => by simp [cntL]; omega⟩
      have hr := hrep e
      exact ⟨nxtD u.2, by unfold listD; rw [if_pos (by rw [← here_mark hl hr ⟨#[93]⟩ (by simp)]; exact hm)], rep_go hr hm⟩
    clear hm hrep h hQ hR0 hl hI HF0
    go_enter Tryz.func71, Tryz.ntmps71
    go_wp2_with fail
    refine HMK.out.mono ?_
    rintro e W1 ⟨rfl, hR1, hS1⟩
    have HR1 := hide hR1
    have HS1 := hide hS1
    clear hR1 hS1 HMK
    go_wp2
    rw [HQ.out]
    exact ⟨[], none, 0, k + 1, lost, rfl, its_nil _ _ _ _, HR1.out, HS1.out, HREL.out⟩
  · have hm' : hereB l k 5 ⟨#[93]⟩ = false := by simpa using hm
    rw [hm'] at HMK
    have HREL : Hid (LpRel l k lost r R0 [] k lost) := by
      refine ⟨Nat.le_refl _, fun e => e, fun e => ?_, fun e1 e2 => (by rw [e1] at e2; cases e2), by simp [cntL], fun _ => by simp [cntL], fun _ => by simp, by simp⟩
      have hr := hrep e
      refine ⟨u, rk u + 1, hr, ?_, by omega⟩
      rw [hR0]
      unfold listD
      rw [if_neg (by rw [← here_mark hl hr ⟨#[93]⟩ (by simp), hm']; simp)]
      cases loopD (itemD r) (rk u + 1) u <;> simp [lcat]
    clear hm hm' hrep h hQ hR0 hl hI
    go_enter Tryz.func71, Tryz.ntmps71
    go_wp2_with fail
    refine HMK.out.mono ?_
    rintro e W1 ⟨rfl, hR1, hS1⟩
    have HR1 := hide hR1
    have HS1 := hide hS1
    clear hR1 hS1 HMK
    go_wp2_with fail
    go_loopw [5] (fun v wr => ∃ (q : List It) (a5 : Option Addr) (c5 k1 : Nat) (lost1 : Bool), v = .slice a5 q.length c5 ∧ Hid (ItsOwn wr w.heap.size (.slice a5 q.length c5) q) ∧ Hid (RdS wr b a c l k1 lost1) ∧ Hid (Solo b w wr) ∧ Hid (LpRel l k lost r R0 q k1 lost1)) (fun v _ => l.length + 1 - lenS v)
    case atStart => exact ⟨[], none, 0, k, lost, rfl, ⟨[], rfl, by simpa [cellsOf'] using World.ownsRow_nil _ _ _ _, fun i h => absurd h (by simp), fun i h => absurd h (by simp)⟩, HR1.out, HS1.out, HREL.out⟩
    case round =>
      clear HR1 HS1 HREL
      obtain ⟨q, a5, c5, k1, lost1, rfl, hown, hR, hS, hrel⟩ := hrel
      have c2 := hR.out.row.cell 2 (by simp)
      simp only [List.getElem_toArray, List.getElem_cons_zero, List.getElem_cons_succ] at c2
      have hq1 : q.length ≤ 1000001 := by have := hrel.out.len2; have := hR.out.le; have := HLL.out; omega
      cases lost1 with
      | true =>
        have HREL : Hid (LsRel l k lost u r q k1 true) := by
          have h := hrel.out
          exact ⟨h.le, h.keep, fun e => (by cases e), fun e1 e2 => by rw [← HR0.out]; exact h.no e1 e2, h.cnt, fun e => (by cases e)⟩
        have HAT := hide (hown.out.at' (by omega))
        clear hrel hown
        go_wp2
        rw [HQ.out]
        exact ⟨q, a5, c5, k1, true, rfl, HAT.out, hR.out, hS.out, HREL.out⟩
      | false =>
        obtain ⟨u1, n, hr1, hR01, hn1⟩ := hrel.out.ok rfl
        have HIT := hide (HI.out d k1 false u1 wr HD.out hR.out (fun _ => hr1))
        have HL := hide (fun x k2 lost2 (hit : ItRel l k1 false u1 r x k2 lost2) => hrel.out.step HFL.out hR01 hn1 hit)
        have hbw : w.heap.size ≤ wr.heap.size := hS.out.size
        have HLO : Hid (lost ≠ true) := fun e => by have := hrel.out.keep e; cases this
        have HLE : Hid (k ≤ k1) := hrel.out.le
        have hq0 : q.length ≤ l.length := by have := hrel.out.len rfl; have := hR.out.le; omega
        clear hr1 hR01 hn1 hrel
        go_wp2_with fail
        refine HIT.out.mono ?_
        rintro e W2 ⟨x, la, cp, k2, lost2, rfl, hIT, hxok, hR2, hS2, hrel2⟩
        have HL2 := hide (HL.out x k2 lost2 hrel2)
        have hT2s := hS2.size
        have HS2 : Hid (Solo b w W2) := hS.out.trans hS2
        have x2 := RowAt.new W2 #[.int .i64 0, .int .i64 0, .string ⟨#[]⟩, .slice none 0 0] 49
        have HSX := hide (store_it _ W2.heap.size _ _ _ _ x la x.list.length cp x2)
        obtain ⟨V, hV⟩ : ∃ V, (W2.alloc (.cells #[.int .i64 0, .int .i64 0, .string ⟨#[]⟩, .slice none 0 0] 49)).setRow W2.heap.size (itV x (.slice la x.list.length cp)) = V := ⟨_, rfl⟩
        have hB : Below W2.heap.size W2 V := by rw [← hV]; exact below_setRow (below_new W2 _) (Nat.le_refl _) _
        have y2 : RowAt V W2.heap.size (itV x (.slice la x.list.length cp)) 49 := by rw [← hV]; exact row_set _ _ _ _ _ x2
        rw [hV] at HSX
        have hIT3 := hIT.keep hB
        have hown3 : ItsOwn V w.heap.size (.slice a5 q.length c5) q := (hown.out.two hS2.two hblt hblt).keep hB
        have hbk := hown.out.blk
        have hVs : wr.heap.size ≤ V.heap.size := Nat.le_trans hT2s hB.size
        obtain ⟨us, hus, how, hoks, hins⟩ := hown3
        have HRV := hide (hR2.below hB)
        have HSV : Hid (Solo b w V) := HS2.out.trans (.of_below hB)
        have hm1 : q.length + 1 ≤ maxLen := by unfold maxLen; omega
        have hm2 : (q.length + 1) * 56 ≤ 140737488355328 := by omega
        have HN : Hid (∀ j u, [Value.int .i64 x.kind, .int .i64 x.num, .string x.text, .slice la x.list.length cp][j]? = some u → (V.alloc (.cells #[.int .i64 x.kind, .int .i64 x.num, .string x.text, .slice la x.list.length cp] 49)).cell? ((⟨V.heap.size, 0, none⟩ : Addr).add j) = some u) := World.news_of_block (heap_alloc_new V _)
        have HX : Hid (x.Ok ∧ ItsAt V (fun g => wr.heap.size ≤ g) (.slice la x.list.length cp) x.list) := ⟨hxok, hIT3⟩
        have HBK : Hid (∀ k, (Value.slice a5 q.length c5).ownBlock = some k → w.heap.size ≤ k ∧ k < wr.heap.size) := hbk
        have hc0 := y2.cell 0 (by simp)
        have hc1 := y2.cell 1 (by simp)
        have hc2 := y2.cell 2 (by simp)
        have hc3 := y2.cell 3 (by simp)
        simp only [itV, List.getElem_toArray, List.getElem_cons_zero, List.getElem_cons_succ] at hc0 hc1 hc2 hc3
        clear HIT x2 hV y2 hB hIT hIT3 hxok hR2 hS2 hown hbk hR hS hrel2 HL HS2 c2
        go_wp2_with (first
          | (refine wpList_store_eq rfl 49 _ _ rfl _ _ rfl rfl HSX.out ?_)
          | (at_builtin; go_must (refine wpList_append_lies _ rfl _ _ 47 rfl w.heap.size 49 i0 (.agg #[.int .i64 0, .int .i64 0, .string ⟨#[]⟩, .slice none 0 0]) 4 56 Tryz.underlying47 hi hz0 hz1 hz2 rfl (by decide) _ _ _ rfl (how.alloc _) ⟨V.heap.size, 0, none⟩ 1 1 [.int .i64 x.kind, .int .i64 x.num, .string x.text, .slice la x.list.length cp] rfl rfl HN.out (its_cells1 _ _ _ _ _ _) (by decide) hm1 hm2 (by simp; omega) _ rfl ?_)))
        intro g5 cap5 w5 hown5 hgrow hat hlg
        obtain ⟨HO5, HB5⟩ := rd_push2 hbw hVs HBK.out HX.out.1 hus hoks hins HX.out.2 rfl hown5 hgrow hat
        have HS5 : Hid (Solo b w w5) := HSV.out.then HB5 (Nat.le_refl _)
        have HR5 : Hid (RdS w5 b a c l k2 lost2) := HF0.out.move HRV.out HS5.out (HB5.block b hblt)
        have HO := hide HO5
        have HM5 := hide (here_any b a c l k2 lost2 5 ⟨#[93]⟩ w5 HR5.out)
        have hle : (q ++ [x]).length = q.length + 1 := by simp
        have hq2 : (q ++ [x]).length ≤ 1000002 := by rw [hle]; omega
        clear hown5 hgrow hat hlg HO5 HB5 hins hoks how HX HN HRV HSV hc0 hc1 hc2 hc3
        by_cases hm : hereB l k2 5 ⟨#[93]⟩ = true
        · rw [hm] at HM5
          have HREL : Hid (LsRel l k lost u r (q ++ [x]) (k2 + 1) lost2) := by
            obtain ⟨h1, _, h3, h4, h5, h6⟩ := HL2.out
            obtain ⟨h7, h8⟩ := h1 hm
            have hw := tws_mono l (show k2 ≤ k2 + 1 by omega)
            have hk1 : k ≤ k1 := HLE.out
            refine ⟨by omega, fun e => ?_, fun e => ⟨by have := h6 e; omega, ?_⟩, fun e1 e2 => ?_, by omega, fun e => by have := h5 e; omega⟩
            · exact absurd e HLO.out
            · rw [← HR0.out]; exact h7 e
            · rw [← HR0.out]; exact h8 e1 e2
          clear hm HL2
          go_wp2_with fail
          refine HM5.out.mono ?_
          rintro e W6 ⟨rfl, hR6, hS6⟩
          have HR6 := hide hR6
          have HS6 : Hid (Solo b w W6) := HS5.out.trans hS6
          have HO6 : Hid (ItsOwn W6 w.heap.size (.slice (some ⟨g5, 0, none⟩) (q.length + 1) cap5) (q ++ [x])) := HO.out.two hS6.two hblt hblt
          clear hR6 hS6 HM5 HO
          go_wp2
          rw [HQ.out]
          exact ⟨q ++ [x], some ⟨g5, 0, none⟩, cap5, k2 + 1, lost2, by rw [hle]; rfl, by rw [hle]; exact HO6.out.at' (by omega), HR6.out, HS6.out, HREL.out⟩
        · have hm' : hereB l k2 5 ⟨#[93]⟩ = false := by simpa using hm
          rw [hm'] at HM5
          have HREL := hide (HL2.out.2.1 hm')
          clear hm hm' HL2
          go_wp2_with fail
          refine HM5.out.mono ?_
          rintro e W6 ⟨rfl, hR6, hS6⟩
          have HS6 : Hid (Solo b w W6) := HS5.out.trans hS6
          have HO6 : Hid (ItsOwn W6 w.heap.size (.slice (some ⟨g5, 0, none⟩) (q.length + 1) cap5) (q ++ [x])) := HO.out.two hS6.two hblt hblt
          have HM6 := hide (must_any b a c l k2 lost2 5 ⟨#[44]⟩ W6 hR6)
          clear hR6 hS6 HM5 HO HR5 HS5
          go_wp2_with fail
          refine HM6.out.mono ?_
          rintro e W7 ⟨rfl, hR7, hS7⟩
          have HR7 := hide hR7
          have HS7 : Hid (Solo b w W7) := HS6.out.trans hS7
          have HO7 : Hid (ItsOwn W7 w.heap.size (.slice (some ⟨g5, 0, none⟩) (q.length + 1) cap5) (q ++ [x])) := HO6.out.two hS7.two hblt hblt
          clear hR7 hS7 HM6 HO6 HS6
          go_wp2_with fail
          go_roundw
          case rel => exact ⟨q ++ [x], some ⟨g5, 0, none⟩, cap5, _, _, by rw [hle], by rw [hle]; exact HO7, HR7, HS7, HREL⟩
          case measure => simp [lenS]; omega
theorem ritem_any (b : Nat) (a : Option Addr) (c : Nat) (l : List Tk) (hl : ∀ t ∈ l, TkFine t) : ∀ r, RItemC b a c l r
  | 0 => ritem_step b a c l 0 hl (fun r' e => by cases e)
  | r + 1 => ritem_step b a c l (r + 1) hl (fun r' e => by cases e; exact rlist_step b a c l r hl (ritem_any b a c l hl r))
end Go.Proofs.YtkgeabljdkkonaaGreatDoor
