import Derived.Test.YtageokjobbjddaaGreatDoorGRI
namespace Go.Proofs.YtageokjobbjddaaGreatDoor
open Go.RowKit

/-! The reader's list. -/
def lenS (v : Value) : Nat := match v with | .slice _ n _ => n | _ => 0
def lcat (l : List It) (o : Option (List It × St)) : Option (List It × St) := o.map fun p => (l ++ p.1, p.2)
theorem lcat_cons (l : List It) (x : It) (o : Option (List It × St)) : lcat l (o.map fun p => (x :: p.1, p.2)) = lcat (l ++ [x]) o := by
  cases o with
  | none => rfl
  | some p => simp [lcat]
theorem its_cells1 (a b : Int) (s : ByteArray) (x : Option Addr) (n c : Nat) : ∀ u ∈ [Value.int .i64 a, .int .i64 b, .string s, .slice x n c], u.oneCell' = true := by
  intro u hu; simp at hu; rcases hu with rfl | rfl | rfl | rfl <;> rfl
/-- One more item behind a list of the call's own. -/
theorem rd_push2 {base : Nat} {w1 w2 w5 : World} {q : List It} {us : List Value} {v yv : Value} {y : It} {g cap H : Nat} (hb1 : base ≤ w1.heap.size) (h12 : w1.heap.size ≤ w2.heap.size) (hbk : ∀ k, v.ownBlock = some k → base ≤ k ∧ k < w1.heap.size) (hok : y.Ok)
    (hus : us.length = q.length) (hoks : ∀ i (h : i < q.length), q[i].Ok) (hins : ∀ i (h : i < q.length) (h' : i < us.length), ItsAt w2 (fun g => base ≤ g ∧ some g ≠ v.ownBlock ∧ g < w2.heap.size) us[i] q[i].list) (hin : ItsAt w2 (fun g => w1.heap.size ≤ g) yv y.list)
    {o : Obj} (hH : w2.heap.size + 1 = H)
    (hown5 : w5.ownsRow base 32 4 (.slice (some ⟨g, 0, none⟩) (q.length + 1) cap) (q.length + 1) (cellsOf' q us ++ [.int .i64 y.kind, .int .i64 y.num, .string y.text, yv]))
    (hgrow : (w2.alloc o).grownBy w5 v.ownBlock) (hat : v.ownBlock = some g ∨ g = H) : ItsOwn w5 base (.slice (some ⟨g, 0, none⟩) (q.length + 1) cap) (q ++ [y]) ∧ Below base w2 w5 := by
  have n4 := below_new w2 o
  refine ⟨push_own (w4 := w2.alloc o) (H := H) hus hoks (fun i h h' => ?_) hok ?_ hown5 hgrow hat (by simp; omega), ?_⟩
  · exact ((hins i h h').keep n4).imp fun k hk => ⟨hk.1, hk.2.1, Nat.lt_of_lt_of_le hk.2.2 n4.size⟩
  · refine (hin.keep n4).lt.imp fun k hk => ⟨by omega, fun e => ?_, hk.2⟩
    have := (hbk k e.symm).2
    omega
  · exact ((Below.refl base w2).alloc (by omega) _).grown hgrow (by simp; omega) (fun k hk => (hbk k hk).1)
theorem Two.then {b g base : Nat} {w w1 w2 : World} (h : Two b g w w1) (k : Below base w1 w2) (hb : w.heap.size ≤ base) : Two b g w w2 :=
  ⟨k.os.trans h.os, k.tape.trans h.tape, k.output.trans h.output, Nat.le_trans h.size k.size, fun i hi hn hm => (k.block i (by omega)).trans (h.block i hi hn hm)⟩
theorem RdP.then {w0 w w' : World} {b g base : Nat} {t : Pt} {s : ByteArray} (h : RdP w0 w b g t s) (k : Below base w w') (h0 : w0.heap.size ≤ base) (hb : b < base) (hg : g < base) : RdP w0 w' b g t s :=
  ⟨h.bel.trans ⟨k.os, k.tape, k.output, k.size, fun i hi => k.block i (by omega)⟩, (k.block b hb).trans h.row, (k.block g hg).trans h.rst, h.hb, h.hg, h.ne, h.sz⟩
set_option maxHeartbeats 8000000 in
set_option maxRecDepth 100000 in
theorem plist_step (w0 : World) (b g r : Nat) (hv : TokEnv w0) (hI : ItemC w0 b g r) : ListC w0 b g r := by
  intro t s w h hok
  obtain ⟨i0, hi, hz0, hz1, hz2⟩ := info_parts Tryz.info32
  have hblt := h.row.lt
  have hglt := h.rst.lt
  have HSZ : Hid (rk (t, s) ≤ 1000001) := by
    show rk (t, s) ≤ 1000001
    have := h.sz
    unfold rk
    split <;> simp only <;> omega
  have HH0 : Hid (w0.heap.size ≤ w.heap.size) := Nat.le_trans h.hb (Nat.le_of_lt hblt)
  have HI := hide hI
  have HV := hide hv
  have HMK := hide (pmark_any w0 b g t s ⟨#[93]⟩ w h hv)
  obtain ⟨R0, hR0⟩ : ∃ R0, R0 = listD (itemD r) (t, s) := ⟨_, rfl⟩
  rw [← hR0]
  unfold listD at hR0
  have HOK := hide hok
  have HOK2 := hide (nxtD_ok s h.sz)
  clear h hok hI hv
  by_cases hm : isM ⟨#[93]⟩ (t, s) = true
  · have hj : justB 7 ⟨#[93]⟩ t = true := hm
    rw [if_pos hm] at hR0
    rw [hj] at HMK
    have HR := hide hR0
    clear hR0 hm hj
    go_enter Tryz.func93, Tryz.ntmps93
    go_wp2_with fail
    refine HMK.out.mono ?_
    rintro e W1 ⟨rfl, hR1⟩
    have HR1 := hide hR1
    clear hR1 HMK
    go_wp2_with fail
    go_ret2
    rw [HR.out]
    exact ⟨⟨none, 0, rfl, its_nil _ _ _ _⟩, HOK2.out, HR1.out.1, HR1.out.2⟩
  · have hj : justB 7 ⟨#[93]⟩ t = false := by
      have hm' : ¬ justB 7 ⟨#[93]⟩ t = true := hm
      simpa using hm'
    rw [if_neg hm] at hR0
    rw [hj] at HMK
    have HST : Hid (R0 = lcat [] (loopD (itemD r) (rk (t, s) + 1) (t, s))) := by
      show _ = _
      rw [hR0]
      cases loopD (itemD r) (rk (t, s) + 1) (t, s) <;> simp [lcat]
    have HS1 : Hid (stepT false t s = (t, s)) := rfl
    rw [HS1.out] at HMK
    clear hR0 hm hj HS1
    obtain ⟨K, hK⟩ : ∃ K, K = rk (t, s) := ⟨_, rfl⟩
    rw [← hK] at HSZ HST
    have HK := hide hK
    clear hK
    go_enter Tryz.func93, Tryz.ntmps93
    go_wp2_with fail
    refine HMK.out.mono ?_
    rintro e W1 ⟨rfl, hR1⟩
    have HR1 := hide hR1
    clear hR1 HMK
    go_wp2_with fail
    go_loopw [6] (fun v wr => ∃ (l : List It) (u : St) (a : Option Addr) (c n : Nat), v = .slice a l.length c ∧ Hid (R0 = lcat l (loopD (itemD r) n u)) ∧ Hid (rk u < n) ∧ Hid (l.length + rk u ≤ K) ∧ Hid (ItsOwn wr w.heap.size (.slice a l.length c) l) ∧ Hid (TokOk u.1) ∧ Hid (RdP w0 wr b g u.1 u.2) ∧ Hid (Two b g w wr)) (fun v _ => K + 1 - lenS v)
    case atStart => exact ⟨[], (t, s), none, 0, K + 1, rfl, HST, by show _ < _; rw [← HK.out]; omega, by show _ ≤ _; rw [← HK.out]; simp, ⟨[], rfl, by simpa [cellsOf'] using World.ownsRow_nil _ _ _ _, fun i h => absurd h (by simp), fun i h => absurd h (by simp)⟩, HOK.out, HR1.out.1, HR1.out.2⟩
    case round =>
      obtain ⟨l, u, a, c, n, rfl, hq, hn, hlK, hown, huok, hR, hT⟩ := hrel
      obtain ⟨n', rfl⟩ : ∃ n', n = n' + 1 := ⟨n - 1, by have := hn.out; omega⟩
      have hbw : w.heap.size ≤ wr.heap.size := hT.out.size
      have hl1 : l.length ≤ 1000001 := by have := hlK.out; have := HSZ.out; omega
      have HIT := hide (HI.out u.1 u.2 wr hR.out huok.out)
      have hq2 := hq.out
      rw [loopD] at hq2
      clear hq
      obtain ⟨oi, hoi⟩ : ∃ oi, oi = itemD r u := ⟨_, rfl⟩
      have eu : itemD r (u.1, u.2) = oi := hoi.symm
      rw [eu] at HIT
      rw [← hoi] at hq2
      cases oi with
      | none =>
        simp only at hq2
        have HQ : Hid (R0 = none) := hq2
        clear hq2 hoi eu hn
        go_wp2_with fail
        refine HIT.out.mono ?_
        rintro e W2 ⟨⟨x, la, ln, k, rfl⟩, ⟨v, hRv⟩, hT2⟩
        have x2 := RowAt.new W2 #[.int .i64 0, .int .i64 0, .string ⟨#[]⟩, .slice none 0 0] 32
        have HSX := hide (store_it _ W2.heap.size _ _ _ _ x la ln k x2)
        have HB : Hid (Below W2.heap.size W2 ((W2.alloc (.cells #[.int .i64 0, .int .i64 0, .string ⟨#[]⟩, .slice none 0 0] 32)).setRow W2.heap.size (itV x (.slice la ln k)))) := below_setRow (below_new W2 _) (Nat.le_refl _) _
        have HRv := hide hRv
        have HTv : Hid (Two b g w W2) := hT.out.trans hT2
        clear HIT x2 hRv hT2
        go_wp2_with (first
          | (refine wpList_store_eq rfl 32 _ _ rfl _ _ rfl rfl HSX.out ?_))
        go_ret2
        rw [HQ.out]
        exact ⟨rfl, ⟨v, HRv.out.below HB.out⟩, HTv.out.trans (.of_below HB.out)⟩
      | some p =>
        obtain ⟨x, v⟩ := p
        simp only at hq2
        have hcost := item_cost r u x v hoi.symm
        have HRK : Hid (rk v < rk u) := hcost.2
        have HQ2 := hide hq2
        clear hq2 hoi eu hcost
        go_wp2_with fail
        refine HIT.out.mono ?_
        rintro e W2 ⟨⟨la, k, rfl, hIT⟩, hxok, hvok, hRv, hT2⟩
        have hT2s := hT2.size
        have HTv : Hid (Two b g w W2) := hT.out.trans hT2
        have hblt2 : b < w.heap.size := hblt
        have x2 := RowAt.new W2 #[.int .i64 0, .int .i64 0, .string ⟨#[]⟩, .slice none 0 0] 32
        have HSX := hide (store_it _ W2.heap.size _ _ _ _ x la x.list.length k x2)
        obtain ⟨V, hV⟩ : ∃ V, (W2.alloc (.cells #[.int .i64 0, .int .i64 0, .string ⟨#[]⟩, .slice none 0 0] 32)).setRow W2.heap.size (itV x (.slice la x.list.length k)) = V := ⟨_, rfl⟩
        have hB : Below W2.heap.size W2 V := by rw [← hV]; exact below_setRow (below_new W2 _) (Nat.le_refl _) _
        have y2 : RowAt V W2.heap.size (itV x (.slice la x.list.length k)) 32 := by rw [← hV]; exact row_set _ _ _ _ _ x2
        rw [hV] at HSX
        have HLD := hide y2
        have hIT3 := hIT.keep hB
        have hown3 : ItsOwn V w.heap.size (.slice a l.length c) l := (hown.out.two hT2 hblt hglt).keep hB
        have hbk := hown.out.blk
        have hVs : wr.heap.size ≤ V.heap.size := Nat.le_trans hT2s hB.size
        obtain ⟨us, hus, how, hoks, hins⟩ := hown3
        have HRV := hide (hRv.below hB)
        have HTV : Hid (Two b g w V) := HTv.out.trans (.of_below hB)
        have hm1 : l.length + 1 ≤ maxLen := by unfold maxLen; omega
        have hm2 : (l.length + 1) * 56 ≤ 140737488355328 := by omega
        have HN : Hid (∀ j u, [Value.int .i64 x.kind, .int .i64 x.num, .string x.text, .slice la x.list.length k][j]? = some u → (V.alloc (.cells #[.int .i64 x.kind, .int .i64 x.num, .string x.text, .slice la x.list.length k] 32)).cell? ((⟨V.heap.size, 0, none⟩ : Addr).add j) = some u) := World.news_of_block (heap_alloc_new V _)
        have HX : Hid (x.Ok ∧ ItsAt V (fun g => wr.heap.size ≤ g) (.slice la x.list.length k) x.list) := ⟨hxok, hIT3⟩
        have HBK : Hid (∀ k, (Value.slice a l.length c).ownBlock = some k → w.heap.size ≤ k ∧ k < wr.heap.size) := hbk
        have HVOK := hide hvok
        have hc0 := y2.cell 0 (by simp)
        have hc1 := y2.cell 1 (by simp)
        have hc2 := y2.cell 2 (by simp)
        have hc3 := y2.cell 3 (by simp)
        simp only [itV, List.getElem_toArray, List.getElem_cons_zero, List.getElem_cons_succ] at hc0 hc1 hc2 hc3
        clear HIT x2 hV y2 hB hIT hIT3 hxok hvok hRv hT2 hown hbk hR hT huok HTv
        go_wp2_with (first
          | (refine wpList_store_eq rfl 32 _ _ rfl _ _ rfl rfl HSX.out ?_)
          | (at_builtin; go_must (refine wpList_append_lies _ rfl _ _ 30 rfl w.heap.size 32 i0 (.agg #[.int .i64 0, .int .i64 0, .string ⟨#[]⟩, .slice none 0 0]) 4 56 Tryz.underlying30 hi hz0 hz1 hz2 rfl (by decide) _ _ _ rfl (how.alloc _) ⟨V.heap.size, 0, none⟩ 1 1 [.int .i64 x.kind, .int .i64 x.num, .string x.text, .slice la x.list.length k] rfl rfl HN.out (its_cells1 _ _ _ _ _ _) (by decide) hm1 hm2 (by simp; omega) (V.heap.size + 1) (by simp) ?_)))
        intro g5 cap5 w5 hown5 hgrow hat hlg
        obtain ⟨HO5, HB5⟩ := rd_push2 hbw hVs HBK.out HX.out.1 hus hoks hins HX.out.2 rfl hown5 hgrow hat
        have HR5 : Hid (RdP w0 w5 b g v.1 v.2) := HRV.out.then HB5 HH0.out hblt hglt
        have HT5 : Hid (Two b g w w5) := HTV.out.then HB5 (Nat.le_refl _)
        have HO := hide HO5
        have HM5 := hide (pmark_any w0 b g v.1 v.2 ⟨#[93]⟩ w5 HR5.out HV.out)
        have hle : (l ++ [x]).length = l.length + 1 := by simp
        clear hown5 hgrow hat hlg HO5 HB5 hins hoks how HX HN HRV HTV
        by_cases hm : isM ⟨#[93]⟩ v = true
        · have hj : justB 7 ⟨#[93]⟩ v.1 = true := hm
          rw [hj] at HM5
          have HQ : Hid (R0 = some (l ++ [x], nxtD v.2)) := by
            show _ = _
            rw [HQ2.out, if_pos hm]
            rfl
          have HNO := hide (nxtD_ok v.2 HR5.out.sz)
          clear hm hj HQ2
          go_wp2_with fail
          refine HM5.out.mono ?_
          rintro e W6 ⟨rfl, hR6⟩
          have HR6 := hide hR6
          have HO6 : Hid (ItsOwn W6 w.heap.size (.slice (some ⟨g5, 0, none⟩) (l.length + 1) cap5) (l ++ [x])) := HO.out.two hR6.2 hblt hglt
          clear hR6 HM5 HO
          go_wp2_with fail
          go_ret2
          rw [HQ.out]
          refine ⟨⟨some ⟨g5, 0, none⟩, cap5, by rw [hle]; rfl, by rw [hle]; exact HO6.out.at' (by rw [hle]; omega)⟩, HNO.out, HR6.out.1, HT5.out.trans HR6.out.2⟩
        · have hj : justB 7 ⟨#[93]⟩ v.1 = false := by
            have hm' : ¬ justB 7 ⟨#[93]⟩ v.1 = true := hm
            simpa using hm'
          rw [hj] at HM5
          have HS1 : Hid (stepT false v.1 v.2 = (v.1, v.2)) := rfl
          rw [HS1.out] at HM5
          rw [if_neg hm] at HQ2
          clear hm hj HS1
          go_wp2_with fail
          refine HM5.out.mono ?_
          rintro e W6 ⟨rfl, hR6⟩
          have HR6 := hide hR6
          have HT6 : Hid (Two b g w W6) := HT5.out.trans hR6.2
          have HO6 : Hid (ItsOwn W6 w.heap.size (.slice (some ⟨g5, 0, none⟩) (l.length + 1) cap5) (l ++ [x])) := HO.out.two hR6.2 hblt hglt
          have HM6 := hide (pmark_any w0 b g v.1 v.2 ⟨#[44]⟩ W6 hR6.1 HV.out)
          clear hR6 HM5 HO HR5 HT5
          by_cases hm : isM ⟨#[44]⟩ v = true
          · have hj : justB 7 ⟨#[44]⟩ v.1 = true := hm
            rw [hj] at HM6
            have HQ : Hid (R0 = lcat (l ++ [x]) (loopD (itemD r) n' (nxtD v.2))) := by
              show _ = _
              rw [HQ2.out, if_pos hm, lcat_cons]
            have HNO := hide (nxtD_ok v.2 HR6.out.1.sz)
            have hsr := step_rk v (isM_kind hm)
            have HRK2 : Hid (rk (nxtD v.2) < n' ∧ (l ++ [x]).length + rk (nxtD v.2) ≤ K) := by
              have h1 := HRK.out
              have h2 := hn.out
              have h3 := hlK.out
              show _ ∧ _
              rw [hle]
              omega
            clear hm hj HQ2 hsr hn hlK HRK
            go_wp2_with fail
            refine HM6.out.mono ?_
            rintro e W7 ⟨rfl, hR7⟩
            have HR7 := hide hR7
            have HO7 : Hid (ItsOwn W7 w.heap.size (.slice (some ⟨g5, 0, none⟩) (l.length + 1) cap5) (l ++ [x])) := HO6.out.two hR7.2 hblt hglt
            clear hR7 HM6 HO6
            go_wp2_with fail
            go_roundw
            case rel => exact ⟨l ++ [x], nxtD v.2, some ⟨g5, 0, none⟩, cap5, n', by rw [hle], HQ, HRK2.out.1, HRK2.out.2, by rw [hle]; exact HO7, HNO, HR7.out.1, HT6.out.trans HR7.out.2⟩
            case measure =>
              have := HRK2.out.2
              rw [hle] at this
              simp [lenS]; omega
          · have hj : justB 7 ⟨#[44]⟩ v.1 = false := by
              have hm' : ¬ justB 7 ⟨#[44]⟩ v.1 = true := hm
              simpa using hm'
            rw [hj] at HM6
            have HS1 : Hid (stepT false v.1 v.2 = (v.1, v.2)) := rfl
            rw [HS1.out] at HM6
            have HQ : Hid (R0 = none) := by
              show _ = _
              rw [HQ2.out, if_neg hm]
              rfl
            clear hm hj HS1 HQ2
            go_wp2_with fail
            refine HM6.out.mono ?_
            rintro e W7 ⟨rfl, hR7⟩
            have HR7 := hide hR7
            clear hR7 HM6
            go_wp2_with fail
            go_ret2
            rw [HQ.out]
            exact ⟨rfl, ⟨v, HR7.out.1⟩, HT6.out.trans HR7.out.2⟩
theorem pitem_any (w0 : World) (b g : Nat) (hv : TokEnv w0) : ∀ r, r ≤ 100 → ItemC w0 b g r
  | 0, _ => pitem_step w0 b g 0 hv (by omega) (fun r' e => by cases e)
  | r + 1, h => pitem_step w0 b g (r + 1) hv h (fun r' e => by cases e; exact plist_step w0 b g r hv (pitem_any w0 b g hv r (by omega)))
end Go.Proofs.YtageokjobbjddaaGreatDoor
