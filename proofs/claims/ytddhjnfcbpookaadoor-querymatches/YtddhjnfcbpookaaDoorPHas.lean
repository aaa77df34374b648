import Derived.Test.YtddhjnfcbpookaaDoorPNum
namespace Go.Proofs.YtddhjnfcbpookaaDoor
open Go.RowKit Go.Maps

theorem lost_cond {fs : List Fd} {q : Qd} (k : Nat) (hk : k < q.cs.length) (h : ¬ 0 ≤ fieldI fs (q.cs[k]'hk).field) : lostB fs q = true := by
  unfold lostB
  rw [Bool.or_eq_true, List.any_eq_true]
  exact .inl ⟨_, List.getElem_mem hk, by simpa using h⟩
theorem lost_end {fs : List Fd} {q : Qd} (h : ∀ j (h : j < q.cs.length), 0 ≤ fieldI fs q.cs[j].field) : lostB fs q = (decide (q.order ≠ ⟨#[]⟩) && decide (fieldI fs q.order < 0)) := by
  unfold lostB
  have : q.cs.any (fun c => decide (fieldI fs c.field < 0)) = false := by
    rw [List.any_eq_false]
    intro x hx
    obtain ⟨j, hj, rfl⟩ := List.getElem_of_mem hx
    have := h j hj
    simp; omega
  rw [this, Bool.false_or]
theorem lost_no {fs : List Fd} {q : Qd} (h : lostB fs q = false) : ∀ c ∈ q.cs, 0 ≤ fieldI fs c.field := by
  intro c hc
  unfold lostB at h
  rw [Bool.or_eq_false_iff, List.any_eq_false] at h
  have := h.1 c hc
  simpa using this
set_option maxHeartbeats 4000000 in
set_option maxRecDepth 100000 in
theorem phas_any (tn : ByteArray) (fv iv cv : Value) (fs : List Fd) (q : Qd) (w : World) (hf : FsAt w fv fs) (hn : ∀ f ∈ fs, f.1.size ≤ 140737488355328) (hiv : ∃ a n c, iv = .slice a n c) (hc : CsAt w anyB cv q.cs) (ho : q.order.size ≤ 140737488355328) :
    Calls Tryd.prog 19 #[.agg (tV tn fv iv), .agg (qV q cv)] w fun e w' => e = .returned (.bool (!lostB fs q)) ∧ Below w.heap.size w w' := by
  obtain ⟨r, hr⟩ : ∃ r, r = !lostB fs q := ⟨_, rfl⟩
  rw [← hr]
  have HR := hide hr
  have HLC : Hid (∀ k (hk : k < q.cs.length), ¬ 0 ≤ fieldI fs (q.cs[k]'hk).field → r = false) := fun k hk h => by rw [HR.out, lost_cond k hk h]; rfl
  have HLE : Hid ((∀ j (h : j < q.cs.length), 0 ≤ fieldI fs q.cs[j].field) → r = !(decide (q.order ≠ ⟨#[]⟩) && decide (fieldI fs q.order < 0))) := fun h => by rw [HR.out, lost_end h]
  obtain ⟨t, l, o, f, m⟩ := q
  simp only [qV, tV] at hc ho HLC HLE ⊢
  obtain ⟨ca, cc, hcv⟩ := hc.form
  obtain ⟨fa, fc, hfv⟩ := hf.form
  obtain ⟨ia, im, ic, hiv⟩ := hiv
  subst hcv hfv hiv
  have hlen := hc.len
  have q1 := below_new w (.cells #[.string tn, .slice fa fs.length fc, .slice ia im ic] 25)
  have x1 := RowAt.new w #[.string tn, .slice fa fs.length fc, .slice ia im ic] 25
  have hs1 : (w.alloc (.cells #[.string tn, .slice fa fs.length fc, .slice ia im ic] 25)).heap.size = w.heap.size + 1 := by simp
  generalize hW1 : w.alloc (.cells #[.string tn, .slice fa fs.length fc, .slice ia im ic] 25) = W1 at q1 x1 hs1
  have q2 := below_new W1 (.cells #[.string t, .slice ca l.length cc, .string o, .bool f, .int .i64 m] 31)
  have x2 := RowAt.new W1 #[.string t, .slice ca l.length cc, .string o, .bool f, .int .i64 m] 31
  rw [hs1] at x2
  generalize hW2 : W1.alloc (.cells #[.string t, .slice ca l.length cc, .string o, .bool f, .int .i64 m] 31) = W2 at q2 x2
  have HW : Hid ((w.alloc (.cells #[.string tn, .slice fa fs.length fc, .slice ia im ic] 25)).alloc (.cells #[.string t, .slice ca l.length cc, .string o, .bool f, .int .i64 m] 31) = W2) := by rw [hW1]; exact hW2
  have hb2 := Below.next q1 q2
  have HY := hide x2
  have HC := hide (hc.keep hb2)
  have HB := hide hb2
  have HNM := hide (pnums_any fs (.slice fa fs.length fc) W2 (hf.keep hb2) hn)
  have HKO := hide (keyS o ho)
  have t1 : W2.cell? ⟨w.heap.size, 1, none⟩ = some (.slice fa fs.length fc) := (x1.below q2).cell 1 (by simp)
  rw [← hW2, ← hW1] at t1
  clear hf hc q1 x1 hs1 q2 x2 hb2 hW1 hW2 hr hn ho HR
  go_enter Tryd.func19, Tryd.ntmps19
  go_wp2_with fail
  rw [HW.out] at t1 ⊢
  refine HNM.out.mono ?_
  rintro e w4 ⟨b, rfl, hbs, hnm, hb4⟩
  have HM := hide hnm
  have HY4 := hide (HY.out.below hb4)
  have HC4 := hide (HC.out.keep hb4)
  have HB4 := hide (Below.next HB.out hb4)
  obtain ⟨d0, d1, d2, d3, d4⟩ := HY4.out.q5
  clear hnm hb4 HNM HY HC HB t1 HW hbs
  go_wp2_with fail
  go_loopw [18] (fun v wr => ∃ k : Nat, v = .int .i64 (k : Int) ∧ k ≤ l.length ∧ Hid (∀ j (h : j < l.length), j < k → 0 ≤ fieldI fs l[j].field) ∧ Below w4.heap.size w4 wr) (fun v _ => l.length - (intOf v).toNat)
  case atStart => exact ⟨0, rfl, Nat.zero_le _, fun j _ h => by omega, Below.refl _ _⟩
  case round =>
    obtain ⟨k, rfl, hk, hall, hbl⟩ := hrel
    clear d0 d1 d2 d3 d4
    obtain ⟨d0, d1, d2, d3, d4⟩ := (HY4.out.below hbl).q5
    have HBL := hide hbl
    obtain ⟨D, hown, hnd⟩ := (HM.out.keep hbl).ex
    by_cases hlt : k < l.length
    · have hltI : (k : Int) < (l.length : Int) := by omega
      have e0 : (0 : Int) ≤ (k : Int) := by omega
      obtain ⟨g, off, u, hca, -, hok, s0, s1, s2, s3, s4, s5, hin⟩ := (HC4.out.keep hbl).get k hlt
      have HL := hide (HLC.out k hlt)
      have HAL : Hid (0 ≤ fieldI fs (l[k]'hlt).field → ∀ j (h : j < l.length), j < k + 1 → 0 ≤ fieldI fs l[j].field) := fun h0 j h hj => by
        by_cases e : j = k
        · subst e; exact h0
        · exact hall.out j h (by omega)
      have HJ : Hid (k + 1 ≤ l.length) := by show _ ≤ _; omega
      obtain ⟨x, hx⟩ : ∃ x, x = l[k]'hlt := ⟨_, rfl⟩
      rw [← hx] at s0 s1 s2 s3 s4 hin hok HL HAL
      subst hca
      have HKY := hide (keyS x.field (by have := hok.f; omega))
      obtain ⟨ua, uc, hu⟩ := hin.form
      subst hu
      have qv := below_new wr (.cells #[.string x.field, .int .i64 x.sign, .int .i64 x.item.kind, .int .i64 x.item.num, .string x.item.text, .slice ua x.item.list.length uc] 61)
      have HQV := hide (Below.next hbl qv)
      have HOA := hide (hown.alloc (.cells #[.string x.field, .int .i64 x.sign, .int .i64 x.item.kind, .int .i64 x.item.num, .string x.item.text, .slice ua x.item.list.length uc] 61))
      have HHB := hide (hnd x.field).1
      clear hin hok hx hall hbl qv hown hnd
      by_cases hfi : 0 ≤ fieldI fs x.field
      · rw [decide_eq_true hfi] at HHB
        have HA := hide (HAL.out hfi)
        clear hfi HAL HL
        go_wp2_with (first
          | (at_lookup; refine wpList_lookup_own_ok_int _ rfl _ _ 89 rfl 9 3 .i64 skeyed Tryd.underlying89 Tryd.underlying3 (zero3 _) b fs.length D rfl HOA.out _ _ rfl HKY.out ?_; intro c hat hwc; rw [HHB.out]; clear hat hwc)
          | fail)
        go_roundw
        case rel => exact ⟨k + 1, by go_num, HJ.out, HA.out, HQV.out⟩
        case measure => simp [intOf]; omega
      · rw [decide_eq_false hfi] at HHB
        have HE := hide (HL.out (by omega))
        have HEB := hide (Below.next HB4.out HQV.out)
        clear hfi HAL HL
        go_wp2_with (first
          | (at_lookup; refine wpList_lookup_own_ok_int _ rfl _ _ 89 rfl 9 3 .i64 skeyed Tryd.underlying89 Tryd.underlying3 (zero3 _) b fs.length D rfl HOA.out _ _ rfl HKY.out ?_; intro c hat hwc; rw [HHB.out]; clear hat hwc)
          | fail)
        go_ret
        exact ⟨by rw [HE.out]; rfl, HEB.out⟩
    · have hltI : ¬ (k : Int) < (l.length : Int) := by omega
      have HE := hide (HLE.out fun j h => hall.out j h (by omega))
      have HEB := hide (Below.next HB4.out hbl)
      have HHB := hide (hnd o).1
      have HOA := hide hown
      clear hall hlt hbl hown hnd HLC HLE HC4 HY4 HBL HB4 HM
      by_cases hfi : 0 ≤ fieldI fs o
      · rw [decide_eq_true hfi] at HHB
        have HF : Hid (r = true) := by
          show _ = _
          rw [HE.out]
          have : ¬ fieldI fs o < 0 := by omega
          simp [this]
        clear hfi HE
        go_wp2_with (first
          | (at_lookup; refine wpList_lookup_own_ok_int _ rfl _ _ 89 rfl 9 3 .i64 skeyed Tryd.underlying89 Tryd.underlying3 (zero3 _) b fs.length D rfl HOA.out _ _ rfl HKO.out ?_; intro c hat hwc; rw [HHB.out]; clear hat hwc)
          | fail)
        go_ret
        exact ⟨by rw [HF.out]; rfl, HEB.out⟩
      · rw [decide_eq_false hfi] at HHB
        by_cases hoe : o = ⟨#[]⟩
        · have HF : Hid (r = true) := by
            show _ = _
            rw [HE.out]
            simp [hoe]
          subst hoe
          have hq : ((⟨#[]⟩ : ByteArray).toList == (⟨#[]⟩ : ByteArray).toList) = true := str_eq _
          clear hfi HE
          go_wp2_with (first
            | (at_lookup; refine wpList_lookup_own_ok_int _ rfl _ _ 89 rfl 9 3 .i64 skeyed Tryd.underlying89 Tryd.underlying3 (zero3 _) b fs.length D rfl HOA.out _ _ rfl HKO.out ?_; intro c hat hwc; rw [HHB.out]; clear hat hwc)
            | fail)
          go_ret
          exact ⟨by rw [HF.out]; rfl, HEB.out⟩
        · have HF : Hid (r = false) := by
            show _ = _
            rw [HE.out]
            simp [hoe]
            omega
          obtain ⟨hq, hq2⟩ := ne_nil hoe
          clear hfi HE hoe
          go_wp2_with (first
            | (at_lookup; refine wpList_lookup_own_ok_int _ rfl _ _ 89 rfl 9 3 .i64 skeyed Tryd.underlying89 Tryd.underlying3 (zero3 _) b fs.length D rfl HOA.out _ _ rfl HKO.out ?_; intro c hat hwc; rw [HHB.out]; clear hat hwc)
            | fail)
          go_ret
          exact ⟨by rw [HF.out]; rfl, HEB.out⟩
end Go.Proofs.YtddhjnfcbpookaaDoor
