import Derived.Test.YtddhjnfcbpookaaDoorPWr7
namespace Go.Proofs.YtddhjnfcbpookaaDoor
open Go.RowKit

theorem cond_kinds' (c : Cd) : condF c = 0 ∨ condF c = 1 ∨ condF c = 3 := by
  unfold condF
  split
  · exact packF_kinds _
  · exact .inr (.inl rfl)
theorem firstN_kinds' : ∀ (l : List Cd), firstN condF l = 0 ∨ firstN condF l = 1 ∨ firstN condF l = 3
  | [] => .inl rfl
  | c :: l => by
    rw [firstN]
    split
    · exact firstN_kinds' l
    · exact cond_kinds' c
theorem qfault_kinds' (q : Qd) : qfaultD q = 0 ∨ qfaultD q = 1 ∨ qfaultD q = 3 := by
  unfold qfaultD
  split
  · split
    · unfold endF
      split
      · exact .inl rfl
      · exact .inr (.inl rfl)
    · exact firstN_kinds' _
  · exact .inr (.inl rfl)
theorem condsL_mono (l : List Cd) : ∀ (n k : Nat), k + n ≤ l.length → (condsL (l.take k)).length ≤ (condsL (l.take (k + n))).length
  | 0, k, _ => Nat.le_refl _
  | n + 1, k, h => by
    have h1 := condsL_mono l n k (by omega)
    have h2 := condsL_take l (k + n) (by omega)
    rw [show k + (n + 1) = k + n + 1 by omega, h2, List.length_append, List.length_append]
    omega
theorem text_end {q : Qd} {k : Nat} (hk : k ≤ q.cs.length) (hd : k = q.cs.length ∨ 65536 < (fromL ++ nameL q.table ++ condsL (q.cs.take k)).length) :
    ((fromL ++ nameL q.table ++ condsL (q.cs.take k) ++ orderL q ++ fallL q ++ limitL q).length ≤ 65536 → fromL ++ nameL q.table ++ condsL (q.cs.take k) ++ orderL q ++ fallL q ++ limitL q = textL q ∧ ¬ 65536 < (textL q).length) ∧
    (65536 < (fromL ++ nameL q.table ++ condsL (q.cs.take k) ++ orderL q ++ fallL q ++ limitL q).length → 65536 < (textL q).length) := by
  by_cases he : k = q.cs.length
  · subst he
    rw [List.take_length]
    exact ⟨fun h => ⟨rfl, by have : (textL q).length ≤ 65536 := h; omega⟩, fun h => h⟩
  · have h1 := hd.resolve_left he
    have h2 := condsL_mono q.cs (q.cs.length - k) k (by omega)
    rw [show k + (q.cs.length - k) = q.cs.length by omega, List.take_length] at h2
    have h3 : (textL q).length = (fromL ++ nameL q.table).length + (condsL q.cs).length + (orderL q).length + (fallL q).length + (limitL q).length := by
      unfold textL
      simp only [List.length_append]
      rfl
    rw [List.length_append] at h1
    refine ⟨fun h => ?_, fun h => ?_⟩
    · simp only [List.length_append] at h h1
      omega
    · omega
set_option maxHeartbeats 8000000 in
set_option maxRecDepth 100000 in
theorem pprint_any (A : Nat → Addr) (q : Qd) (cv : Value) (w : World) (hc : CsAt w anyB cv q.cs) (he : ErrsAt 13 gAll A w) (hsz : cntC q.cs ≤ 16777216) (ht : q.table.size ≤ 140737488355328) (ho : q.order.size ≤ 140737488355328) (hm2 : q.limit ≤ 9223372036854775807) (hp : Lib.TabIs Tryd.prog w "internal/strconv.uint64pow10" .u64 Lib.pow10Tab) :
    Calls Tryd.prog 14 #[.agg (qV q cv)] w fun e w' => e = .returned (.tuple #[.string (printT q), errQ A (printF q)]) ∧ Below w.heap.size w w' := by
  obtain ⟨pt, hpt⟩ : ∃ pt, pt = printT q := ⟨_, rfl⟩
  obtain ⟨pe, hpe⟩ : ∃ pe, pe = errQ A (printF q) := ⟨_, rfl⟩
  rw [← hpt, ← hpe]
  have HPT := hide hpt
  have HPE := hide hpe
  have HTE := hide (fun k hk hd => @text_end q k hk hd)
  have HFP := hide (fun h => @finep_of q h)
  have HQF := hide (fun W (hW : Below w.heap.size w W) => pfault_any (A 0) (A 2) q cv W (hc.keep hW) (he.keep hW).two hsz ht ho)
  have HQK := hide (qfault_kinds' q)
  have HAQ := hide (fun W (hW : Below w.heap.size w W) (hf : FineP q) => papq_any q cv W.heap.size W (Nat.le_refl _) (hc.keep hW).weak hf hsz hm2 (Lib.tabBelow_of_tabIs (Lib.tabBelow_of_tabIs hp W hW)))
  have HER := hide he
  obtain ⟨qf, hqf⟩ : ∃ qf, qf = qfaultD q := ⟨_, rfl⟩
  have HPF : Hid (printF q = if qf = 0 then (if 65536 < (textL q).length then 3 else 0) else qf) := by show _ = _; rw [hqf]; rfl
  rw [← hqf] at HQF HFP HQK
  have hclen := hc.len
  obtain ⟨ca, cc, hcv⟩ := hc.form
  subst hcv
  have HTX : Hid (printF q = 0 → pt = ⟨(textL q).toArray⟩) := fun h => by rw [HPT.out, printT, if_pos h]
  have HTN : Hid (printF q ≠ 0 → pt = ⟨#[]⟩) := fun h => by rw [HPT.out, printT, if_neg h]
  have HFN : Hid (QryP w w.heap.size q = QryP w w.heap.size q) := rfl
  generalize textL q = TX at *
  generalize printF q = PF at *
  obtain ⟨t, l, o, f, m⟩ := q
  simp only [qV] at HQF HAQ ⊢
  have q1 := below_new w (.cells #[.string t, .slice ca l.length cc, .string o, .bool f, .int .i64 m] 31)
  have x1 := RowAt.new w #[.string t, .slice ca l.length cc, .string o, .bool f, .int .i64 m] 31
  obtain ⟨y0, y1, y2, y3, y4⟩ := x1.q5
  obtain ⟨W1, hW1⟩ : ∃ W1, w.alloc (.cells #[.string t, .slice ca l.length cc, .string o, .bool f, .int .i64 m] 31) = W1 := ⟨_, rfl⟩
  have HW1 := hide hW1
  rw [hW1] at q1 x1
  have HX1 := hide x1
  have HB1 := hide q1
  have HF1 := hide (HQF.out W1 q1)
  clear hc he hsz ht ho hm2 hp hpt hpe hqf q1 x1 hW1 HQF HFN HPT
  go_enter Tryd.func14, Tryd.ntmps14
  go_wp2_with fail
  rw [HW1.out] at y0 y1 y2 y3 y4 ⊢
  refine HF1.out.mono ?_
  rintro e w2 ⟨rfl, hb2⟩
  have hb02 := Below.next HB1.out hb2
  clear y0 y1 y2 y3 y4
  obtain ⟨y0, y1, y2, y3, y4⟩ := (HX1.out.below hb2).q5
  by_cases hq0 : qf = 0
  · subst hq0
    have hE0 : errOf (A 0) (A 2) 0 = .nilIface := rfl
    rw [hE0]
    have HAQ2 := hide (HAQ.out w2 hb02 (HFP.out rfl))
    have HB2 := hide hb02
    have HE2 := hide (HER.out.keep hb02)
    rw [if_pos rfl] at HPF
    clear hE0 HAQ HFP HQK HF1 hb2 hb02 HX1
    go_wp2_with fail
    refine HAQ2.out.mono ?_
    rintro e w3 ⟨k, hk, ⟨a, c, rfl, hb, hg⟩, hd⟩
    have HTE2 := hide (HTE.out k hk hd)
    generalize fromL ++ nameL t ++ condsL (l.take k) ++ orderL ⟨t, l, o, f, m⟩ ++ fallL ⟨t, l, o, f, m⟩ ++ limitL ⟨t, l, o, f, m⟩ = T at *
    have HB3 := hide (Below.next HB2.out hg.bel)
    have em : w3.cell? ⟨3, 0, none⟩ = some (.iface 144 (.pointer (some (A 2)))) := (HE2.out.keep hg.bel).two.many
    have HCV := hide (conv_back hb)
    clear hd hg hb HAQ2 y0 y1 y2 y3 y4
    by_cases hl : T.length ≤ 65536
    · have hlI : ¬ (65536 : Int) < (T.length : Int) := by omega
      obtain ⟨h1, h2⟩ := HTE2.out.1 hl
      have h3 : PF = 0 := by rw [HPF.out, if_neg h2]
      have HP1 : Hid (pt = ⟨T.toArray⟩) := by show _ = _; rw [HTX.out h3, h1]
      have HP2 : Hid (pe = .nilIface) := by show _ = _; rw [HPE.out, h3]; rfl
      have hcv := HCV.out
      clear hl h1 h2 h3 HTE2 HCV em HTX HTN HPF HPE
      go_wp2
      go_ret2
      exact ⟨by rw [HP1.out, HP2.out]; rfl, HB3.out⟩
    · have hlI : (65536 : Int) < (T.length : Int) := by omega
      have h2 := HTE2.out.2 (by omega)
      have h3 : PF = 3 := by rw [HPF.out, if_pos h2]
      have HP1 : Hid (pt = ⟨#[]⟩) := HTN.out (by omega)
      have HP2 : Hid (pe = .iface 144 (.pointer (some (A 2)))) := by show _ = _; rw [HPE.out, h3]; rfl
      clear hl h2 h3 HTE2 HCV HTX HTN HPF HPE
      go_upto_region 6 with fail
      go_quiet (fail)
      go_wp2
      go_ret2
      exact ⟨by rw [HP1.out, HP2.out]; rfl, below_drewN' HB3.out _⟩
  · obtain ⟨pp, hpp⟩ := errOf_nz (A 0) (A 2) hq0
    have hqe := errOf_Q A qf HQK.out
    rw [if_neg hq0] at HPF
    have HP1 : Hid (pt = ⟨#[]⟩) := HTN.out (by rw [HPF.out]; exact hq0)
    have HP2 : Hid (pe = .iface 144 (.pointer (some pp))) := by show _ = _; rw [HPE.out, HPF.out, ← hqe, hpp]
    have HEB := hide hb02
    rw [hpp]
    clear hpp hqe hq0 HPF HQK HFP HAQ HF1 hb2 hb02 HX1 y0 y1 y2 y3 y4
    go_wp2
    go_ret2
    exact ⟨by rw [HP1.out, HP2.out]; rfl, HEB.out⟩
end Go.Proofs.YtddhjnfcbpookaaDoor
