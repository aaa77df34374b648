import Derived.Test.YtageokjobbjddaaGreatDoorPWr7
import Derived.Test.YtageokjobbjddaaGreatDoorPQry
import Derived.Test.YtageokjobbjddaaGreatDoorGRH
import Derived.Test.YtageokjobbjddaaGreatDoorGRF
namespace Go.Proofs.YtageokjobbjddaaGreatDoor
open Go.RowKit

theorem cond_kinds' (c : Cd) : condF c = 0 ∨ condF c = 1 ∨ condF c = 3 := by
  unfold condF
  split
  · exact packF_kinds _
  · exact .inr (.inl rfl)
theorem firstN_kinds' : ∀ (l : List Cd), firstN condF l = 0 ∨ firstN condF l = 1 ∨ firstN condF l = 3
  | [] => .inl rfl
  | c :: l => by
    rw [firstN]
    split
    · exact firstN_kinds' l
    · exact cond_kinds' c
theorem qfault_kinds' (q : Qd) : qfaultD q = 0 ∨ qfaultD q = 1 ∨ qfaultD q = 3 := by
  unfold qfaultD
  split
  · split
    · unfold endF
      split
      · exact .inl rfl
      · exact .inr (.inl rfl)
    · exact firstN_kinds' _
  · exact .inr (.inl rfl)
theorem condsL_mono (l : List Cd) : ∀ (n k : Nat), k + n ≤ l.length → (condsL (l.take k)).length ≤ (condsL (l.take (k + n))).length
  | 0, k, _ => Nat.le_refl _
  | n + 1, k, h => by
    have h1 := condsL_mono l n k (by omega)
    have h2 := condsL_take l (k + n) (by omega)
    rw [show k + (n + 1) = k + n + 1 by omega, h2, List.length_append, List.length_append]
    omega
theorem text_end {q : Qd} {k : Nat} (hk : k ≤ q.cs.length) (hd : k = q.cs.length ∨ 65536 < (fromL ++ nameL q.table ++ condsL (q.cs.take k)).length) :
    ((fromL ++ nameL q.table ++ condsL (q.cs.take k) ++ orderL q ++ fallL q ++ limitL q).length ≤ 65536 → fromL ++ nameL q.table ++ condsL (q.cs.take k) ++ orderL q ++ fallL q ++ limitL q = textL q ∧ ¬ 65536 < (textL q).length) ∧
    (65536 < (fromL ++ nameL q.table ++ condsL (q.cs.take k) ++ orderL q ++ fallL q ++ limitL q).length → 65536 < (textL q).length) := by
  by_cases he : k = q.cs.length
  · subst he
    rw [List.take_length]
    exact ⟨fun h => ⟨rfl, by have : (textL q).length ≤ 65536 := h; omega⟩, fun h => h⟩
  · have h1 := hd.resolve_left he
    have h2 := condsL_mono q.cs (q.cs.length - k) k (by omega)
    rw [show k + (q.cs.length - k) = q.cs.length by omega, List.take_length] at h2
    have h3 : (textL q).length = (fromL ++ nameL q.table).length + (condsL q.cs).length + (orderL q).length + (fallL q).length + (limitL q).length := by
      unfold textL
      simp only [List.length_append]
      rfl
    rw [List.length_append] at h1
    refine ⟨fun h => ?_, fun h => ?_⟩
    · simp only [List.length_append] at h h1
      omega
    · omega
theorem ErrsAt.three {A : Nat → Addr} {w : World} (h : ErrsAt 13 gAll A w) : ErrsAt 3 gAll A w := ⟨fun i hi => h.1 i (by omega), fun i j hi hj => h.2 i j (by omega) (by omega)⟩
theorem ErrsAt.two3 {A : Nat → Addr} {w : World} (h : ErrsAt 3 gAll A w) : Errs2 (A 0) (A 2) w := ⟨(h.1 0 (by decide)).1, (h.1 2 (by decide)).1⟩
set_option maxHeartbeats 8000000 in
set_option maxRecDepth 100000 in
theorem pprint_any (A : Nat → Addr) (q : Qd) (cv : Value) (w : World) (hc : CsAt w anyB cv q.cs) (he : ErrsAt 3 gAll A w) (hsz : cntC q.cs ≤ 16777216) (ht : q.table.size ≤ 140737488355328) (ho : q.order.size ≤ 140737488355328) (hm2 : q.limit ≤ 9223372036854775807) (hp : Lib.TabIs Tryz.prog w "internal/strconv.uint64pow10" .u64 Lib.pow10Tab) :
    Calls Tryz.prog 6 #[.agg (qV q cv)] w fun e w' => e = .returned (.tuple #[.string (printT q), errQ A (printF q)]) ∧ Below w.heap.size w w' := by
  obtain ⟨pt, hpt⟩ : ∃ pt, pt = printT q := ⟨_, rfl⟩
  obtain ⟨pe, hpe⟩ : ∃ pe, pe = errQ A (printF q) := ⟨_, rfl⟩
  rw [← hpt, ← hpe]
  have HPT := hide hpt
  have HPE := hide hpe
  have HTE := hide (fun k hk hd => @text_end q k hk hd)
  have HFP := hide (fun h => @finep_of q h)
  have HQF := hide (fun W (hW : Below w.heap.size w W) => pfault_any (A 0) (A 2) q cv W (hc.keep hW) (he.keep hW).two3 hsz ht ho)
  have HQK := hide (qfault_kinds' q)
  have HAQ := hide (fun W (hW : Below w.heap.size w W) (hf : FineP q) => papq_any q cv W.heap.size W (Nat.le_refl _) (hc.keep hW).weak hf hsz hm2 (Lib.tabBelow_of_tabIs (Lib.tabBelow_of_tabIs hp W hW)))
  have HER := hide he
  obtain ⟨qf, hqf⟩ : ∃ qf, qf = qfaultD q := ⟨_, rfl⟩
  have HPF : Hid (printF q = if qf = 0 then (if 65536 < (textL q).length then 3 else 0) else qf) := by show _ = _; rw [hqf]; rfl
  rw [← hqf] at HQF HFP HQK
  have hclen := hc.len
  obtain ⟨ca, cc, hcv⟩ := hc.form
  subst hcv
  have HTX : Hid (printF q = 0 → pt = ⟨(textL q).toArray⟩) := fun h => by rw [HPT.out, printT, if_pos h]
  have HTN : Hid (printF q ≠ 0 → pt = ⟨#[]⟩) := fun h => by rw [HPT.out, printT, if_neg h]
  have HFN : Hid (QryP w w.heap.size q = QryP w w.heap.size q) := rfl
  generalize textL q = TX at *
  generalize printF q = PF at *
  obtain ⟨t, l, o, f, m⟩ := q
  simp only [qV] at HQF HAQ ⊢
  have q1 := below_new w (.cells #[.string t, .slice ca l.length cc, .string o, .bool f, .int .i64 m] 24)
  have x1 := RowAt.new w #[.string t, .slice ca l.length cc, .string o, .bool f, .int .i64 m] 24
  obtain ⟨y0, y1, y2, y3, y4⟩ := x1.q5
  obtain ⟨W1, hW1⟩ : ∃ W1, w.alloc (.cells #[.string t, .slice ca l.length cc, .string o, .bool f, .int .i64 m] 24) = W1 := ⟨_, rfl⟩
  have HW1 := hide hW1
  rw [hW1] at q1 x1
  have HX1 := hide x1
  have HB1 := hide q1
  have HF1 := hide (HQF.out W1 q1)
  clear hc he hsz ht ho hm2 hp hpt hpe hqf q1 x1 hW1 HQF HFN HPT
  go_enter Tryz.func6, Tryz.ntmps6
  go_wp2_with fail
  rw [HW1.out] at y0 y1 y2 y3 y4 ⊢
  refine HF1.out.mono ?_
  rintro e w2 ⟨rfl, hb2⟩
  have hb02 := Below.next HB1.out hb2
  clear y0 y1 y2 y3 y4
  obtain ⟨y0, y1, y2, y3, y4⟩ := (HX1.out.below hb2).q5
  by_cases hq0 : qf = 0
  · subst hq0
    have hE0 : errOf (A 0) (A 2) 0 = .nilIface := rfl
    rw [hE0]
    have HAQ2 := hide (HAQ.out w2 hb02 (HFP.out rfl))
    have HB2 := hide hb02
    have HE2 := hide (HER.out.keep hb02)
    rw [if_pos rfl] at HPF
    clear hE0 HAQ HFP HQK HF1 hb2 hb02 HX1
    go_wp2_with fail
    refine HAQ2.out.mono ?_
    rintro e w3 ⟨k, hk, ⟨a, c, rfl, hb, hg⟩, hd⟩
    have HTE2 := hide (HTE.out k hk hd)
    generalize fromL ++ nameL t ++ condsL (l.take k) ++ orderL ⟨t, l, o, f, m⟩ ++ fallL ⟨t, l, o, f, m⟩ ++ limitL ⟨t, l, o, f, m⟩ = T at *
    have HB3 := hide (Below.next HB2.out hg.bel)
    have em : w3.cell? ⟨0, 0, none⟩ = some (.iface 166 (.pointer (some (A 2)))) := (HE2.out.keep hg.bel).two3.many
    have HCV := hide (conv_back hb)
    clear hd hg hb HAQ2 y0 y1 y2 y3 y4
    by_cases hl : T.length ≤ 65536
    · have hlI : ¬ (65536 : Int) < (T.length : Int) := by omega
      obtain ⟨h1, h2⟩ := HTE2.out.1 hl
      have h3 : PF = 0 := by rw [HPF.out, if_neg h2]
      have HP1 : Hid (pt = ⟨T.toArray⟩) := by show _ = _; rw [HTX.out h3, h1]
      have HP2 : Hid (pe = .nilIface) := by show _ = _; rw [HPE.out, h3]; rfl
      have hcv := HCV.out
      clear hl h1 h2 h3 HTE2 HCV em HTX HTN HPF HPE
      go_wp2
      go_ret2
      exact ⟨by rw [HP1.out, HP2.out]; rfl, HB3.out⟩
    · have hlI : (65536 : Int) < (T.length : Int) := by omega
      have h2 := HTE2.out.2 (by omega)
      have h3 : PF = 3 := by rw [HPF.out, if_pos h2]
      have HP1 : Hid (pt = ⟨#[]⟩) := HTN.out (by omega)
      have HP2 : Hid (pe = .iface 166 (.pointer (some (A 2)))) := by show _ = _; rw [HPE.out, h3]; rfl
      clear hl h2 h3 HTE2 HCV HTX HTN HPF HPE
      go_upto_region 6 with fail
      go_quiet (fail)
      go_wp2
      go_ret2
      exact ⟨by rw [HP1.out, HP2.out]; rfl, below_drewN' HB3.out _⟩
  · obtain ⟨pp, hpp⟩ := errOf_nz (A 0) (A 2) hq0
    have hqe := errOf_Q A qf HQK.out
    rw [if_neg hq0] at HPF
    have HP1 : Hid (pt = ⟨#[]⟩) := HTN.out (by rw [HPF.out]; exact hq0)
    have HP2 : Hid (pe = .iface 166 (.pointer (some pp))) := by show _ = _; rw [HPE.out, HPF.out, ← hqe, hpp]
    have HEB := hide hb02
    rw [hpp]
    clear hpp hqe hq0 HPF HQK HFP HAQ HF1 hb2 hb02 HX1 y0 y1 y2 y3 y4
    go_wp2
    go_ret2
    exact ⟨by rw [HP1.out, HP2.out]; rfl, HEB.out⟩
end Go.Proofs.YtageokjobbjddaaGreatDoor

namespace Go.Proofs.YtageokjobbjddaaGreatDoor
open Go.RowKit

/-! Parse. -/
structure QFit (q : Qd) : Prop where
  cnt : cntC q.cs ≤ 16777216
  t : q.table.size ≤ 140737488351232
  o : q.order.size ≤ 140737488351232
  m1 : 0 ≤ q.limit
  m2 : q.limit ≤ 9223372036854775807
theorem whereD_cost (u : St) (l : List Cd) (v : St) (h : whereD u = some (l, v)) : cntC l + wt v ≤ wt u := by
  unfold whereD at h
  split at h
  · rename_i hj
    have h1 := conds_cost _ _ _ _ h
    have hk := just_kind hj
    have h2 := step_wt u (by omega)
    unfold Cost at h1
    omega
  · cases h; simp [cntC]
theorem query_fit (s : ByteArray) (q : Qd) (hs : s.size ≤ 1000000) (h : queryD (nxtD s) = some q) : QFit q := by
  have hw := nxt_wt s
  unfold queryD at h
  split at h
  · rename_i hj
    split at h
    · have s1 : (nxtD s).2.size ≤ 1000000 := Nat.le_trans (nxtD_le _) hs
      have k1 := nxtD_ok (nxtD s).2 s1
      have hk := just_kind hj
      have w1 := step_wt (nxtD s) (by omega)
      obtain ⟨u1, hu1⟩ : ∃ u1, u1 = nxtD (nxtD s).2 := ⟨_, rfl⟩
      rw [← hu1] at h k1 w1
      rename_i hk3
      rw [← hu1] at hk3
      have w2 := step_wt u1 (by omega)
      unfold restD at h
      cases hw : whereD (nxtD u1.2) with
      | none => rw [hw] at h; cases h
      | some p =>
        obtain ⟨cs, v⟩ := p
        rw [hw] at h
        simp only at h
        have w3 := whereD_cost _ _ _ hw
        have hv2 : 3 * v.2.size ≤ wt v := by unfold wt; omega
        cases ho : orderD v with
        | none => rw [ho] at h; cases h
        | some p =>
          obtain ⟨⟨o, f⟩, z⟩ := p
          rw [ho] at h
          simp only at h
          have hos : o.size ≤ 140737488351232 := by
            unfold orderD at ho
            split at ho
            · split at ho
              · cases ho
                unfold ordD
                split
                · split
                  · exact (nxtD_ok _ (Nat.le_trans (nxtD_le _) (by omega))).t
                  · exact Nat.zero_le _
                · exact Nat.zero_le _
              · cases ho
            · cases ho; exact Nat.zero_le _
          have hzs : z.2.size ≤ 1000000 := by
            unfold orderD at ho
            split at ho
            · split at ho
              · cases ho
                have a1 := nxtD_le v.2
                have a2 := nxtD_le (nxtD v.2).2
                have a3 := nxtD_le (nxtD (nxtD v.2).2).2
                unfold ordD
                split
                · split
                  · unfold stepT
                    split
                    · have a4 := nxtD_le (nxtD (nxtD (nxtD v.2).2).2).2
                      simp only
                      omega
                    · simp only; omega
                  · simp only; omega
                · simp only; omega
              · cases ho
            · cases ho; omega
          cases hl : limitD z with
          | none => rw [hl] at h; cases h
          | some p =>
            obtain ⟨m, y⟩ := p
            rw [hl] at h
            simp only at h
            have hm : 0 ≤ m ∧ m ≤ 9223372036854775807 := by
              unfold limitD at hl
              split at hl
              · split at hl
                · rename_i hlb
                  cases hl
                  unfold limB at hlb
                  simp only [Bool.and_eq_true, decide_eq_true_eq] at hlb
                  have htk : takeT 4 (nxtD z.2).1 = (nxtD z.2).1 := by simp [takeT, hlb.1]
                  rw [htk] at hlb
                  exact ⟨by omega, (nxtD_ok _ hzs).n2⟩
                · cases hl
              · cases hl; omega
            split at h
            · cases h
              exact ⟨by show cntC cs ≤ _; omega, k1.t, hos, hm.1, hm.2⟩
            · cases h
    · cases h
  · cases h
def parD (s : ByteArray) : Option Qd := if 65536 < s.size then none else match queryD (nxtD s) with | none => none | some q => if qfaultD q = 0 then some q else none
def parF (s : ByteArray) : Nat := if 65536 < s.size then 3 else 2
abbrev qd0 : Qd := ⟨⟨#[]⟩, [], ⟨#[]⟩, false, 0⟩
/-- What Parse answers. -/
def ParR (A : Nat → Addr) (w : World) (f : Nat) (o : Option Qd) (e : Ending) (w' : World) : Prop :=
  (match o with
  | none => e = .returned (.tuple #[.agg (qV qd0 (.slice none 0 0)), errQ A f])
  | some q => ∃ la k, e = .returned (.tuple #[.agg (qV q (.slice la q.cs.length k)), .nilIface]) ∧ CsAt w' (fun j => w.heap.size ≤ j) (.slice la q.cs.length k) q.cs) ∧ Below w.heap.size w w'
set_option maxHeartbeats 4000000 in
set_option maxRecDepth 100000 in
theorem ptokens_any (s : ByteArray) (w : World) :
    Calls Tryz.prog 29 #[.string s] w fun e w' => e = .returned (nextV w.heap.size) ∧ RowAt w' w.heap.size #[.string s] 9 ∧ Below w.heap.size w w' := by
  go_enter Tryz.func29, Tryz.ntmps29
  go_wp2_with fail
  go_ret
  exact ⟨rfl, RowAt.new w _ 9, below_new w _⟩
set_option maxHeartbeats 4000000 in
set_option maxRecDepth 100000 in
theorem pnewrd_any (s : ByteArray) (w : World) (hs : s.size ≤ 1000000) (hv : TokEnv w) :
    Calls Tryz.prog 17 #[.string s] w fun e w' => ∃ b g, e = .returned (.pointer (some ⟨b, 0, none⟩)) ∧ RdP w w' b g (nxtD s).1 (nxtD s).2 := by
  have HT := hide (ptokens_any s w)
  have HV := hide hv
  clear hv
  go_enter Tryz.func17, Tryz.ntmps17
  go_wp2_with fail
  refine HT.out.mono ?_
  rintro e W1 ⟨rfl, hr, hb⟩
  have q2 := below_new W1 (.cells (rdV w.heap.size pt0) 69)
  have x2 := RowAt.new W1 (rdV w.heap.size pt0) 69
  unfold rdV pt0 nextV at q2 x2
  simp only at q2 x2
  obtain ⟨W2, hW2⟩ : ∃ W2, W1.alloc (.cells #[.func (.func 44) #[] #[.pointer (some ⟨w.heap.size, 0, none⟩)], .int .i64 0, .string ⟨#[]⟩, .int .i64 0] 69) = W2 := ⟨_, rfl⟩
  rw [hW2] at q2 x2
  have hlt := hr.lt
  have hR : RdP w W2 W1.heap.size w.heap.size pt0 s := ⟨Below.next hb q2, x2, hr.below q2, hb.size, Nat.le_refl _, by omega, hs⟩
  have HG := hide (pgoon_any w W1.heap.size w.heap.size pt0 s W2 hR HV.out)
  have HW := hide hW2
  clear hr hb q2 x2 hW2 hR HT
  go_wp2_with fail
  rw [HW.out]
  refine HG.out.mono ?_
  rintro e W3 ⟨rfl, hR3, hT3⟩
  have HR3 := hide hR3
  clear hR3 hT3 HG
  go_wp2_with fail
  go_ret
  exact ⟨_, _, rfl, HR3.out⟩
end Go.Proofs.YtageokjobbjddaaGreatDoor

namespace Go.Proofs.YtageokjobbjddaaGreatDoor
open Go.RowKit

/-! All tokens of a text. -/
theorem qnm_len : ∀ (l : List UInt8) (q : List UInt8 × Nat), qnm l = some q → q.2 ≤ l.length
  | [], q, h => by simp [qnm] at h
  | [c], q, h => by
    rw [qnm] at h
    split at h
    · cases h
    split at h
    · cases h; simp
    · cases h
  | c :: d :: r, q, h => by
    rw [qnm] at h
    split at h
    · cases h
    split at h
    · split at h
      · obtain ⟨q', hq', rfl⟩ := Option.map_eq_some_iff.1 h
        have := qnm_len r q' hq'
        simp only [List.length_cons]; omega
      · cases h; simp
    · obtain ⟨q', hq', rfl⟩ := Option.map_eq_some_iff.1 h
      have := qnm_len (d :: r) q' hq'
      simp only [List.length_cons] at this ⊢; omega
theorem qtx_len (m : Nat) : ∀ (l : List UInt8) (q : List UInt8 × Nat), l.length ≤ m → qtx l = some q → q.2 ≤ l.length := by
  induction m with
  | zero =>
    intro l q hl h
    have e := List.length_eq_zero_iff.1 (Nat.le_zero.1 hl)
    subst e
    rw [qtx] at h; cases h
  | succ m ih =>
    intro l q hl h
    cases l with
    | nil => rw [qtx] at h; cases h
    | cons c r =>
      have hle := escD_le (c :: r)
      rw [qtx] at h
      simp only [List.length_cons] at hl hle ⊢
      split at h
      · cases h; simp
      split at h
      · cases h
      split at h
      · split at h
        · cases h
        · rename_i h0
          obtain ⟨q', hq', rfl⟩ := Option.map_eq_some_iff.1 h
          have := ih _ q' (by rw [List.length_drop, List.length_cons]; omega) hq'
          rw [List.length_drop, List.length_cons] at this
          simp only; omega
      · obtain ⟨q', hq', rfl⟩ := Option.map_eq_some_iff.1 h
        have := ih r q' (by omega) hq'
        simp only; omega
theorem qnmR_len (l : List UInt8) : (qnmR l).2 ≤ l.length + 1 := by
  unfold qnmR
  split
  · simp
  · rename_i p h
    have := qnm_len l p h
    simp only; omega
theorem qtxR_len (l : List UInt8) : (qtxR l).2 ≤ l.length + 1 := by
  unfold qtxR
  split
  · simp
  · rename_i p h
    have := qtx_len _ l p (Nat.le_refl _) h
    simp only; omega
theorem oneD_len (l : List UInt8) : (oneD l).2 ≤ l.length := by
  cases l with
  | nil => simp [oneD]
  | cons c r =>
    unfold oneD
    simp only
    split
    · exact wfrom_le _ _
    split
    · exact qnmR_len r
    split
    · exact qtxR_len r
    split
    · split
      · exact numLen_le (c :: r)
      · simp
    · exact sgnLen_le (c :: r)
def toksD : List UInt8 → Option (List Tk)
  | [] => some []
  | c :: r => if c = 32 then toksD r else if _h : (oneD (c :: r)).2 = 0 then none else (toksD ((c :: r).drop (oneD (c :: r)).2)).map fun l => (oneD (c :: r)).1 :: l
termination_by l => l.length
decreasing_by
  · simp
  · rw [List.length_drop, List.length_cons]; omega
def tcells (l : List Tk) : List Value := l.flatMap fun t => [.int .i64 t.kind, .int .i64 t.num, .string t.text]
theorem tcells_snoc (l : List Tk) (t : Tk) : tcells (l ++ [t]) = tcells l ++ [.int .i64 t.kind, .int .i64 t.num, .string t.text] := by simp [tcells]
def ocat (l : List Tk) (o : Option (List Tk)) : Option (List Tk) := o.map fun m => l ++ m
theorem ocat_cons (l : List Tk) (t : Tk) (o : Option (List Tk)) : ocat l (o.map fun m => t :: m) = ocat (l ++ [t]) o := by
  cases o with
  | none => rfl
  | some m => simp [ocat]
end Go.Proofs.YtageokjobbjddaaGreatDoor

namespace Go.Proofs.YtageokjobbjddaaGreatDoor
open Go.RowKit

/-! What was written is read again: texts, quoted names, words (data alone). -/
theorem hex_back : ∀ n : Fin 16, hexI (hexC n.1) = (n.1 : Int) := by decide
theorem escX_back (b : UInt8) (r : List UInt8) : escX (hexC (b.toNat / 16) :: hexC (b.toNat % 16) :: r) = (b, 4) := by
  have hb := b.toNat_lt
  have h1 := hex_back ⟨b.toNat / 16, by omega⟩
  have h2 := hex_back ⟨b.toNat % 16, by omega⟩
  simp only at h1 h2
  rw [escX, h1, h2, if_neg (by omega)]
  congr 1
  apply UInt8.toNat_inj.1
  rw [UInt8.toNat_ofNat']
  omega
theorem qtx_byte (b : UInt8) (r : List UInt8) : qtx (quoB b ++ r) = (qtx r).map fun p => (b :: p.1, p.2 + (quoB b).length) := by
  unfold quoB
  by_cases h1 : b.toNat < 32 ∨ 126 < b.toNat
  · rw [if_pos h1]
    have he : escD (92 :: 120 :: hexC (b.toNat / 16) :: hexC (b.toNat % 16) :: r) = (b, 4) := by
      rw [escD, if_neg (by decide), if_pos rfl, escX_back]
    show qtx (92 :: 120 :: hexC (b.toNat / 16) :: hexC (b.toNat % 16) :: r) = _
    rw [qtx, if_neg (by decide), if_neg (by decide), if_pos rfl, he, dif_neg (by simp)]
    rfl
  · rw [if_neg h1]
    by_cases h2 : b = 34 ∨ b = 92
    · rw [if_pos h2]
      have he : escD (92 :: b :: r) = (b, 2) := by rw [escD, if_pos h2]
      show qtx (92 :: b :: r) = _
      rw [qtx, if_neg (by decide), if_neg (by decide), if_pos rfl, he, dif_neg (by simp)]
      rfl
    · rw [if_neg h2]
      show qtx (b :: r) = _
      rw [qtx, if_neg (fun e => h2 (.inl e)), if_neg h1, if_neg (fun e => h2 (.inr e))]
      rfl
theorem qtx_back (t r : List UInt8) : qtx (quoL t ++ 34 :: r) = some (t, (quoL t).length + 1) := by
  induction t with
  | nil =>
    show qtx (34 :: r) = _
    rw [qtx, if_pos rfl]; rfl
  | cons b t ih =>
    have e : quoL (b :: t) = quoB b ++ quoL t := rfl
    rw [e, List.append_assoc, qtx_byte, ih]
    simp only [Option.map_some, List.length_append]
    congr 2; omega
theorem qnm_back (t r : List UInt8) (ht : ∀ c ∈ t, ¬ (c.toNat < 33 ∨ 126 < c.toNat)) (hr : r.head? ≠ some 96) : qnm (qescL t ++ 96 :: r) = some (t, (qescL t).length + 1) := by
  induction t with
  | nil =>
    show qnm (96 :: r) = _
    rw [qnm_end r hr]; rfl
  | cons b t ih =>
    have e : qescL (b :: t) = (if b = 96 then [96, 96] else [b]) ++ qescL t := rfl
    have ih := ih fun c hc => ht c (by simp [hc])
    by_cases hb : b = 96
    · subst hb
      rw [e, if_pos rfl]
      show qnm (96 :: 96 :: (qescL t ++ 96 :: r)) = _
      rw [qnm_two, ih]
      simp only [Option.map_some, List.length_append, List.length_cons, List.length_nil]
      congr 2; omega
    · rw [e, if_neg hb]
      show qnm (b :: (qescL t ++ 96 :: r)) = _
      rw [qnm_plain _ (ht b (by simp)) hb, ih]
      simp only [Option.map_some, List.length_append, List.length_cons, List.length_nil]
      congr 2; omega
theorem wfrom_back : ∀ (z : Bool) (t r : List UInt8), wfrom z t = t.length → wfrom false r = 0 → (t = [] → wfrom z r = 0) → wfrom z (t ++ r) = t.length
  | z, [], r, _, _, h0 => h0 rfl
  | z, c :: t, r, h, hr, _ => by
    rw [wfrom] at h
    split at h
    · rename_i hc
      have h' : wfrom false t = t.length := by simpa using h
      show wfrom z (c :: (t ++ r)) = _
      rw [wfrom, if_pos hc, wfrom_back false t r h' hr (fun _ => hr)]
      rfl
    · simp at h
end Go.Proofs.YtageokjobbjddaaGreatDoor

namespace Go.Proofs.YtageokjobbjddaaGreatDoor
open Go.RowKit

/-! The tokens of what was written (data alone). -/
theorem toksD_blank (r : List UInt8) : toksD (32 :: r) = toksD r := by rw [toksD, if_pos rfl]
theorem toksD_nil : toksD [] = some [] := by rw [toksD]
/-- A chunk that is one token's. -/
theorem toksD_step {x : List UInt8} {t : Tk} (r : List UInt8) (hx : x.head? ≠ some 32) (h0 : x ≠ []) (h : oneD (x ++ r) = (t, x.length)) : toksD (x ++ r) = (toksD r).map fun l => t :: l := by
  cases x with
  | nil => exact absurd rfl h0
  | cons c x =>
    have hc : c ≠ 32 := fun e => hx (by rw [e]; rfl)
    have h' : oneD (c :: (x ++ r)) = (t, (c :: x).length) := h
    show toksD (c :: (x ++ r)) = _
    rw [toksD, if_neg hc, h', dif_neg (by simp)]
    have e : (c :: (x ++ r)).drop (t, (c :: x).length).2 = r := by
      show ((c :: x) ++ r).drop (c :: x).length = r
      exact List.drop_left
    rw [e]
theorem one_text (t r : List UInt8) : oneD (34 :: (quoL t ++ 34 :: r)) = (⟨4, 0, ⟨t.toArray⟩⟩, (quoL t).length + 2) := by
  unfold oneD
  simp only
  rw [if_neg (by decide), if_neg (by decide), if_pos trivial, qtxR, qtx_back]
theorem one_qname (t r : List UInt8) (ht : ∀ c ∈ t, ¬ (c.toNat < 33 ∨ 126 < c.toNat)) (hr : r.head? ≠ some 96) : oneD (96 :: (qescL t ++ 96 :: r)) = (⟨2, 0, ⟨t.toArray⟩⟩, (qescL t).length + 2) := by
  unfold oneD
  simp only
  rw [if_neg (by decide), if_pos trivial, qnmR, qnm_back t r ht hr]
theorem one_word (t r : List UInt8) (h0 : t ≠ []) (hw : wfrom true t = t.length) (hr : wfrom false r = 0) : oneD (t ++ r) = (⟨1, 0, ⟨t.toArray⟩⟩, t.length) := by
  have hb := wfrom_back true t r hw hr (fun e => absurd e h0)
  cases t with
  | nil => exact absurd rfl h0
  | cons c t =>
    have hc : letterB c = true := by
      rw [wfrom] at hw
      split at hw
      · rename_i h
        simpa using h
      · simp at hw
    have hb' : wfrom true (c :: (t ++ r)) = (c :: t).length := hb
    show oneD (c :: (t ++ r)) = _
    unfold oneD
    simp only
    rw [if_pos hc, hb']
    have e : (c :: (t ++ r)).take (c :: t).length = c :: t := by
      show ((c :: t) ++ r).take (c :: t).length = c :: t
      exact List.take_left
    rw [e]
theorem toks_text (t r : List UInt8) : toksD (34 :: (quoL t ++ [34]) ++ r) = (toksD r).map fun l => ⟨4, 0, ⟨t.toArray⟩⟩ :: l := by
  refine toksD_step r (by simp) (by simp) ?_
  have e : (34 :: (quoL t ++ [34])) ++ r = 34 :: (quoL t ++ 34 :: r) := by simp
  rw [e, one_text]
  simp
theorem toks_qname (t r : List UInt8) (ht : ∀ c ∈ t, ¬ (c.toNat < 33 ∨ 126 < c.toNat)) (hr : r.head? ≠ some 96) : toksD (96 :: (qescL t ++ [96]) ++ r) = (toksD r).map fun l => ⟨2, 0, ⟨t.toArray⟩⟩ :: l := by
  refine toksD_step r (by simp) (by simp) ?_
  have e : (96 :: (qescL t ++ [96])) ++ r = 96 :: (qescL t ++ 96 :: r) := by simp
  rw [e, one_qname t r ht hr]
  simp
theorem toks_word (t r : List UInt8) (h0 : t ≠ []) (hw : wfrom true t = t.length) (hr : wfrom false r = 0) : toksD (t ++ r) = (toksD r).map fun l => ⟨1, 0, ⟨t.toArray⟩⟩ :: l := by
  refine toksD_step r ?_ h0 (one_word t r h0 hw hr)
  cases t with
  | nil => simp
  | cons c t =>
    intro e
    have hc : c = 32 := by simpa using e
    subst hc
    rw [wfrom] at hw
    simp [letterB, digitB] at hw
end Go.Proofs.YtageokjobbjddaaGreatDoor
