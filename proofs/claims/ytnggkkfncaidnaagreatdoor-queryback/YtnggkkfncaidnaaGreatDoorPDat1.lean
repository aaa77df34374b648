import Derived.Test.YtnggkkfncaidnaaGreatDoorPIt2
namespace Go.Proofs.YtnggkkfncaidnaaGreatDoor
open Go.RowKit

/-! The reader as data: how much it reads. -/
def wt (u : St) : Nat := 3 * u.2.size + u.1.text.size + (if u.1.kind = 0 then 0 else 2)
theorem pqn_sum : ∀ (l : List UInt8) (q : List UInt8 × List UInt8), pqn l = some q → q.1.length + q.2.length ≤ l.length
  | [], q, h => by simp [pqn] at h
  | [c], q, h => by
    by_cases hc : c = 96
    · simp only [pqn, if_pos hc] at h; cases h; simp
    · simp only [pqn, if_neg hc] at h; cases h
  | c :: d :: r, q, h => by
    rw [pqn] at h
    split at h
    · split at h
      · cases hp : pqn r with
        | none => rw [hp] at h; cases h
        | some p => rw [hp] at h; cases h; have := pqn_sum r p hp; simp; omega
      · cases h; simp
    · cases hp : pqn (d :: r) with
      | none => rw [hp] at h; cases h
      | some p => rw [hp] at h; cases h; have := pqn_sum (d :: r) p hp; simp at this ⊢; omega
theorem ptx_sum (m : Nat) : ∀ (l : List UInt8) (q : List UInt8 × List UInt8), l.length ≤ m → ptx l = some q → q.1.length + q.2.length ≤ l.length := by
  induction m with
  | zero =>
    intro l q hl h
    rw [List.length_eq_zero_iff.1 (Nat.le_zero.1 hl), ptx_nil] at h
    cases h
  | succ m ih =>
    intro l q hl h
    cases l with
    | nil => rw [ptx_nil] at h; cases h
    | cons c r =>
      by_cases h34 : c = 34
      · rw [h34, ptx_end] at h; cases h; simp
      · by_cases hb : (byteD (c :: r)).2 = 0
        · rw [ptx_bad c r h34 hb] at h; cases h
        · rw [ptx_step c r h34 hb] at h
          cases hp : ptx ((c :: r).drop (byteD (c :: r)).2) with
          | none => rw [hp] at h; cases h
          | some p =>
            rw [hp] at h
            cases h
            have hd : ((c :: r).drop (byteD (c :: r)).2).length ≤ m := by rw [List.length_drop]; simp only [List.length_cons] at hl ⊢; omega
            have := ih _ p hd hp
            rw [List.length_drop] at this
            simp only [List.length_cons] at this ⊢
            omega
theorem namedD_len (s : ByteArray) : (namedD s).text.size ≤ s.size := by
  unfold namedD
  split
  · exact Nat.le_refl _
  · exact Nat.zero_le _
theorem ba_size (l : List UInt8) : (⟨l.toArray⟩ : ByteArray).size = l.length := by rw [← q_len]
theorem cutD_sum (s : ByteArray) (h : 0 < s.size) : (cutD s).1.text.size + (cutD s).2.size ≤ s.size := by
  have hl0 : s.data.toList = s[0] :: s.data.toList.drop 1 := by
    have := q_drop s 0 h
    rwa [List.drop_zero] at this
  have hlen : (s.data.toList.drop 1).length = s.size - 1 := by rw [List.length_drop, q_len]
  generalize hc : s[0] = c at hl0
  generalize hr : s.data.toList.drop 1 = r at *
  have e : cutD s = (if letterB c = true then (wordD s (leadN inwB s), s.extract (leadN inwB s) s.size)
    else if c = 96 then ((quotD r).1, ⟨(quotD r).2.toArray⟩)
    else if c = 45 ∨ digitB c = true then numD s (numN s)
    else if c = 34 then ((textD r).1, ⟨(textD r).2.toArray⟩)
    else if markB c = true then (⟨7, ⟨#[c]⟩, 0⟩, s.extract 1 s.size)
    else signD s) := by
    unfold cutD
    rw [hl0]
  rw [e]
  split
  · have h0 : (wordD s (leadN inwB s)).text.size ≤ (s.extract 0 (leadN inwB s)).size := by
      unfold wordD
      split
      · exact Nat.le_refl _
      · exact namedD_len _
    have hn : leadN inwB s ≤ s.size := by
      unfold leadN
      rw [← q_len]
      exact (List.takeWhile_prefix _).length_le
    rw [ByteArray.size_extract] at h0
    show (wordD s (leadN inwB s)).text.size + (s.extract (leadN inwB s) s.size).size ≤ s.size
    rw [ByteArray.size_extract]; omega
  split
  · show (quotD r).1.text.size + (⟨(quotD r).2.toArray⟩ : ByteArray).size ≤ s.size
    rw [ba_size]
    unfold quotD
    cases hq : pqn r with
    | none => show 0 + 0 ≤ _; omega
    | some q =>
      have h1 := Nat.le_trans (namedD_len ⟨q.1.toArray⟩) (Nat.le_of_eq (ba_size q.1))
      have := pqn_sum r q hq
      show (namedD ⟨q.1.toArray⟩).text.size + q.2.length ≤ _
      omega
  split
  · unfold numD
    split
    · show 0 + 0 ≤ _; omega
    · show 0 + (s.extract (numN s) s.size).size ≤ s.size
      rw [ByteArray.size_extract]; omega
  split
  · show (textD r).1.text.size + (⟨(textD r).2.toArray⟩ : ByteArray).size ≤ s.size
    rw [ba_size]
    unfold textD
    cases hq : ptx r with
    | none => show 0 + 0 ≤ _; omega
    | some q =>
      have := ptx_sum r.length r q (Nat.le_refl _) hq
      show (⟨q.1.toArray⟩ : ByteArray).size + q.2.length ≤ _
      rw [ba_size]
      omega
  split
  · show 1 + (s.extract 1 s.size).size ≤ s.size
    rw [ByteArray.size_extract]; omega
  · unfold signD
    split
    · show 0 + 0 ≤ _; omega
    · rename_i q hq
      obtain ⟨j, h1, _⟩ := psg_le s 5 q hq
      show 0 + q.2.size ≤ s.size
      rw [h1, ByteArray.size_extract]; omega
theorem nxt_wt (s : ByteArray) : wt (nxtD s) ≤ 3 * s.size := by
  unfold nxtD
  rcases Nat.eq_zero_or_pos (trimD s).size with h0 | h0
  · rw [nil_size h0]
    have : wt (cutD ⟨#[]⟩) = 0 := by decide
    omega
  · have h1 := cutD_lt (trimD s) h0
    have h3 := cutD_sum (trimD s) h0
    have h2 := trimD_le s
    unfold wt
    split <;> omega
theorem step_wt (u : St) (h : u.1.kind ≠ 0) : wt (nxtD u.2) + u.1.text.size + 2 ≤ wt u := by
  have := nxt_wt u.2
  unfold wt at this ⊢
  rw [if_neg h]
  omega
theorem step_rk (u : St) (h : u.1.kind ≠ 0) : rk (nxtD u.2) < rk u := rk_next u.1 u.2 h
theorem isM_kind {x : ByteArray} {u : St} (h : isM x u = true) : u.1.kind ≠ 0 := by
  unfold isM justB at h
  simp only [Bool.and_eq_true, decide_eq_true_eq] at h
  omega
theorem just_kind {k : Int} {x : ByteArray} {t : Pt} (h : justB k x t = true) : t.kind = k := by
  unfold justB at h
  simp only [Bool.and_eq_true, decide_eq_true_eq] at h
  exact h.2
/-- What a part that was read has cost. -/
def Cost (c : Nat) (u v : St) : Prop := c + wt v < wt u ∧ rk v < rk u
theorem loop_cost {itm : St → Option (It × St)} (hi : ∀ u x v, itm u = some (x, v) → Cost x.cnt u v) : ∀ (n : Nat) (u : St) (l : List It) (v : St), loopD itm n u = some (l, v) → Cost (cntL l) u v
  | 0, u, l, v, h => by simp [loopD] at h
  | n + 1, u, l, v, h => by
    rw [loopD] at h
    cases hx : itm u with
    | none => rw [hx] at h; cases h
    | some p =>
      obtain ⟨x, z⟩ := p
      rw [hx] at h
      simp only at h
      have hc := hi u x z hx
      by_cases h1 : isM ⟨#[93]⟩ z = true
      · rw [if_pos h1] at h
        cases h
        have k1 := step_wt z (isM_kind h1)
        have k2 := step_rk z (isM_kind h1)
        unfold Cost at hc ⊢
        simp only [cntL]
        omega
      · rw [if_neg h1] at h
        by_cases h2 : isM ⟨#[44]⟩ z = true
        · rw [if_pos h2] at h
          cases hl : loopD itm n (nxtD z.2) with
          | none => rw [hl] at h; cases h
          | some p =>
            rw [hl] at h
            cases h
            have ih := loop_cost hi n _ _ _ hl
            have k1 := step_wt z (isM_kind h2)
            have k2 := step_rk z (isM_kind h2)
            unfold Cost at hc ih ⊢
            simp only [cntL]
            omega
        · rw [if_neg h2] at h; cases h
theorem list_cost {itm : St → Option (It × St)} (hi : ∀ u x v, itm u = some (x, v) → Cost x.cnt u v) (u : St) (l : List It) (v : St) (h : listD itm u = some (l, v)) : Cost (cntL l) u v := by
  unfold listD at h
  by_cases h1 : isM ⟨#[93]⟩ u = true
  · rw [if_pos h1] at h
    cases h
    have k1 := step_wt u (isM_kind h1)
    have k2 := step_rk u (isM_kind h1)
    unfold Cost
    simp only [cntL]
    omega
  · rw [if_neg h1] at h
    exact loop_cost hi _ _ _ _ h
theorem iow_cnt {x : ByteArray} {y : It} (h : iowD x = some y) : y.cnt = 1 := by
  unfold iowD at h
  split at h
  · cases h; rfl
  · split at h
    · cases h; rfl
    · split at h
      · cases h; rfl
      · cases h
theorem item_cost : ∀ (r : Nat) (u : St) (x : It) (v : St), itemD r u = some (x, v) → Cost x.cnt u v := by
  intro r
  induction r with
  | zero =>
    intro u x v h
    rw [item_form] at h
    split at h
    · rename_i hk
      cases h
      have k1 := step_wt u (by omega)
      have k2 := step_rk u (by omega)
      refine ⟨?_, k2⟩
      show 1 + 0 + 0 + _ < _
      omega
    split at h
    · rename_i hk
      cases h
      have k1 := step_wt u (by omega)
      have k2 := step_rk u (by omega)
      refine ⟨?_, k2⟩
      show 1 + u.1.text.size + 0 + _ < _
      omega
    split at h
    · rename_i hk
      cases hy : iowD u.1.text with
      | none => rw [hy] at h; cases h
      | some y =>
        rw [hy] at h
        cases h
        have k1 := step_wt u (by omega)
        have k2 := step_rk u (by omega)
        refine ⟨?_, k2⟩
        rw [iow_cnt hy]
        omega
    · simp at h
  | succ r ih =>
    intro u x v h
    rw [item_form] at h
    split at h
    · rename_i hk
      cases h
      have k1 := step_wt u (by omega)
      have k2 := step_rk u (by omega)
      refine ⟨?_, k2⟩
      show 1 + 0 + 0 + _ < _
      omega
    split at h
    · rename_i hk
      cases h
      have k1 := step_wt u (by omega)
      have k2 := step_rk u (by omega)
      refine ⟨?_, k2⟩
      show 1 + u.1.text.size + 0 + _ < _
      omega
    split at h
    · rename_i hk
      cases hy : iowD u.1.text with
      | none => rw [hy] at h; cases h
      | some y =>
        rw [hy] at h
        cases h
        have k1 := step_wt u (by omega)
        have k2 := step_rk u (by omega)
        refine ⟨?_, k2⟩
        rw [iow_cnt hy]
        omega
    · split at h
      · rename_i hm
        rw [Nat.add_sub_cancel] at h
        cases hl : listD (itemD r) (nxtD u.2) with
        | none => rw [hl] at h; cases h
        | some p =>
          rw [hl] at h
          cases h
          have hc := list_cost ih _ _ _ hl
          have k1 := step_wt u (isM_kind hm.1)
          have k2 := step_rk u (isM_kind hm.1)
          unfold Cost at hc ⊢
          refine ⟨?_, by omega⟩
          show 1 + 0 + cntL p.1 + _ < _
          omega
      · cases h
/-! Conditions and the query, as data of the tokens. -/
def condD (u : St) : Option (Cd × St) :=
  if u.1.kind = 3 then (if (nxtD u.2).1.kind = 6 then (itemD 4 (nxtD (nxtD u.2).2)).map fun p => (⟨u.1.text, (nxtD u.2).1.num, p.1⟩, p.2) else none) else none
def condsD : Nat → St → Option (List Cd × St)
  | 0, _ => none
  | n + 1, u => match condD u with
    | none => none
    | some (c, v) => if justB 2 ⟨#[97, 110, 100]⟩ v.1 = true then (condsD n (nxtD v.2)).map fun p => (c :: p.1, p.2) else some ([c], v)
def whereD (u : St) : Option (List Cd × St) := if justB 2 ⟨#[119, 104, 101, 114, 101]⟩ u.1 = true then condsD (rk (nxtD u.2) + 1) (nxtD u.2) else some ([], u)
def orderD (u : St) : Option ((ByteArray × Bool) × St) :=
  if justB 2 ⟨#[111, 114, 100, 101, 114]⟩ u.1 = true then (if (ordD (nxtD u.2).1 (nxtD u.2).2).1.2.2 = true then some (((ordD (nxtD u.2).1 (nxtD u.2).2).1.1, (ordD (nxtD u.2).1 (nxtD u.2).2).1.2.1), (ordD (nxtD u.2).1 (nxtD u.2).2).2) else none) else some ((⟨#[]⟩, false), u)
def limitD (u : St) : Option (Int × St) :=
  if justB 2 ⟨#[108, 105, 109, 105, 116]⟩ u.1 = true then (if limB (nxtD u.2).1 = true then some ((nxtD u.2).1.num, nxtD (nxtD u.2).2) else none) else some (0, u)
def restD (t : ByteArray) (u : St) : Option Qd :=
  match whereD u with
  | none => none
  | some (cs, v) => match orderD v with
    | none => none
    | some ((o, f), z) => match limitD z with
      | none => none
      | some (m, y) => if y.1.kind = 0 then some ⟨t, cs, o, f, m⟩ else none
def queryD (u : St) : Option Qd :=
  if justB 2 ⟨#[102, 114, 111, 109]⟩ u.1 = true then (if (nxtD u.2).1.kind = 3 then restD (nxtD u.2).1.text (nxtD (nxtD u.2).2) else none) else none
theorem cond_cost (u : St) (c : Cd) (v : St) (h : condD u = some (c, v)) : Cost (c.field.size + c.item.cnt) u v := by
  unfold condD at h
  split at h
  · rename_i h3
    split at h
    · rename_i h6
      cases hi : itemD 4 (nxtD (nxtD u.2).2) with
      | none => rw [hi] at h; cases h
      | some p =>
        rw [hi] at h
        cases h
        have k0 := item_cost 4 _ p.1 p.2 hi
        have k1 := step_wt u (by omega)
        have k2 := step_rk u (by omega)
        have k3 := step_wt (nxtD u.2) (by omega)
        have k4 := step_rk (nxtD u.2) (by omega)
        unfold Cost at k0 ⊢
        simp only
        omega
    · cases h
  · cases h
theorem conds_cost : ∀ (n : Nat) (u : St) (l : List Cd) (v : St), condsD n u = some (l, v) → Cost (cntC l) u v
  | 0, u, l, v, h => by simp [condsD] at h
  | n + 1, u, l, v, h => by
    rw [condsD] at h
    cases hx : condD u with
    | none => rw [hx] at h; cases h
    | some p =>
      obtain ⟨c, z⟩ := p
      rw [hx] at h
      simp only at h
      have hc := cond_cost u c z hx
      by_cases h1 : justB 2 ⟨#[97, 110, 100]⟩ z.1 = true
      · rw [if_pos h1] at h
        cases hl : condsD n (nxtD z.2) with
        | none => rw [hl] at h; cases h
        | some p =>
          rw [hl] at h
          cases h
          have ih := conds_cost n _ _ _ hl
          have hk := just_kind h1
          have k1 := step_wt z (by omega)
          have k2 := step_rk z (by omega)
          unfold Cost at hc ih ⊢
          simp only [cntC]
          omega
      · rw [if_neg h1] at h
        cases h
        unfold Cost at hc ⊢
        simp only [cntC]
        omega
end Go.Proofs.YtnggkkfncaidnaaGreatDoor
