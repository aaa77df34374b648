import Derived.Test.YtnggkkfncaidnaaGreatDoorGRK
import Derived.Test.YtnggkkfncaidnaaGreatDoorGRM
namespace Go.Proofs.YtnggkkfncaidnaaGreatDoor
open Go.RowKit

/-! The document's tokens are the program's (data alone). -/
def sgnN (s : ByteArray) : Int := if s = ⟨#[61]⟩ then 1 else if s = ⟨#[60]⟩ then 2 else if s = ⟨#[60, 61]⟩ then 3 else if s = ⟨#[62]⟩ then 4 else 5
def ptk (t : Tk) : Pt :=
  if t.kind = 1 then (if resB t.text = true then ⟨2, t.text, 0⟩ else namedD t.text)
  else if t.kind = 2 then namedD t.text
  else if t.kind = 3 then ⟨4, ⟨#[]⟩, t.num⟩
  else if t.kind = 4 then ⟨5, t.text, 0⟩
  else if t.text = ⟨#[91]⟩ ∨ t.text = ⟨#[93]⟩ ∨ t.text = ⟨#[44]⟩ then ⟨7, t.text, 0⟩
  else ⟨6, ⟨#[]⟩, sgnN t.text⟩
theorem ptk_five (x : ByteArray) : ptk ⟨5, 0, x⟩ = if x = ⟨#[91]⟩ ∨ x = ⟨#[93]⟩ ∨ x = ⟨#[44]⟩ then ⟨7, x, 0⟩ else ⟨6, ⟨#[]⟩, sgnN x⟩ := by
  unfold ptk
  simp only
  rw [if_neg (show ¬ (5 : Int) = 1 by decide), if_neg (show ¬ (5 : Int) = 2 by decide), if_neg (show ¬ (5 : Int) = 3 by decide), if_neg (show ¬ (5 : Int) = 4 by decide)]
theorem wfrom_lead : ∀ (l : List UInt8), wfrom false l = (l.takeWhile inwB).length
  | [] => rfl
  | c :: r => by
    rw [wfrom, List.takeWhile_cons]
    have e : (letterB c || (!false && digitB c)) = inwB c := by simp [inwB]
    rw [e]
    split
    · rename_i h; rw [wfrom_lead r]; simp
    · simp
theorem dcount_lead : ∀ (l : List UInt8), dcount l = (l.takeWhile digitB).length
  | [] => rfl
  | c :: r => by
    rw [dcount, List.takeWhile_cons]
    split
    · rename_i h; rw [dcount_lead r]; simp
    · simp
theorem qnm_pqn : ∀ (l : List UInt8) (p : List UInt8 × Nat), qnm l = some p → pqn l = some (p.1, l.drop p.2)
  | [], p, h => by simp [qnm] at h
  | [c], p, h => by
    rw [qnm] at h
    split at h
    · cases h
    split at h
    · rename_i hc; cases h; simp [pqn, hc]
    · cases h
  | c :: d :: r, p, h => by
    rw [qnm] at h
    split at h
    · cases h
    split at h
    · rename_i hc
      split at h
      · rename_i hd
        obtain ⟨q', hq', rfl⟩ := Option.map_eq_some_iff.1 h
        rw [pqn, if_pos hc, if_pos hd, qnm_pqn r q' hq']
        simp
      · rename_i hd
        cases h
        rw [pqn, if_pos hc, if_neg hd]
        simp
    · rename_i hc
      obtain ⟨q', hq', rfl⟩ := Option.map_eq_some_iff.1 h
      rw [pqn, if_neg hc, qnm_pqn (d :: r) q' hq']
      simp
theorem qnm_none : ∀ (l : List UInt8) (q : List UInt8 × List UInt8), qnm l = none → pqn l = some q → q.1.all nameB = false
  | [], q, _, h => by simp [pqn] at h
  | [c], q, h, h2 => by
    by_cases hc : c = 96
    · subst hc
      rw [qnm] at h
      simp at h
    · simp only [pqn, if_neg hc] at h2; cases h2
  | c :: d :: r, q, h, h2 => by
    rw [pqn] at h2
    by_cases hb : c.toNat < 33 ∨ 126 < c.toNat
    · have hc : c ≠ 96 := fun e => by subst e; revert hb; decide
      rw [if_neg hc] at h2
      obtain ⟨q', hq', rfl⟩ := Option.map_eq_some_iff.1 h2
      have : nameB c = false := by simp [nameB]; omega
      simp [this]
    · rw [qnm, if_neg hb] at h
      by_cases hc : c = 96
      · rw [if_pos hc] at h h2
        by_cases hd : d = 96
        · rw [if_pos hd] at h h2
          obtain ⟨q', hq', rfl⟩ := Option.map_eq_some_iff.1 h2
          have := qnm_none r q' (by simpa using h) hq'
          simp [this]
        · rw [if_neg hd] at h; cases h
      · rw [if_neg hc] at h h2
        obtain ⟨q', hq', rfl⟩ := Option.map_eq_some_iff.1 h2
        have := qnm_none (d :: r) q' (by simpa using h) hq'
        simp [this]
/-! Numbers. -/
theorem dec_back : ∀ (n : Nat) (t : List UInt8), t.length = n → t ≠ [] → (∀ c ∈ t, digitB c = true) → (t.head? = some 48 → t.length = 1) → Lib.decDigits (decV t) = t ∧ (t.head? ≠ some 48 → 0 < decV t)
  | 0, t, h, h0, _, _ => absurd (List.length_eq_zero_iff.1 h) h0
  | n + 1, t, h, h0, hd, hz => by
    obtain ⟨l, c, rfl⟩ : ∃ l c, t = l ++ [c] := ⟨t.dropLast, t.getLast h0, (List.dropLast_concat_getLast h0).symm⟩
    have hc := digit_le (hd c (by simp))
    have hcb : UInt8.ofNat (48 + (c.toNat - 48)) = c := by
      rw [show 48 + (c.toNat - 48) = c.toNat by omega]; simp
    rw [decV_snoc]
    by_cases hl : l = []
    · subst hl
      have e0 : decV [] = 0 := rfl
      rw [e0, Nat.zero_mul, Nat.zero_add, Lib.decDigits, dif_pos (by omega), hcb]
      refine ⟨rfl, fun hh => ?_⟩
      have : c ≠ 48 := fun e => hh (by rw [e]; rfl)
      have : c.toNat ≠ 48 := fun e => this (by rw [← UInt8.toNat_inj]; exact e)
      omega
    · have hh : (l ++ [c]).head? = l.head? := by cases l with | nil => exact absurd rfl hl | cons _ _ => rfl
      have hl1 : 1 ≤ l.length := List.length_pos_iff.2 hl
      have hne : l.head? ≠ some 48 := fun e => by have := hz (by rw [hh]; exact e); rw [List.length_append, List.length_singleton] at this; omega
      obtain ⟨ih1, ih2⟩ := dec_back n l (by simp at h; omega) hl (fun x hx => hd x (by simp [hx])) (fun e => absurd e hne)
      have hp := ih2 hne
      refine ⟨?_, fun _ => by omega⟩
      rw [Lib.decDigits, dif_neg (by omega), show (decV l * 10 + (c.toNat - 48)) / 10 = decV l by omega, show (decV l * 10 + (c.toNat - 48)) % 10 = c.toNat - 48 by omega, ih1, hcb]
theorem parse_dec : ∀ (l : List UInt8) (acc : Nat), (∀ c ∈ l, digitB c = true) → acc * 10 ^ l.length + decV l < 10000000000000000000 → Lib.parseUint10 acc l = .ok (acc * 10 ^ l.length + decV l)
  | [], acc, _, _ => by simp [Lib.parseUint10, decV]
  | c :: r, acc, hd, hlt => by
    have hc := digit_le (hd c (by simp))
    have e : decV (c :: r) = (c.toNat - 48) * 10 ^ r.length + decV r := by
      have key : ∀ (l : List UInt8) (a : Nat), l.foldl (fun u c => u * 10 + (c.toNat - 48)) a = a * 10 ^ l.length + decV l := by
        intro l
        induction l with
        | nil => intro a; simp [decV]
        | cons x l ih =>
          intro a
          unfold decV
          rw [List.foldl_cons, List.foldl_cons, ih, ih, List.length_cons, Nat.pow_succ]
          simp only [Nat.zero_mul, Nat.zero_add]
          rw [Nat.add_mul, Nat.mul_assoc, Nat.mul_comm 10 (10 ^ l.length)]
          omega
      show (c :: r).foldl _ 0 = _
      rw [List.foldl_cons, key]
      simp
    have hp : 1 ≤ 10 ^ r.length := Nat.pow_pos (by omega)
    have e2 : acc * 10 ^ (c :: r).length + decV (c :: r) = (acc * 10 + (c.toNat - 48)) * 10 ^ r.length + decV r := by
      rw [e, List.length_cons, Nat.pow_succ, Nat.add_mul, Nat.mul_assoc, Nat.mul_comm 10 (10 ^ r.length)]
      omega
    rw [e2] at hlt ⊢
    have hb : acc * 10 + (c.toNat - 48) < 10000000000000000000 := by
      have := Nat.mul_le_mul_left (acc * 10 + (c.toNat - 48)) hp
      omega
    rw [Lib.parseUint10, if_pos hc, if_neg (by omega), if_neg (by omega)]
    exact parse_dec r _ (fun x hx => hd x (by simp [hx])) hlt
theorem mag_dec (l : List UInt8) (h0 : l ≠ []) (hd : ∀ c ∈ l, digitB c = true) (hlt : decV l < 10000000000000000000) : Lib.parseMag l = .ok (decV l) := by
  unfold Lib.parseMag
  rw [if_neg h0, parse_dec l 0 hd (by omega)]
  simp
theorem badN_no {low : Bool} {t : List UInt8} (h : badN low t = false) : t ≠ [] ∧ t.length ≤ 19 ∧ (t.head? = some 48 → t.length = 1 ∧ low = false) := by
  unfold badN at h
  simp only [Bool.or_eq_false_iff, decide_eq_false_iff_not, Bool.and_eq_false_iff] at h
  obtain ⟨⟨h1, h2⟩, h3⟩ := h
  refine ⟨h1, by omega, fun hh => ?_⟩
  rcases h3 with h3 | ⟨h3, h4⟩
  · exact absurd hh h3
  · have := List.length_pos_iff.2 h1
    exact ⟨by omega, h4⟩
theorem num_is (t : List UInt8) (h : numOk t = true) : Lib.atoiAll t = .ok (numV t) ∧ Lib.itoa (numV t) = t := by
  unfold numOk natOk at h
  simp only [Bool.and_eq_true, Bool.not_eq_true', decide_eq_true_eq, List.all_eq_true] at h
  obtain ⟨⟨hb, hd⟩, hv⟩ := h
  obtain ⟨n0, n1, n2⟩ := badN_no hb
  cases hlow : lowB t with
  | true =>
    have hh : t.head? = some 45 := by simpa [lowB] using hlow
    obtain ⟨r, rfl⟩ : ∃ r, t = 45 :: r := by
      cases t with
      | nil => simp at hh
      | cons c r => simp at hh; exact ⟨r, by rw [hh]⟩
    have hbody : bodyL (45 :: r) = r := by rw [bodyL, if_pos hlow]; rfl
    rw [hlow] at hv n2
    rw [hbody] at hd hv n0 n1 n2
    simp only [if_true] at hv
    have hnz : r.head? ≠ some 48 := fun e => by have := (n2 e).2; cases this
    obtain ⟨k1, k2⟩ := dec_back _ r rfl n0 hd (fun e => absurd e hnz)
    have hpos := k2 hnz
    have hV : numV (45 :: r) = -(decV r : Int) := by rw [numV, if_pos hlow, hbody]
    rw [hV]
    refine ⟨?_, ?_⟩
    · rw [Lib.atoiAll_minus, mag_dec r n0 hd (by omega)]
      simp only [Lib.signed]
      rw [if_neg (by omega)]
    · unfold Lib.itoa
      rw [if_pos (by omega), show (-(decV r : Int)).natAbs = decV r by omega, k1]
  | false =>
    have hbody : bodyL t = t := by rw [bodyL, if_neg (by rw [hlow]; simp)]
    rw [hlow] at hv
    rw [hbody] at hd hv n0 n1 n2
    simp only [Bool.false_eq_true, if_false] at hv
    obtain ⟨k1, k2⟩ := dec_back _ t rfl n0 hd (fun e => (n2 e).1)
    have hV : numV t = (decV t : Int) := by rw [numV, if_neg (by rw [hlow]; simp), hbody]
    rw [hV]
    refine ⟨?_, ?_⟩
    · cases t with
      | nil => exact absurd rfl n0
      | cons c r =>
        have hc := digit_le (hd c (by simp))
        rw [Lib.atoiAll_plain c r (by omega) (by omega), mag_dec _ n0 hd (by omega)]
        simp only [Lib.signless]
        rw [if_neg (by omega)]
    · unfold Lib.itoa
      rw [if_neg (by omega)]
      simpa using k1
theorem numT_is (t : ByteArray) : numT t = if numOk t.data.toList = true then some (numV t.data.toList) else none := by
  by_cases h : numOk t.data.toList = true
  · rw [if_pos h]
    obtain ⟨h1, h2⟩ := num_is _ h
    unfold numT
    rw [h1]
    simp only
    rw [if_pos h2]
  · rw [if_neg h]
    unfold numT
    split
    · rename_i v hv
      split
      · rename_i he
        have hb := Lib.atoiAll_bounds hv
        have := (num_back v hb.1 hb.2).1
        rw [he] at this
        exact absurd this h
      · rfl
    · rfl
/-! Signs. -/
theorem pre_one (a c : UInt8) (r : List UInt8) : [a].isPrefixOf (c :: r) = decide (a = c) := by
  simp [List.isPrefixOf, BEq.beq]
theorem pre_two (a b c : UInt8) (r : List UInt8) : [a, b].isPrefixOf (c :: r) = (decide (a = c) && decide (r.head? = some b)) := by
  cases r with
  | nil => simp [List.isPrefixOf]
  | cons d r =>
    simp only [List.isPrefixOf, List.head?_cons, Option.some.injEq, Bool.and_true]
    congr 1
    by_cases h : b = d
    · subst h; simp
    · have h' : ¬ d = b := fun e => h e.symm
      simp [h, h']
theorem psg_five (s : ByteArray) : psg s 5 = if [62, 61].isPrefixOf s.data.toList = true then some (5, s.extract 2 s.size) else if [62].isPrefixOf s.data.toList = true then some (4, s.extract 1 s.size) else if [60, 61].isPrefixOf s.data.toList = true then some (3, s.extract 2 s.size) else if [60].isPrefixOf s.data.toList = true then some (2, s.extract 1 s.size) else if [61].isPrefixOf s.data.toList = true then some (1, s.extract 1 s.size) else none := by
  rfl
theorem sgn_cut (c : UInt8) (r : List UInt8) (hm : markB c = false) : signD ⟨(c :: r).toArray⟩ = if sgnLen (c :: r) = 0 then (ptBad, ⟨#[]⟩) else (⟨6, ⟨#[]⟩, sgnN ⟨((c :: r).take (sgnLen (c :: r))).toArray⟩⟩, ⟨((c :: r).drop (sgnLen (c :: r))).toArray⟩) := by
  have hd : ∀ n, (⟨(c :: r).toArray⟩ : ByteArray).extract n (⟨(c :: r).toArray⟩ : ByteArray).size = ⟨((c :: r).drop n).toArray⟩ := fun n => ba_drop _ n
  unfold signD
  rw [psg_five, hd, hd]
  dsimp only
  rw [pre_two, pre_one, pre_two, pre_one, pre_one]
  simp only [markB, decide_eq_false_iff_not, not_or] at hm
  unfold sgnLen
  by_cases h62 : c = 62
  · subst h62
    by_cases h2 : r.head? = some 61
    · obtain ⟨r', rfl⟩ : ∃ r', r = 61 :: r' := by
        cases r with
        | nil => simp at h2
        | cons d r => simp at h2; exact ⟨r, by rw [h2]⟩
      rfl
    · simp [h2]; rfl
  · by_cases h60 : c = 60
    · subst h60
      by_cases h2 : r.head? = some 61
      · obtain ⟨r', rfl⟩ : ∃ r', r = 61 :: r' := by
          cases r with
          | nil => simp at h2
          | cons d r => simp at h2; exact ⟨r, by rw [h2]⟩
        rfl
      · simp [h2]; rfl
    · by_cases h61 : c = 61
      · subst h61
        simp; rfl
      · have n62 : ¬ (62 : UInt8) = c := fun e => h62 e.symm
        have n60 : ¬ (60 : UInt8) = c := fun e => h60 e.symm
        have n61 : ¬ (61 : UInt8) = c := fun e => h61 e.symm
        simp [n62, n60, n61, h62, h60, h61, hm]
/-! One token. -/
theorem cut_form (c : UInt8) (r : List UInt8) : cutD ⟨(c :: r).toArray⟩ = (if letterB c = true then (wordD ⟨(c :: r).toArray⟩ (leadN inwB ⟨(c :: r).toArray⟩), (⟨(c :: r).toArray⟩ : ByteArray).extract (leadN inwB ⟨(c :: r).toArray⟩) (⟨(c :: r).toArray⟩ : ByteArray).size)
    else if c = 96 then ((quotD r).1, ⟨(quotD r).2.toArray⟩)
    else if c = 45 ∨ digitB c = true then numD ⟨(c :: r).toArray⟩ (numN ⟨(c :: r).toArray⟩)
    else if c = 34 then ((textD r).1, ⟨(textD r).2.toArray⟩)
    else if markB c = true then (⟨7, ⟨#[c]⟩, 0⟩, (⟨(c :: r).toArray⟩ : ByteArray).extract 1 (⟨(c :: r).toArray⟩ : ByteArray).size)
    else signD ⟨(c :: r).toArray⟩) := rfl
theorem ba_take (l : List UInt8) (n : Nat) : (⟨l.toArray⟩ : ByteArray).extract 0 n = ⟨(l.take n).toArray⟩ := by
  have := ex_sub ⟨l.toArray⟩ 0 n
  rw [Nat.zero_add] at this
  rw [this]
  rfl
theorem ba_tail (l : List UInt8) (n : Nat) : (⟨l.toArray⟩ : ByteArray).extract n (⟨l.toArray⟩ : ByteArray).size = ⟨(l.drop n).toArray⟩ := ba_drop _ n
/-- What the program cuts off is what the document has there; where that has none it is bad. -/
theorem cut_one' (c : UInt8) (r : List UInt8) : if (oneD (c :: r)).2 = 0 then (cutD ⟨(c :: r).toArray⟩).1.kind = 1 else cutD ⟨(c :: r).toArray⟩ = (ptk (oneD (c :: r)).1, ⟨((c :: r).drop (oneD (c :: r)).2).toArray⟩) := by
  rw [cut_form]
  unfold oneD
  simp only
  by_cases hl : letterB c = true
  · rw [if_pos hl, if_pos hl]
    have e : wfrom true (c :: r) = leadN inwB ⟨(c :: r).toArray⟩ := by
      rw [wfrom]
      simp only [hl, Bool.true_or, if_true]
      rw [wfrom_lead]
      unfold leadN
      rw [ba_list', List.takeWhile_cons]
      have : inwB c = true := by simp [inwB, hl]
      rw [this]
      simp
    have e0 : wfrom true (c :: r) ≠ 0 := by
      rw [wfrom]
      simp [hl]
    rw [if_neg e0, ← e, ba_tail]
    unfold wordD
    rw [ba_take]
    rfl
  · rw [if_neg hl, if_neg hl]
    by_cases h96 : c = 96
    · rw [if_pos h96, if_pos h96]
      unfold qnmR quotD
      cases hq : qnm r with
      | none =>
        simp only [if_true]
        cases hp : pqn r with
        | none => rfl
        | some q =>
          have := qnm_none r q hq hp
          show (namedD ⟨q.1.toArray⟩).kind = 1
          unfold namedD isNameD
          rw [ba_list', this]
          rfl
      | some p =>
        simp only
        rw [if_neg (by omega), qnm_pqn r p hq]
        rfl
    · rw [if_neg h96, if_neg h96]
      by_cases h34 : c = 34
      · subst h34
        rw [if_pos rfl, if_neg (show ¬ ((34 : UInt8) = 45 ∨ digitB 34 = true) by decide), if_pos rfl]
        unfold qtxR textD ptx
        cases hq : qtx r with
        | none => rfl
        | some p =>
          simp only [Option.map]
          rw [if_neg (by omega)]
          rfl
      · rw [if_neg h34, if_neg h34]
        by_cases hn : c = 45 ∨ digitB c = true
        · rw [if_pos hn, if_pos hn]
          have e : numN ⟨(c :: r).toArray⟩ = numLen (c :: r) := by
            unfold numN leadN
            rw [ex_tail, ba_list']
            show 1 + (List.takeWhile digitB r).length = _
            rw [numLen, ← dcount_lead]
            rcases hn with h | h
            · rw [if_pos h]; omega
            · split
              · omega
              · rw [dcount, if_pos h]; omega
          rw [e]
          unfold numD
          rw [ba_take, ba_tail, numT_is, ba_list']
          by_cases hk : numOk ((c :: r).take (numLen (c :: r))) = true
          · rw [if_pos hk]
            have e0 : numLen (c :: r) ≠ 0 := by
              rw [numLen]
              rcases hn with h | h
              · rw [if_pos h]; omega
              · split
                · omega
                · rw [dcount, if_pos h]; omega
            simp only [hk, if_true]
            rw [if_neg e0]
            rfl
          · simp only [hk]
            rfl
        · rw [if_neg hn, if_neg hn]
          cases hm : markB c with
          | true =>
            rw [if_pos rfl, ba_tail]
            have hm2 : c = 91 ∨ c = 93 ∨ c = 44 := by simpa [markB] using hm
            rcases hm2 with rfl | rfl | rfl <;> rfl
          | false =>
            rw [if_neg (show ¬ (false = true) by simp), sgn_cut c r hm]
            by_cases h0 : sgnLen (c :: r) = 0
            · simp only [h0, if_true]; rfl
            · simp only [h0, if_false]
              have hnm : ¬ ((⟨((c :: r).take (sgnLen (c :: r))).toArray⟩ : ByteArray) = ⟨#[91]⟩ ∨ (⟨((c :: r).take (sgnLen (c :: r))).toArray⟩ : ByteArray) = ⟨#[93]⟩ ∨ (⟨((c :: r).take (sgnLen (c :: r))).toArray⟩ : ByteArray) = ⟨#[44]⟩) := by
                simp only [markB, decide_eq_false_iff_not, not_or] at hm
                obtain ⟨n, hn⟩ : ∃ n, sgnLen (c :: r) = n + 1 := ⟨sgnLen (c :: r) - 1, by omega⟩
                rw [hn, List.take_succ_cons]
                have key : ∀ x : UInt8, c ≠ x → (⟨(c :: r.take n).toArray⟩ : ByteArray) ≠ ⟨#[x]⟩ := fun x hx e => by
                  have := congrArg (fun b : ByteArray => b.data.toList) e
                  simp at this
                  exact hx this.1
                rintro (h | h | h)
                · exact key _ hm.1 h
                · exact key _ hm.2.1 h
                · exact key _ hm.2.2 h
              rw [ptk_five, if_neg hnm]
end Go.Proofs.YtnggkkfncaidnaaGreatDoor
