import Derived.Test.YtnggkkfncaidnaaGreatDoorGRL
namespace Go.Proofs.YtnggkkfncaidnaaGreatDoor
open Go.RowKit

/-! Numbers that were written are read again (data alone). -/
theorem dig_byte : ∀ k : Fin 10, (UInt8.ofNat (48 + k.1)).toNat = 48 + k.1 := by decide
theorem dig_b {k : Nat} (h : k < 10) : (UInt8.ofNat (48 + k)).toNat = 48 + k := dig_byte ⟨k, h⟩
theorem dec_ne (u : Nat) : Lib.decDigits u ≠ [] := by
  rw [Lib.decDigits]
  split <;> simp
theorem dec_all (u : Nat) : ∀ c ∈ Lib.decDigits u, digitB c = true := by
  induction u using Nat.strongRecOn with
  | ind u ih =>
    intro c hc
    rw [Lib.decDigits] at hc
    split at hc
    · rename_i h
      rw [List.mem_singleton] at hc
      rw [hc, digitB, dig_b h, decide_eq_true_eq]; omega
    · rcases List.mem_append.1 hc with h | h
      · exact ih (u / 10) (by omega) c h
      · rw [List.mem_singleton] at h
        rw [h, digitB, dig_b (by omega), decide_eq_true_eq]; omega
theorem dec_val (u : Nat) : decV (Lib.decDigits u) = u := by
  induction u using Nat.strongRecOn with
  | ind u ih =>
    rw [Lib.decDigits]
    split
    · rename_i h
      show 0 * 10 + ((UInt8.ofNat (48 + u)).toNat - 48) = u
      rw [dig_b h]; omega
    · rw [decV_snoc, ih (u / 10) (by omega), dig_b (by omega)]; omega
theorem dec_head (u : Nat) (h : 0 < u) : (Lib.decDigits u).head? ≠ some 48 := by
  induction u using Nat.strongRecOn with
  | ind u ih =>
    rw [Lib.decDigits]
    split
    · rename_i h10
      intro e
      have e : UInt8.ofNat (48 + u) = 48 := by simpa using e
      have := congrArg UInt8.toNat e
      rw [dig_b h10] at this
      have h48 : (48 : UInt8).toNat = 48 := rfl
      omega
    · have h2 := ih (u / 10) (by omega) (by omega)
      cases hz : Lib.decDigits (u / 10) with
      | nil => exact absurd hz (dec_ne _)
      | cons c t =>
        rw [hz] at h2
        exact h2
theorem dec_len : ∀ (n u : Nat), u < 10 ^ (n + 1) → (Lib.decDigits u).length ≤ n + 1
  | 0, u, h => by
    rw [Lib.decDigits, dif_pos (by simpa using h)]; simp
  | n + 1, u, h => by
    rw [Lib.decDigits]
    split
    · simp
    · have := dec_len n (u / 10) (by rw [Nat.pow_succ] at h; omega)
      rw [List.length_append, List.length_singleton]; omega
theorem dcount_all : ∀ (t r : List UInt8), (∀ c ∈ t, digitB c = true) → dcount r = 0 → dcount (t ++ r) = t.length
  | [], r, _, hr => hr
  | c :: t, r, h, hr => by
    show dcount (c :: (t ++ r)) = _
    rw [dcount, if_pos (h c (by simp)), dcount_all t r (fun d hd => h d (by simp [hd])) hr]; rfl
theorem digit_45 : digitB 45 = false := by decide
theorem bad_dec (low : Bool) (u : Nat) (h : u < 10000000000000000000) (h0 : low = true → 0 < u) : badN low (Lib.decDigits u) = false := by
  have h1 : (Lib.decDigits u).length ≤ 19 := dec_len 18 u h
  unfold badN
  rw [decide_eq_false (dec_ne u), decide_eq_false (by omega), Bool.false_or, Bool.false_or]
  by_cases hu : u = 0
  · subst hu
    have hl : low = false := by
      cases low with
      | false => rfl
      | true => exact absurd (h0 rfl) (by omega)
    rw [hl, Lib.decDigits, dif_pos (by omega)]; rfl
  · rw [decide_eq_false (dec_head u (by omega)), Bool.false_and]
theorem low_dec (u : Nat) : lowB (Lib.decDigits u) = false := by
  unfold lowB
  rw [decide_eq_false_iff_not]
  intro e
  have hm : (45 : UInt8) ∈ Lib.decDigits u := List.mem_of_mem_head? e
  have := dec_all u 45 hm
  rw [digit_45] at this
  cases this
theorem num_back (n : Int) (h1 : -9223372036854775808 ≤ n) (h2 : n ≤ 9223372036854775807) : numOk (Lib.itoa n) = true ∧ numV (Lib.itoa n) = n := by
  unfold Lib.itoa
  by_cases hn : n < 0
  · rw [if_pos hn]
    have hl : lowB (45 :: Lib.decDigits n.natAbs) = true := rfl
    have hb : bodyL (45 :: Lib.decDigits n.natAbs) = Lib.decDigits n.natAbs := rfl
    refine ⟨?_, ?_⟩
    · rw [numOk, hl, hb, natOk, bad_dec true n.natAbs (by omega) (fun _ => by omega), List.all_eq_true.2 (dec_all _), dec_val, if_pos rfl, decide_eq_true (by omega)]; rfl
    · rw [numV, hl, if_pos rfl, hb, dec_val]; omega
  · rw [if_neg hn]
    have hl := low_dec n.toNat
    have hb : bodyL (Lib.decDigits n.toNat) = Lib.decDigits n.toNat := by rw [bodyL, hl]; rfl
    refine ⟨?_, ?_⟩
    · rw [numOk, hl, hb, natOk, bad_dec false n.toNat (by omega) (fun e => by cases e), List.all_eq_true.2 (dec_all _), dec_val, if_neg (by simp), decide_eq_true (by omega)]; rfl
    · rw [numV, hl, if_neg (by simp), hb, dec_val]; omega
theorem numLen_back (n : Int) (r : List UInt8) (hr : dcount r = 0) : numLen (Lib.itoa n ++ r) = (Lib.itoa n).length := by
  unfold Lib.itoa
  by_cases hn : n < 0
  · rw [if_pos hn]
    show numLen (45 :: (Lib.decDigits n.natAbs ++ r)) = _
    rw [numLen, if_pos rfl, dcount_all _ r (dec_all _) hr]; rfl
  · rw [if_neg hn]
    have hd := dcount_all _ r (dec_all n.toNat) hr
    cases hz : Lib.decDigits n.toNat with
    | nil => exact absurd hz (dec_ne _)
    | cons c t =>
      rw [hz] at hd
      have hc : c ≠ 45 := fun e => by
        have := dec_all n.toNat c (by rw [hz]; simp)
        rw [e, digit_45] at this
        cases this
      show numLen (c :: (t ++ r)) = _
      rw [numLen, if_neg hc]
      exact hd
theorem itoa_first (n : Int) : ∃ c t, Lib.itoa n = c :: t ∧ (c = 45 ∨ digitB c = true) := by
  unfold Lib.itoa
  by_cases hn : n < 0
  · rw [if_pos hn]; exact ⟨45, _, rfl, .inl rfl⟩
  · rw [if_neg hn]
    cases hz : Lib.decDigits n.toNat with
    | nil => exact absurd hz (dec_ne _)
    | cons c t => exact ⟨c, t, rfl, .inr (dec_all n.toNat c (by rw [hz]; simp))⟩
theorem dig_no : ∀ c : UInt8, (c = 45 ∨ digitB c = true) → letterB c = false ∧ c ≠ 96 ∧ c ≠ 34 ∧ c ≠ 32 := fun c h => by
  rcases h with rfl | h
  · decide
  · have h2 := digit_le h
    refine ⟨?_, fun e => ?_, fun e => ?_, fun e => ?_⟩
    · rw [letterB, decide_eq_false_iff_not]; omega
    all_goals (subst e; revert h; decide)
theorem toks_num (n : Int) (r : List UInt8) (h1 : -9223372036854775808 ≤ n) (h2 : n ≤ 9223372036854775807) (hr : dcount r = 0) : toksD (Lib.itoa n ++ r) = (toksD r).map fun l => ⟨3, n, ⟨#[]⟩⟩ :: l := by
  obtain ⟨c, t, he, hc⟩ := itoa_first n
  obtain ⟨k1, k2, k3, k4⟩ := dig_no c hc
  have hb := num_back n h1 h2
  have hl := numLen_back n r hr
  have htk : (Lib.itoa n ++ r).take (Lib.itoa n).length = Lib.itoa n := List.take_left
  refine toksD_step r ?_ ?_ ?_
  · rw [he]; intro e; exact k4 (by simpa using e)
  · rw [he]; simp
  · have e2 : Lib.itoa n ++ r = c :: (t ++ r) := by rw [he]; rfl
    rw [e2] at hl htk
    rw [e2]
    unfold oneD
    simp only
    rw [if_neg (by simp [k1]), if_neg k2, if_neg k3, if_pos hc, hl, htk, if_pos hb.1, hb.2]
end Go.Proofs.YtnggkkfncaidnaaGreatDoor

namespace Go.Proofs.YtnggkkfncaidnaaGreatDoor
open Go.RowKit

/-! The tokens of a written item (data alone). -/
/-- What may stand behind a token: nothing that would lengthen it. -/
structure Stops (r : List UInt8) : Prop where
  w : wfrom false r = 0
  d : dcount r = 0
  e : r.head? ≠ some 61
  q : r.head? ≠ some 96
theorem Stops.nil : Stops [] := ⟨rfl, rfl, by simp, by simp⟩
theorem Stops.of {c : UInt8} {r : List UInt8} (h : c = 32 ∨ c = 44 ∨ c = 93) : Stops (c :: r) := by
  rcases h with rfl | rfl | rfl
  all_goals exact ⟨by rw [wfrom, if_neg (by decide)], by rw [dcount, if_neg (by decide)], by simp, by simp⟩
def brkT (c : UInt8) : Tk := ⟨5, 0, ⟨#[c]⟩⟩
theorem toks_brk (c : UInt8) (r : List UInt8) (h : c = 91 ∨ c = 93 ∨ c = 44) : toksD (c :: r) = (toksD r).map fun l => brkT c :: l := by
  refine toksD_step (x := [c]) r ?_ (by simp) ?_
  · rcases h with rfl | rfl | rfl <;> simp
  · show oneD (c :: r) = _
    unfold oneD
    simp only
    have hs : sgnLen (c :: r) = 1 := by
      rw [sgnLen, if_neg (by rcases h with rfl | rfl | rfl <;> simp), if_pos (by rcases h with rfl | rfl | rfl <;> simp)]
    rw [if_neg (by rcases h with rfl | rfl | rfl <;> decide), if_neg (by rcases h with rfl | rfl | rfl <;> decide), if_neg (by rcases h with rfl | rfl | rfl <;> decide), if_neg (by rcases h with rfl | rfl | rfl <;> decide), hs]
    rfl
theorem toks_sign (s : Int) (r : List UInt8) (hr : r.head? ≠ some 61) : toksD (signL s ++ r) = (toksD r).map fun l => ⟨5, 0, ⟨(signL s).toArray⟩⟩ :: l := by
  have key : ∀ x : List UInt8, x = [61] ∨ x = [60] ∨ x = [60, 61] ∨ x = [62] ∨ x = [62, 61] → toksD (x ++ r) = (toksD r).map fun l => ⟨5, 0, ⟨x.toArray⟩⟩ :: l := by
    rintro x (rfl | rfl | rfl | rfl | rfl)
    all_goals
      refine toksD_step r (by simp) (by simp) ?_
      unfold oneD
      simp only [List.cons_append, List.nil_append]
      rw [if_neg (by decide), if_neg (by decide), if_neg (by decide), if_neg (by decide)]
    · rw [show sgnLen (61 :: r) = 1 by rw [sgnLen, if_neg (by simp), if_pos (by simp)]]; rfl
    · rw [show sgnLen (60 :: r) = 1 by rw [sgnLen, if_neg (by simp [hr]), if_pos (by simp)]]; rfl
    · rw [show sgnLen (60 :: 61 :: r) = 2 by rw [sgnLen, if_pos (by simp)]]; rfl
    · rw [show sgnLen (62 :: r) = 1 by rw [sgnLen, if_neg (by simp [hr]), if_pos (by simp)]]; rfl
    · rw [show sgnLen (62 :: 61 :: r) = 2 by rw [sgnLen, if_pos (by simp)]]; rfl
  refine key _ ?_
  unfold signL
  split
  · exact .inl rfl
  split
  · exact .inr (.inl rfl)
  split
  · exact .inr (.inr (.inl rfl))
  split
  · exact .inr (.inr (.inr (.inl rfl)))
  · exact .inr (.inr (.inr (.inr rfl)))
def wordT (l : List UInt8) : Tk := ⟨1, 0, ⟨l.toArray⟩⟩
mutual
def itemT : It → List Tk
  | .mk k n t l => if k = 2 then (if n = 1 then [wordT [116, 114, 117, 101]] else [wordT [102, 97, 108, 115, 101]]) else if k = 3 then [⟨3, n, ⟨#[]⟩⟩] else if k = 4 then [⟨4, 0, t⟩] else if k = 5 then brkT 91 :: (listT l ++ [brkT 93]) else [wordT [110, 117, 108, 108]]
def listT : List It → List Tk
  | [] => []
  | x :: l => itemT x ++ tailT l
def tailT : List It → List Tk
  | [] => []
  | x :: l => brkT 44 :: (itemT x ++ tailT l)
end
mutual
def numsI : It → Prop
  | .mk _ n _ l => -9223372036854775808 ≤ n ∧ n ≤ 9223372036854775807 ∧ numsL l
def numsL : List It → Prop
  | [] => True
  | x :: l => numsI x ∧ numsL l
end
def tcat (t : List Tk) (o : Option (List Tk)) : Option (List Tk) := o.map fun l => t ++ l
theorem tcat_tcat (a b : List Tk) (o : Option (List Tk)) : tcat a (tcat b o) = tcat (a ++ b) o := by
  cases o <;> simp [tcat]
theorem tcat_one (t : Tk) (o : Option (List Tk)) : (o.map fun l => t :: l) = tcat [t] o := by cases o <;> rfl
theorem toks_kw (t r : List UInt8) (h0 : t ≠ []) (hw : wfrom true t = t.length) (hr : Stops r) : toksD (t ++ r) = tcat [wordT t] (toksD r) := by
  rw [toks_word t r h0 hw hr.w, tcat_one]; rfl
mutual
theorem toks_item : ∀ (x : It) (r : List UInt8), numsI x → Stops r → toksD (itemL x ++ r) = tcat (itemT x) (toksD r)
  | .mk k n t l, r, hx, hr => by
    rw [numsI] at hx
    rw [itemL, itemT]
    by_cases h2 : k = 2
    · rw [if_pos h2, if_pos h2]
      by_cases h1 : n = 1
      · rw [if_pos h1, if_pos h1]; exact toks_kw _ r (by simp) (by decide) hr
      · rw [if_neg h1, if_neg h1]; exact toks_kw _ r (by simp) (by decide) hr
    rw [if_neg h2, if_neg h2]
    by_cases h3 : k = 3
    · rw [if_pos h3, if_pos h3, toks_num n r hx.1 hx.2.1 hr.d, tcat_one]
    rw [if_neg h3, if_neg h3]
    by_cases h4 : k = 4
    · rw [if_pos h4, if_pos h4, quotedL, toks_text t.data.toList r, tcat_one]
    rw [if_neg h4, if_neg h4]
    by_cases h5 : k = 5
    · rw [if_pos h5, if_pos h5]
      show toksD (91 :: (listL l ++ [93] ++ r)) = _
      rw [toks_brk 91 _ (.inl rfl), List.append_assoc, show ([93] ++ r : List UInt8) = 93 :: r from rfl, toks_list l _ hx.2.2 (Stops.of (.inr (.inr rfl)))]
      rw [toks_brk 93 r (.inr (.inl rfl)), tcat_one, tcat_one, tcat_tcat, tcat_tcat]
      rfl
    rw [if_neg h5, if_neg h5]
    exact toks_kw _ r (by simp) (by decide) hr
theorem toks_list : ∀ (l : List It) (r : List UInt8), numsL l → Stops r → toksD (listL l ++ r) = tcat (listT l) (toksD r)
  | [], r, _, _ => by
    show toksD r = _
    cases toksD r <;> rfl
  | x :: l, r, hx, hr => by
    rw [numsL] at hx
    rw [listL, listT, List.append_assoc]
    have he : Stops (tailL l ++ r) := by
      cases l with
      | nil => exact hr
      | cons y l => rw [tailL]; exact Stops.of (.inr (.inl rfl))
    rw [toks_item x _ hx.1 he, toks_tail l r hx.2 hr, tcat_tcat]
theorem toks_tail : ∀ (l : List It) (r : List UInt8), numsL l → Stops r → toksD (tailL l ++ r) = tcat (tailT l) (toksD r)
  | [], r, _, _ => by
    show toksD r = _
    cases toksD r <;> rfl
  | x :: l, r, hx, hr => by
    rw [numsL] at hx
    rw [tailL, tailT]
    have he : Stops (tailL l ++ r) := by
      cases l with
      | nil => exact hr
      | cons y l => rw [tailL]; exact Stops.of (.inr (.inl rfl))
    show toksD (44 :: 32 :: (itemL x ++ tailL l ++ r)) = _
    rw [toks_brk 44 _ (.inr (.inr rfl)), toksD_blank, List.append_assoc, toks_item x _ hx.1 he, toks_tail l r hx.2 hr, tcat_one, tcat_tcat, tcat_tcat]
    rfl
end
end Go.Proofs.YtnggkkfncaidnaaGreatDoor

namespace Go.Proofs.YtnggkkfncaidnaaGreatDoor
open Go.RowKit

/-! The tokens of a written query (data alone). -/
def nameT (s : ByteArray) : Tk := if plainB s = true then ⟨1, 0, s⟩ else ⟨2, 0, s⟩
theorem ba_id (s : ByteArray) : (⟨s.data.toList.toArray⟩ : ByteArray) = s := rfl
theorem toks_name (s : ByteArray) (r : List UInt8) (hs : ∀ c ∈ s.data.toList, ¬ (c.toNat < 33 ∨ 126 < c.toNat)) (hr : Stops r) : toksD (nameL s ++ r) = tcat [nameT s] (toksD r) := by
  unfold nameL nameT
  by_cases hp : plainB s = true
  · rw [if_pos hp, if_pos hp]
    have h2 := hp
    unfold plainB at h2
    simp only [Bool.and_eq_true, decide_eq_true_eq] at h2
    rw [toks_word _ r (fun e => h2.1.1 ((emp_list s).2 e)) (by rw [h2.1.2]; exact size_list s) hr.w, tcat_one]
  · rw [if_neg hp, if_neg hp, toks_qname _ r hs hr.q, tcat_one]
def condT2 (c : Cd) : List Tk := nameT c.field :: ⟨5, 0, ⟨(signL c.sign).toArray⟩⟩ :: itemT c.item
/-- What is asked of a condition for its text to be read again. -/
structure CFine (c : Cd) : Prop where
  f : ∀ b ∈ c.field.data.toList, ¬ (b.toNat < 33 ∨ 126 < b.toNat)
  n : numsI c.item
theorem toks_cond (c : Cd) (r : List UInt8) (hc : CFine c) (hr : Stops r) : toksD (condL c ++ r) = tcat (condT2 c) (toksD r) := by
  unfold condL condT2
  simp only [List.append_assoc]
  show toksD (nameL c.field ++ 32 :: (signL c.sign ++ 32 :: (itemL c.item ++ r))) = _
  rw [toks_name _ _ hc.f (Stops.of (.inl rfl)), toksD_blank, toks_sign _ _ (by simp), toksD_blank, toks_item _ _ hc.n hr, tcat_one, tcat_tcat, tcat_tcat]
  rfl
def andT : Tk := wordT [97, 110, 100]
def whereT : Tk := wordT [119, 104, 101, 114, 101]
def condsT2 : List Cd → List Tk
  | [] => []
  | c :: l => andT :: (condT2 c ++ condsT2 l)
def condsT1 : List Cd → List Tk
  | [] => []
  | c :: l => whereT :: (condT2 c ++ condsT2 l)
theorem stop_cond (l : List Cd) (r : List UInt8) (hr : Stops r) : Stops (condT l ++ r) := by
  cases l with
  | nil => exact hr
  | cons c l => rw [condT, andL]; exact Stops.of (.inl rfl)
theorem toks_conds2 : ∀ (l : List Cd) (r : List UInt8), (∀ c ∈ l, CFine c) → Stops r → toksD (condT l ++ r) = tcat (condsT2 l) (toksD r)
  | [], r, _, _ => by
    show toksD r = _
    cases toksD r <;> rfl
  | c :: l, r, h, hr => by
    rw [condT, condsT2, andL]
    show toksD (32 :: ([97, 110, 100] ++ 32 :: (condL c ++ condT l ++ r))) = _
    rw [toksD_blank, toks_kw _ _ (by simp) (by decide) (Stops.of (.inl rfl)), toksD_blank, List.append_assoc, toks_cond c _ (h c (by simp)) (stop_cond l r hr), toks_conds2 l r (fun d hd => h d (by simp [hd])) hr, tcat_tcat, tcat_tcat]
    rfl
theorem toks_conds : ∀ (l : List Cd) (r : List UInt8), (∀ c ∈ l, CFine c) → Stops r → toksD (condsL l ++ r) = tcat (condsT1 l) (toksD r)
  | [], r, _, _ => by
    show toksD r = _
    cases toksD r <;> rfl
  | c :: l, r, h, hr => by
    rw [condsL, condsT1, whereL]
    show toksD (32 :: ([119, 104, 101, 114, 101] ++ 32 :: (condL c ++ condT l ++ r))) = _
    rw [toksD_blank, toks_kw _ _ (by simp) (by decide) (Stops.of (.inl rfl)), toksD_blank, List.append_assoc, toks_cond c _ (h c (by simp)) (stop_cond l r hr), toks_conds2 l r (fun d hd => h d (by simp [hd])) hr, tcat_tcat, tcat_tcat]
    rfl
def orderT (q : Qd) : List Tk := if q.order = ⟨#[]⟩ then [] else [wordT [111, 114, 100, 101, 114], wordT [98, 121], nameT q.order]
def fallT (q : Qd) : List Tk := if q.falling = true then [wordT [102, 97, 108, 108, 105, 110, 103]] else []
def limitT (q : Qd) : List Tk := if 0 < q.limit then [wordT [108, 105, 109, 105, 116], ⟨3, q.limit, ⟨#[]⟩⟩] else []
def queryT (q : Qd) : List Tk := wordT [102, 114, 111, 109] :: nameT q.table :: (condsT1 q.cs ++ (orderT q ++ (fallT q ++ limitT q)))
structure QFine (q : Qd) : Prop where
  t : ∀ b ∈ q.table.data.toList, ¬ (b.toNat < 33 ∨ 126 < b.toNat)
  o : ∀ b ∈ q.order.data.toList, ¬ (b.toNat < 33 ∨ 126 < b.toNat)
  c : ∀ c ∈ q.cs, CFine c
  m : q.limit ≤ 9223372036854775807
theorem stop_limit (q : Qd) : Stops (limitL q) := by
  unfold limitL
  split
  · exact Stops.of (.inl rfl)
  · exact Stops.nil
theorem stop_fall (q : Qd) : Stops (fallL q ++ limitL q) := by
  unfold fallL
  split
  · exact Stops.of (.inl rfl)
  · exact stop_limit q
theorem stop_order (q : Qd) : Stops (orderL q ++ (fallL q ++ limitL q)) := by
  unfold orderL
  split
  · exact stop_fall q
  · exact Stops.of (.inl rfl)
theorem toks_limit (q : Qd) (h : QFine q) : toksD (limitL q) = some (limitT q) := by
  unfold limitL limitT
  split
  · rename_i h0
    show toksD (32 :: ([108, 105, 109, 105, 116] ++ 32 :: Lib.itoa q.limit)) = _
    have hn := toks_num q.limit [] (by omega) h.m rfl
    rw [List.append_nil] at hn
    rw [toksD_blank, toks_kw _ _ (by simp) (by decide) (Stops.of (.inl rfl)), toksD_blank, hn, toksD_nil]
    rfl
  · exact toksD_nil
theorem toks_fall (q : Qd) (r : List UInt8) (hr : Stops r) : toksD (fallL q ++ r) = tcat (fallT q) (toksD r) := by
  unfold fallL fallT
  split
  · show toksD (32 :: ([102, 97, 108, 108, 105, 110, 103] ++ r)) = _
    rw [toksD_blank, toks_kw _ _ (by simp) (by decide) hr]
  · show toksD r = _
    cases toksD r <;> rfl
theorem toks_order (q : Qd) (r : List UInt8) (h : QFine q) (hr : Stops r) : toksD (orderL q ++ r) = tcat (orderT q) (toksD r) := by
  unfold orderL orderT
  split
  · show toksD r = _
    cases toksD r <;> rfl
  · show toksD (32 :: ([111, 114, 100, 101, 114] ++ 32 :: ([98, 121] ++ 32 :: (nameL q.order ++ r)))) = _
    rw [toksD_blank, toks_kw _ _ (by simp) (by decide) (Stops.of (.inl rfl)), toksD_blank, toks_kw _ _ (by simp) (by decide) (Stops.of (.inl rfl)), toksD_blank, toks_name _ _ h.o hr, tcat_tcat, tcat_tcat]
    rfl
/-- THE TOKENS OF A WRITTEN QUERY. -/
theorem toks_query (q : Qd) (h : QFine q) : toksD (textL q) = some (queryT q) := by
  have e : textL q = [102, 114, 111, 109] ++ 32 :: (nameL q.table ++ (condsL q.cs ++ (orderL q ++ (fallL q ++ limitL q)))) := by
    unfold textL
    simp
  have hs : Stops (condsL q.cs ++ (orderL q ++ (fallL q ++ limitL q))) := by
    cases hc : q.cs with
    | nil => exact stop_order q
    | cons c l => rw [condsL, whereL]; exact Stops.of (.inl rfl)
  rw [e, toks_kw _ _ (by simp) (by decide) (Stops.of (.inl rfl)), toksD_blank, toks_name _ _ h.t hs, toks_conds q.cs _ h.c (stop_order q), toks_order q _ h (stop_fall q), toks_fall q _ (stop_limit q), toks_limit q h]
  rfl
end Go.Proofs.YtnggkkfncaidnaaGreatDoor
