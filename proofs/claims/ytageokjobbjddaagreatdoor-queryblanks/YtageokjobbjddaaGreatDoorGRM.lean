import Derived.Test.YtageokjobbjddaaGreatDoorGRL
import Derived.Test.YtageokjobbjddaaGreatDoorGRK
namespace Go.Proofs.YtageokjobbjddaaGreatDoor
open Go.RowKit

/-! Numbers that were written are read again (data alone). -/
theorem dig_byte : ∀ k : Fin 10, (UInt8.ofNat (48 + k.1)).toNat = 48 + k.1 := by decide
theorem dig_b {k : Nat} (h : k < 10) : (UInt8.ofNat (48 + k)).toNat = 48 + k := dig_byte ⟨k, h⟩
theorem dec_ne (u : Nat) : Lib.decDigits u ≠ [] := by
  rw [Lib.decDigits]
  split <;> simp
theorem dec_all (u : Nat) : ∀ c ∈ Lib.decDigits u, digitB c = true := by
  induction u using Nat.strongRecOn with
  | ind u ih =>
    intro c hc
    rw [Lib.decDigits] at hc
    split at hc
    · rename_i h
      rw [List.mem_singleton] at hc
      rw [hc, digitB, dig_b h, decide_eq_true_eq]; omega
    · rcases List.mem_append.1 hc with h | h
      · exact ih (u / 10) (by omega) c h
      · rw [List.mem_singleton] at h
        rw [h, digitB, dig_b (by omega), decide_eq_true_eq]; omega
theorem dec_val (u : Nat) : decV (Lib.decDigits u) = u := by
  induction u using Nat.strongRecOn with
  | ind u ih =>
    rw [Lib.decDigits]
    split
    · rename_i h
      show 0 * 10 + ((UInt8.ofNat (48 + u)).toNat - 48) = u
      rw [dig_b h]; omega
    · rw [decV_snoc, ih (u / 10) (by omega), dig_b (by omega)]; omega
theorem dec_head (u : Nat) (h : 0 < u) : (Lib.decDigits u).head? ≠ some 48 := by
  induction u using Nat.strongRecOn with
  | ind u ih =>
    rw [Lib.decDigits]
    split
    · rename_i h10
      intro e
      have e : UInt8.ofNat (48 + u) = 48 := by simpa using e
      have := congrArg UInt8.toNat e
      rw [dig_b h10] at this
      have h48 : (48 : UInt8).toNat = 48 := rfl
      omega
    · have h2 := ih (u / 10) (by omega) (by omega)
      cases hz : Lib.decDigits (u / 10) with
      | nil => exact absurd hz (dec_ne _)
      | cons c t =>
        rw [hz] at h2
        exact h2
theorem dec_len : ∀ (n u : Nat), u < 10 ^ (n + 1) → (Lib.decDigits u).length ≤ n + 1
  | 0, u, h => by
    rw [Lib.decDigits, dif_pos (by simpa using h)]; simp
  | n + 1, u, h => by
    rw [Lib.decDigits]
    split
    · simp
    · have := dec_len n (u / 10) (by rw [Nat.pow_succ] at h; omega)
      rw [List.length_append, List.length_singleton]; omega
theorem dcount_all : ∀ (t r : List UInt8), (∀ c ∈ t, digitB c = true) → dcount r = 0 → dcount (t ++ r) = t.length
  | [], r, _, hr => hr
  | c :: t, r, h, hr => by
    show dcount (c :: (t ++ r)) = _
    rw [dcount, if_pos (h c (by simp)), dcount_all t r (fun d hd => h d (by simp [hd])) hr]; rfl
theorem digit_45 : digitB 45 = false := by decide
theorem bad_dec (low : Bool) (u : Nat) (h : u < 10000000000000000000) (h0 : low = true → 0 < u) : badN low (Lib.decDigits u) = false := by
  have h1 : (Lib.decDigits u).length ≤ 19 := dec_len 18 u h
  unfold badN
  rw [decide_eq_false (dec_ne u), decide_eq_false (by omega), Bool.false_or, Bool.false_or]
  by_cases hu : u = 0
  · subst hu
    have hl : low = false := by
      cases low with
      | false => rfl
      | true => exact absurd (h0 rfl) (by omega)
    rw [hl, Lib.decDigits, dif_pos (by omega)]; rfl
  · rw [decide_eq_false (dec_head u (by omega)), Bool.false_and]
theorem low_dec (u : Nat) : lowB (Lib.decDigits u) = false := by
  unfold lowB
  rw [decide_eq_false_iff_not]
  intro e
  have hm : (45 : UInt8) ∈ Lib.decDigits u := List.mem_of_mem_head? e
  have := dec_all u 45 hm
  rw [digit_45] at this
  cases this
theorem num_back (n : Int) (h1 : -9223372036854775808 ≤ n) (h2 : n ≤ 9223372036854775807) : numOk (Lib.itoa n) = true ∧ numV (Lib.itoa n) = n := by
  unfold Lib.itoa
  by_cases hn : n < 0
  · rw [if_pos hn]
    have hl : lowB (45 :: Lib.decDigits n.natAbs) = true := rfl
    have hb : bodyL (45 :: Lib.decDigits n.natAbs) = Lib.decDigits n.natAbs := rfl
    refine ⟨?_, ?_⟩
    · rw [numOk, hl, hb, natOk, bad_dec true n.natAbs (by omega) (fun _ => by omega), List.all_eq_true.2 (dec_all _), dec_val, if_pos rfl, decide_eq_true (by omega)]; rfl
    · rw [numV, hl, if_pos rfl, hb, dec_val]; omega
  · rw [if_neg hn]
    have hl := low_dec n.toNat
    have hb : bodyL (Lib.decDigits n.toNat) = Lib.decDigits n.toNat := by rw [bodyL, hl]; rfl
    refine ⟨?_, ?_⟩
    · rw [numOk, hl, hb, natOk, bad_dec false n.toNat (by omega) (fun e => by cases e), List.all_eq_true.2 (dec_all _), dec_val, if_neg (by simp), decide_eq_true (by omega)]; rfl
    · rw [numV, hl, if_neg (by simp), hb, dec_val]; omega
theorem numLen_back (n : Int) (r : List UInt8) (hr : dcount r = 0) : numLen (Lib.itoa n ++ r) = (Lib.itoa n).length := by
  unfold Lib.itoa
  by_cases hn : n < 0
  · rw [if_pos hn]
    show numLen (45 :: (Lib.decDigits n.natAbs ++ r)) = _
    rw [numLen, if_pos rfl, dcount_all _ r (dec_all _) hr]; rfl
  · rw [if_neg hn]
    have hd := dcount_all _ r (dec_all n.toNat) hr
    cases hz : Lib.decDigits n.toNat with
    | nil => exact absurd hz (dec_ne _)
    | cons c t =>
      rw [hz] at hd
      have hc : c ≠ 45 := fun e => by
        have := dec_all n.toNat c (by rw [hz]; simp)
        rw [e, digit_45] at this
        cases this
      show numLen (c :: (t ++ r)) = _
      rw [numLen, if_neg hc]
      exact hd
theorem itoa_first (n : Int) : ∃ c t, Lib.itoa n = c :: t ∧ (c = 45 ∨ digitB c = true) := by
  unfold Lib.itoa
  by_cases hn : n < 0
  · rw [if_pos hn]; exact ⟨45, _, rfl, .inl rfl⟩
  · rw [if_neg hn]
    cases hz : Lib.decDigits n.toNat with
    | nil => exact absurd hz (dec_ne _)
    | cons c t => exact ⟨c, t, rfl, .inr (dec_all n.toNat c (by rw [hz]; simp))⟩
theorem dig_no : ∀ c : UInt8, (c = 45 ∨ digitB c = true) → letterB c = false ∧ c ≠ 96 ∧ c ≠ 34 ∧ c ≠ 32 := fun c h => by
  rcases h with rfl | h
  · decide
  · have h2 := digit_le h
    refine ⟨?_, fun e => ?_, fun e => ?_, fun e => ?_⟩
    · rw [letterB, decide_eq_false_iff_not]; omega
    all_goals (subst e; revert h; decide)
theorem toks_num (n : Int) (r : List UInt8) (h1 : -9223372036854775808 ≤ n) (h2 : n ≤ 9223372036854775807) (hr : dcount r = 0) : toksD (Lib.itoa n ++ r) = (toksD r).map fun l => ⟨3, n, ⟨#[]⟩⟩ :: l := by
  obtain ⟨c, t, he, hc⟩ := itoa_first n
  obtain ⟨k1, k2, k3, k4⟩ := dig_no c hc
  have hb := num_back n h1 h2
  have hl := numLen_back n r hr
  have htk : (Lib.itoa n ++ r).take (Lib.itoa n).length = Lib.itoa n := List.take_left
  refine toksD_step r ?_ ?_ ?_
  · rw [he]; intro e; exact k4 (by simpa using e)
  · rw [he]; simp
  · have e2 : Lib.itoa n ++ r = c :: (t ++ r) := by rw [he]; rfl
    rw [e2] at hl htk
    rw [e2]
    unfold oneD
    simp only
    rw [if_neg (by simp [k1]), if_neg k2, if_neg k3, if_pos hc, hl, htk, if_pos hb.1, hb.2]
end Go.Proofs.YtageokjobbjddaaGreatDoor

namespace Go.Proofs.YtageokjobbjddaaGreatDoor
open Go.RowKit

/-! The tokens of a written item (data alone). -/
/-- What may stand behind a token: nothing that would lengthen it. -/
structure Stops (r : List UInt8) : Prop where
  w : wfrom false r = 0
  d : dcount r = 0
  e : r.head? ≠ some 61
  q : r.head? ≠ some 96
theorem Stops.nil : Stops [] := ⟨rfl, rfl, by simp, by simp⟩
theorem Stops.of {c : UInt8} {r : List UInt8} (h : c = 32 ∨ c = 44 ∨ c = 93) : Stops (c :: r) := by
  rcases h with rfl | rfl | rfl
  all_goals exact ⟨by rw [wfrom, if_neg (by decide)], by rw [dcount, if_neg (by decide)], by simp, by simp⟩
def brkT (c : UInt8) : Tk := ⟨5, 0, ⟨#[c]⟩⟩
theorem toks_brk (c : UInt8) (r : List UInt8) (h : c = 91 ∨ c = 93 ∨ c = 44) : toksD (c :: r) = (toksD r).map fun l => brkT c :: l := by
  refine toksD_step (x := [c]) r ?_ (by simp) ?_
  · rcases h with rfl | rfl | rfl <;> simp
  · show oneD (c :: r) = _
    unfold oneD
    simp only
    have hs : sgnLen (c :: r) = 1 := by
      rw [sgnLen, if_neg (by rcases h with rfl | rfl | rfl <;> simp), if_pos (by rcases h with rfl | rfl | rfl <;> simp)]
    rw [if_neg (by rcases h with rfl | rfl | rfl <;> decide), if_neg (by rcases h with rfl | rfl | rfl <;> decide), if_neg (by rcases h with rfl | rfl | rfl <;> decide), if_neg (by rcases h with rfl | rfl | rfl <;> decide), hs]
    rfl
theorem toks_sign (s : Int) (r : List UInt8) (hr : r.head? ≠ some 61) : toksD (signL s ++ r) = (toksD r).map fun l => ⟨5, 0, ⟨(signL s).toArray⟩⟩ :: l := by
  have key : ∀ x : List UInt8, x = [61] ∨ x = [60] ∨ x = [60, 61] ∨ x = [62] ∨ x = [62, 61] → toksD (x ++ r) = (toksD r).map fun l => ⟨5, 0, ⟨x.toArray⟩⟩ :: l := by
    rintro x (rfl | rfl | rfl | rfl | rfl)
    all_goals
      refine toksD_step r (by simp) (by simp) ?_
      unfold oneD
      simp only [List.cons_append, List.nil_append]
      rw [if_neg (by decide), if_neg (by decide), if_neg (by decide), if_neg (by decide)]
    · rw [show sgnLen (61 :: r) = 1 by rw [sgnLen, if_neg (by simp), if_pos (by simp)]]; rfl
    · rw [show sgnLen (60 :: r) = 1 by rw [sgnLen, if_neg (by simp [hr]), if_pos (by simp)]]; rfl
    · rw [show sgnLen (60 :: 61 :: r) = 2 by rw [sgnLen, if_pos (by simp)]]; rfl
    · rw [show sgnLen (62 :: r) = 1 by rw [sgnLen, if_neg (by simp [hr]), if_pos (by simp)]]; rfl
    · rw [show sgnLen (62 :: 61 :: r) = 2 by rw [sgnLen, if_pos (by simp)]]; rfl
  refine key _ ?_
  unfold signL
  split
  · exact .inl rfl
  split
  · exact .inr (.inl rfl)
  split
  · exact .inr (.inr (.inl rfl))
  split
  · exact .inr (.inr (.inr (.inl rfl)))
  · exact .inr (.inr (.inr (.inr rfl)))
def wordT (l : List UInt8) : Tk := ⟨1, 0, ⟨l.toArray⟩⟩
mutual
def itemT : It → List Tk
  | .mk k n t l => if k = 2 then (if n = 1 then [wordT [116, 114, 117, 101]] else [wordT [102, 97, 108, 115, 101]]) else if k = 3 then [⟨3, n, ⟨#[]⟩⟩] else if k = 4 then [⟨4, 0, t⟩] else if k = 5 then brkT 91 :: (listT l ++ [brkT 93]) else [wordT [110, 117, 108, 108]]
def listT : List It → List Tk
  | [] => []
  | x :: l => itemT x ++ tailT l
def tailT : List It → List Tk
  | [] => []
  | x :: l => brkT 44 :: (itemT x ++ tailT l)
end
mutual
def numsI : It → Prop
  | .mk _ n _ l => -9223372036854775808 ≤ n ∧ n ≤ 9223372036854775807 ∧ numsL l
def numsL : List It → Prop
  | [] => True
  | x :: l => numsI x ∧ numsL l
end
def tcat (t : List Tk) (o : Option (List Tk)) : Option (List Tk) := o.map fun l => t ++ l
theorem tcat_tcat (a b : List Tk) (o : Option (List Tk)) : tcat a (tcat b o) = tcat (a ++ b) o := by
  cases o <;> simp [tcat]
theorem tcat_one (t : Tk) (o : Option (List Tk)) : (o.map fun l => t :: l) = tcat [t] o := by cases o <;> rfl
theorem toks_kw (t r : List UInt8) (h0 : t ≠ []) (hw : wfrom true t = t.length) (hr : Stops r) : toksD (t ++ r) = tcat [wordT t] (toksD r) := by
  rw [toks_word t r h0 hw hr.w, tcat_one]; rfl
mutual
theorem toks_item : ∀ (x : It) (r : List UInt8), numsI x → Stops r → toksD (itemL x ++ r) = tcat (itemT x) (toksD r)
  | .mk k n t l, r, hx, hr => by
    rw [numsI] at hx
    rw [itemL, itemT]
    by_cases h2 : k = 2
    · rw [if_pos h2, if_pos h2]
      by_cases h1 : n = 1
      · rw [if_pos h1, if_pos h1]; exact toks_kw _ r (by simp) (by decide) hr
      · rw [if_neg h1, if_neg h1]; exact toks_kw _ r (by simp) (by decide) hr
    rw [if_neg h2, if_neg h2]
    by_cases h3 : k = 3
    · rw [if_pos h3, if_pos h3, toks_num n r hx.1 hx.2.1 hr.d, tcat_one]
    rw [if_neg h3, if_neg h3]
    by_cases h4 : k = 4
    · rw [if_pos h4, if_pos h4, quotedL, toks_text t.data.toList r, tcat_one]
    rw [if_neg h4, if_neg h4]
    by_cases h5 : k = 5
    · rw [if_pos h5, if_pos h5]
      show toksD (91 :: (listL l ++ [93] ++ r)) = _
      rw [toks_brk 91 _ (.inl rfl), List.append_assoc, show ([93] ++ r : List UInt8) = 93 :: r from rfl, toks_list l _ hx.2.2 (Stops.of (.inr (.inr rfl)))]
      rw [toks_brk 93 r (.inr (.inl rfl)), tcat_one, tcat_one, tcat_tcat, tcat_tcat]
      rfl
    rw [if_neg h5, if_neg h5]
    exact toks_kw _ r (by simp) (by decide) hr
theorem toks_list : ∀ (l : List It) (r : List UInt8), numsL l → Stops r → toksD (listL l ++ r) = tcat (listT l) (toksD r)
  | [], r, _, _ => by
    show toksD r = _
    cases toksD r <;> rfl
  | x :: l, r, hx, hr => by
    rw [numsL] at hx
    rw [listL, listT, List.append_assoc]
    have he : Stops (tailL l ++ r) := by
      cases l with
      | nil => exact hr
      | cons y l => rw [tailL]; exact Stops.of (.inr (.inl rfl))
    rw [toks_item x _ hx.1 he, toks_tail l r hx.2 hr, tcat_tcat]
theorem toks_tail : ∀ (l : List It) (r : List UInt8), numsL l → Stops r → toksD (tailL l ++ r) = tcat (tailT l) (toksD r)
  | [], r, _, _ => by
    show toksD r = _
    cases toksD r <;> rfl
  | x :: l, r, hx, hr => by
    rw [numsL] at hx
    rw [tailL, tailT]
    have he : Stops (tailL l ++ r) := by
      cases l with
      | nil => exact hr
      | cons y l => rw [tailL]; exact Stops.of (.inr (.inl rfl))
    show toksD (44 :: 32 :: (itemL x ++ tailL l ++ r)) = _
    rw [toks_brk 44 _ (.inr (.inr rfl)), toksD_blank, List.append_assoc, toks_item x _ hx.1 he, toks_tail l r hx.2 hr, tcat_one, tcat_tcat, tcat_tcat]
    rfl
end
end Go.Proofs.YtageokjobbjddaaGreatDoor

namespace Go.Proofs.YtageokjobbjddaaGreatDoor
open Go.RowKit

/-! The tokens of a written query (data alone). -/
def nameT (s : ByteArray) : Tk := if plainB s = true then ⟨1, 0, s⟩ else ⟨2, 0, s⟩
theorem ba_id (s : ByteArray) : (⟨s.data.toList.toArray⟩ : ByteArray) = s := rfl
theorem toks_name (s : ByteArray) (r : List UInt8) (hs : ∀ c ∈ s.data.toList, ¬ (c.toNat < 33 ∨ 126 < c.toNat)) (hr : Stops r) : toksD (nameL s ++ r) = tcat [nameT s] (toksD r) := by
  unfold nameL nameT
  by_cases hp : plainB s = true
  · rw [if_pos hp, if_pos hp]
    have h2 := hp
    unfold plainB at h2
    simp only [Bool.and_eq_true, decide_eq_true_eq] at h2
    rw [toks_word _ r (fun e => h2.1.1 ((emp_list s).2 e)) (by rw [h2.1.2]; exact size_list s) hr.w, tcat_one]
  · rw [if_neg hp, if_neg hp, toks_qname _ r hs hr.q, tcat_one]
def condT2 (c : Cd) : List Tk := nameT c.field :: ⟨5, 0, ⟨(signL c.sign).toArray⟩⟩ :: itemT c.item
/-- What is asked of a condition for its text to be read again. -/
structure CFine (c : Cd) : Prop where
  f : ∀ b ∈ c.field.data.toList, ¬ (b.toNat < 33 ∨ 126 < b.toNat)
  n : numsI c.item
theorem toks_cond (c : Cd) (r : List UInt8) (hc : CFine c) (hr : Stops r) : toksD (condL c ++ r) = tcat (condT2 c) (toksD r) := by
  unfold condL condT2
  simp only [List.append_assoc]
  show toksD (nameL c.field ++ 32 :: (signL c.sign ++ 32 :: (itemL c.item ++ r))) = _
  rw [toks_name _ _ hc.f (Stops.of (.inl rfl)), toksD_blank, toks_sign _ _ (by simp), toksD_blank, toks_item _ _ hc.n hr, tcat_one, tcat_tcat, tcat_tcat]
  rfl
def andT : Tk := wordT [97, 110, 100]
def whereT : Tk := wordT [119, 104, 101, 114, 101]
def condsT2 : List Cd → List Tk
  | [] => []
  | c :: l => andT :: (condT2 c ++ condsT2 l)
def condsT1 : List Cd → List Tk
  | [] => []
  | c :: l => whereT :: (condT2 c ++ condsT2 l)
theorem stop_cond (l : List Cd) (r : List UInt8) (hr : Stops r) : Stops (condT l ++ r) := by
  cases l with
  | nil => exact hr
  | cons c l => rw [condT, andL]; exact Stops.of (.inl rfl)
theorem toks_conds2 : ∀ (l : List Cd) (r : List UInt8), (∀ c ∈ l, CFine c) → Stops r → toksD (condT l ++ r) = tcat (condsT2 l) (toksD r)
  | [], r, _, _ => by
    show toksD r = _
    cases toksD r <;> rfl
  | c :: l, r, h, hr => by
    rw [condT, condsT2, andL]
    show toksD (32 :: ([97, 110, 100] ++ 32 :: (condL c ++ condT l ++ r))) = _
    rw [toksD_blank, toks_kw _ _ (by simp) (by decide) (Stops.of (.inl rfl)), toksD_blank, List.append_assoc, toks_cond c _ (h c (by simp)) (stop_cond l r hr), toks_conds2 l r (fun d hd => h d (by simp [hd])) hr, tcat_tcat, tcat_tcat]
    rfl
theorem toks_conds : ∀ (l : List Cd) (r : List UInt8), (∀ c ∈ l, CFine c) → Stops r → toksD (condsL l ++ r) = tcat (condsT1 l) (toksD r)
  | [], r, _, _ => by
    show toksD r = _
    cases toksD r <;> rfl
  | c :: l, r, h, hr => by
    rw [condsL, condsT1, whereL]
    show toksD (32 :: ([119, 104, 101, 114, 101] ++ 32 :: (condL c ++ condT l ++ r))) = _
    rw [toksD_blank, toks_kw _ _ (by simp) (by decide) (Stops.of (.inl rfl)), toksD_blank, List.append_assoc, toks_cond c _ (h c (by simp)) (stop_cond l r hr), toks_conds2 l r (fun d hd => h d (by simp [hd])) hr, tcat_tcat, tcat_tcat]
    rfl
def orderT (q : Qd) : List Tk := if q.order = ⟨#[]⟩ then [] else [wordT [111, 114, 100, 101, 114], wordT [98, 121], nameT q.order]
def fallT (q : Qd) : List Tk := if q.falling = true then [wordT [102, 97, 108, 108, 105, 110, 103]] else []
def limitT (q : Qd) : List Tk := if 0 < q.limit then [wordT [108, 105, 109, 105, 116], ⟨3, q.limit, ⟨#[]⟩⟩] else []
def queryT (q : Qd) : List Tk := wordT [102, 114, 111, 109] :: nameT q.table :: (condsT1 q.cs ++ (orderT q ++ (fallT q ++ limitT q)))
structure QFine (q : Qd) : Prop where
  t : ∀ b ∈ q.table.data.toList, ¬ (b.toNat < 33 ∨ 126 < b.toNat)
  o : ∀ b ∈ q.order.data.toList, ¬ (b.toNat < 33 ∨ 126 < b.toNat)
  c : ∀ c ∈ q.cs, CFine c
  m : q.limit ≤ 9223372036854775807
theorem stop_limit (q : Qd) : Stops (limitL q) := by
  unfold limitL
  split
  · exact Stops.of (.inl rfl)
  · exact Stops.nil
theorem stop_fall (q : Qd) : Stops (fallL q ++ limitL q) := by
  unfold fallL
  split
  · exact Stops.of (.inl rfl)
  · exact stop_limit q
theorem stop_order (q : Qd) : Stops (orderL q ++ (fallL q ++ limitL q)) := by
  unfold orderL
  split
  · exact stop_fall q
  · exact Stops.of (.inl rfl)
theorem toks_limit (q : Qd) (h : QFine q) : toksD (limitL q) = some (limitT q) := by
  unfold limitL limitT
  split
  · rename_i h0
    show toksD (32 :: ([108, 105, 109, 105, 116] ++ 32 :: Lib.itoa q.limit)) = _
    have hn := toks_num q.limit [] (by omega) h.m rfl
    rw [List.append_nil] at hn
    rw [toksD_blank, toks_kw _ _ (by simp) (by decide) (Stops.of (.inl rfl)), toksD_blank, hn, toksD_nil]
    rfl
  · exact toksD_nil
theorem toks_fall (q : Qd) (r : List UInt8) (hr : Stops r) : toksD (fallL q ++ r) = tcat (fallT q) (toksD r) := by
  unfold fallL fallT
  split
  · show toksD (32 :: ([102, 97, 108, 108, 105, 110, 103] ++ r)) = _
    rw [toksD_blank, toks_kw _ _ (by simp) (by decide) hr]
  · show toksD r = _
    cases toksD r <;> rfl
theorem toks_order (q : Qd) (r : List UInt8) (h : QFine q) (hr : Stops r) : toksD (orderL q ++ r) = tcat (orderT q) (toksD r) := by
  unfold orderL orderT
  split
  · show toksD r = _
    cases toksD r <;> rfl
  · show toksD (32 :: ([111, 114, 100, 101, 114] ++ 32 :: ([98, 121] ++ 32 :: (nameL q.order ++ r)))) = _
    rw [toksD_blank, toks_kw _ _ (by simp) (by decide) (Stops.of (.inl rfl)), toksD_blank, toks_kw _ _ (by simp) (by decide) (Stops.of (.inl rfl)), toksD_blank, toks_name _ _ h.o hr, tcat_tcat, tcat_tcat]
    rfl
/-- THE TOKENS OF A WRITTEN QUERY. -/
theorem toks_query (q : Qd) (h : QFine q) : toksD (textL q) = some (queryT q) := by
  have e : textL q = [102, 114, 111, 109] ++ 32 :: (nameL q.table ++ (condsL q.cs ++ (orderL q ++ (fallL q ++ limitL q)))) := by
    unfold textL
    simp
  have hs : Stops (condsL q.cs ++ (orderL q ++ (fallL q ++ limitL q))) := by
    cases hc : q.cs with
    | nil => exact stop_order q
    | cons c l => rw [condsL, whereL]; exact Stops.of (.inl rfl)
  rw [e, toks_kw _ _ (by simp) (by decide) (Stops.of (.inl rfl)), toksD_blank, toks_name _ _ h.t hs, toks_conds q.cs _ h.c (stop_order q), toks_order q _ h (stop_fall q), toks_fall q _ (stop_limit q), toks_limit q h]
  rfl
end Go.Proofs.YtageokjobbjddaaGreatDoor

namespace Go.Proofs.YtageokjobbjddaaGreatDoor
open Go.RowKit

/-! The document's tokens are the program's (data alone). -/
def sgnN (s : ByteArray) : Int := if s = ⟨#[61]⟩ then 1 else if s = ⟨#[60]⟩ then 2 else if s = ⟨#[60, 61]⟩ then 3 else if s = ⟨#[62]⟩ then 4 else 5
def ptk (t : Tk) : Pt :=
  if t.kind = 1 then (if resB t.text = true then ⟨2, t.text, 0⟩ else namedD t.text)
  else if t.kind = 2 then namedD t.text
  else if t.kind = 3 then ⟨4, ⟨#[]⟩, t.num⟩
  else if t.kind = 4 then ⟨5, t.text, 0⟩
  else if t.text = ⟨#[91]⟩ ∨ t.text = ⟨#[93]⟩ ∨ t.text = ⟨#[44]⟩ then ⟨7, t.text, 0⟩
  else ⟨6, ⟨#[]⟩, sgnN t.text⟩
theorem ptk_five (x : ByteArray) : ptk ⟨5, 0, x⟩ = if x = ⟨#[91]⟩ ∨ x = ⟨#[93]⟩ ∨ x = ⟨#[44]⟩ then ⟨7, x, 0⟩ else ⟨6, ⟨#[]⟩, sgnN x⟩ := by
  unfold ptk
  simp only
  rw [if_neg (show ¬ (5 : Int) = 1 by decide), if_neg (show ¬ (5 : Int) = 2 by decide), if_neg (show ¬ (5 : Int) = 3 by decide), if_neg (show ¬ (5 : Int) = 4 by decide)]
theorem wfrom_lead : ∀ (l : List UInt8), wfrom false l = (l.takeWhile inwB).length
  | [] => rfl
  | c :: r => by
    rw [wfrom, List.takeWhile_cons]
    have e : (letterB c || (!false && digitB c)) = inwB c := by simp [inwB]
    rw [e]
    split
    · rename_i h; rw [wfrom_lead r]; simp
    · simp
theorem dcount_lead : ∀ (l : List UInt8), dcount l = (l.takeWhile digitB).length
  | [] => rfl
  | c :: r => by
    rw [dcount, List.takeWhile_cons]
    split
    · rename_i h; rw [dcount_lead r]; simp
    · simp
theorem qnm_pqn : ∀ (l : List UInt8) (p : List UInt8 × Nat), qnm l = some p → pqn l = some (p.1, l.drop p.2)
  | [], p, h => by simp [qnm] at h
  | [c], p, h => by
    rw [qnm] at h
    split at h
    · cases h
    split at h
    · rename_i hc; cases h; simp [pqn, hc]
    · cases h
  | c :: d :: r, p, h => by
    rw [qnm] at h
    split at h
    · cases h
    split at h
    · rename_i hc
      split at h
      · rename_i hd
        obtain ⟨q', hq', rfl⟩ := Option.map_eq_some_iff.1 h
        rw [pqn, if_pos hc, if_pos hd, qnm_pqn r q' hq']
        simp
      · rename_i hd
        cases h
        rw [pqn, if_pos hc, if_neg hd]
        simp
    · rename_i hc
      obtain ⟨q', hq', rfl⟩ := Option.map_eq_some_iff.1 h
      rw [pqn, if_neg hc, qnm_pqn (d :: r) q' hq']
      simp
theorem qnm_none : ∀ (l : List UInt8) (q : List UInt8 × List UInt8), qnm l = none → pqn l = some q → q.1.all nameB = false
  | [], q, _, h => by simp [pqn] at h
  | [c], q, h, h2 => by
    by_cases hc : c = 96
    · subst hc
      rw [qnm] at h
      simp at h
    · simp only [pqn, if_neg hc] at h2; cases h2
  | c :: d :: r, q, h, h2 => by
    rw [pqn] at h2
    by_cases hb : c.toNat < 33 ∨ 126 < c.toNat
    · have hc : c ≠ 96 := fun e => by subst e; revert hb; decide
      rw [if_neg hc] at h2
      obtain ⟨q', hq', rfl⟩ := Option.map_eq_some_iff.1 h2
      have : nameB c = false := by simp [nameB]; omega
      simp [this]
    · rw [qnm, if_neg hb] at h
      by_cases hc : c = 96
      · rw [if_pos hc] at h h2
        by_cases hd : d = 96
        · rw [if_pos hd] at h h2
          obtain ⟨q', hq', rfl⟩ := Option.map_eq_some_iff.1 h2
          have := qnm_none r q' (by simpa using h) hq'
          simp [this]
        · rw [if_neg hd] at h; cases h
      · rw [if_neg hc] at h h2
        obtain ⟨q', hq', rfl⟩ := Option.map_eq_some_iff.1 h2
        have := qnm_none (d :: r) q' (by simpa using h) hq'
        simp [this]
/-! Numbers. -/
theorem dec_back : ∀ (n : Nat) (t : List UInt8), t.length = n → t ≠ [] → (∀ c ∈ t, digitB c = true) → (t.head? = some 48 → t.length = 1) → Lib.decDigits (decV t) = t ∧ (t.head? ≠ some 48 → 0 < decV t)
  | 0, t, h, h0, _, _ => absurd (List.length_eq_zero_iff.1 h) h0
  | n + 1, t, h, h0, hd, hz => by
    obtain ⟨l, c, rfl⟩ : ∃ l c, t = l ++ [c] := ⟨t.dropLast, t.getLast h0, (List.dropLast_concat_getLast h0).symm⟩
    have hc := digit_le (hd c (by simp))
    have hcb : UInt8.ofNat (48 + (c.toNat - 48)) = c := by
      rw [show 48 + (c.toNat - 48) = c.toNat by omega]; simp
    rw [decV_snoc]
    by_cases hl : l = []
    · subst hl
      have e0 : decV [] = 0 := rfl
      rw [e0, Nat.zero_mul, Nat.zero_add, Lib.decDigits, dif_pos (by omega), hcb]
      refine ⟨rfl, fun hh => ?_⟩
      have : c ≠ 48 := fun e => hh (by rw [e]; rfl)
      have : c.toNat ≠ 48 := fun e => this (by rw [← UInt8.toNat_inj]; exact e)
      omega
    · have hh : (l ++ [c]).head? = l.head? := by cases l with | nil => exact absurd rfl hl | cons _ _ => rfl
      have hl1 : 1 ≤ l.length := List.length_pos_iff.2 hl
      have hne : l.head? ≠ some 48 := fun e => by have := hz (by rw [hh]; exact e); rw [List.length_append, List.length_singleton] at this; omega
      obtain ⟨ih1, ih2⟩ := dec_back n l (by simp at h; omega) hl (fun x hx => hd x (by simp [hx])) (fun e => absurd e hne)
      have hp := ih2 hne
      refine ⟨?_, fun _ => by omega⟩
      rw [Lib.decDigits, dif_neg (by omega), show (decV l * 10 + (c.toNat - 48)) / 10 = decV l by omega, show (decV l * 10 + (c.toNat - 48)) % 10 = c.toNat - 48 by omega, ih1, hcb]
theorem parse_dec : ∀ (l : List UInt8) (acc : Nat), (∀ c ∈ l, digitB c = true) → acc * 10 ^ l.length + decV l < 10000000000000000000 → Lib.parseUint10 acc l = .ok (acc * 10 ^ l.length + decV l)
  | [], acc, _, _ => by simp [Lib.parseUint10, decV]
  | c :: r, acc, hd, hlt => by
    have hc := digit_le (hd c (by simp))
    have e : decV (c :: r) = (c.toNat - 48) * 10 ^ r.length + decV r := by
      have key : ∀ (l : List UInt8) (a : Nat), l.foldl (fun u c => u * 10 + (c.toNat - 48)) a = a * 10 ^ l.length + decV l := by
        intro l
        induction l with
        | nil => intro a; simp [decV]
        | cons x l ih =>
          intro a
          unfold decV
          rw [List.foldl_cons, List.foldl_cons, ih, ih, List.length_cons, Nat.pow_succ]
          simp only [Nat.zero_mul, Nat.zero_add]
          rw [Nat.add_mul, Nat.mul_assoc, Nat.mul_comm 10 (10 ^ l.length)]
          omega
      show (c :: r).foldl _ 0 = _
      rw [List.foldl_cons, key]
      simp
    have hp : 1 ≤ 10 ^ r.length := Nat.pow_pos (by omega)
    have e2 : acc * 10 ^ (c :: r).length + decV (c :: r) = (acc * 10 + (c.toNat - 48)) * 10 ^ r.length + decV r := by
      rw [e, List.length_cons, Nat.pow_succ, Nat.add_mul, Nat.mul_assoc, Nat.mul_comm 10 (10 ^ r.length)]
      omega
    rw [e2] at hlt ⊢
    have hb : acc * 10 + (c.toNat - 48) < 10000000000000000000 := by
      have := Nat.mul_le_mul_left (acc * 10 + (c.toNat - 48)) hp
      omega
    rw [Lib.parseUint10, if_pos hc, if_neg (by omega), if_neg (by omega)]
    exact parse_dec r _ (fun x hx => hd x (by simp [hx])) hlt
theorem mag_dec (l : List UInt8) (h0 : l ≠ []) (hd : ∀ c ∈ l, digitB c = true) (hlt : decV l < 10000000000000000000) : Lib.parseMag l = .ok (decV l) := by
  unfold Lib.parseMag
  rw [if_neg h0, parse_dec l 0 hd (by omega)]
  simp
theorem badN_no {low : Bool} {t : List UInt8} (h : badN low t = false) : t ≠ [] ∧ t.length ≤ 19 ∧ (t.head? = some 48 → t.length = 1 ∧ low = false) := by
  unfold badN at h
  simp only [Bool.or_eq_false_iff, decide_eq_false_iff_not, Bool.and_eq_false_iff] at h
  obtain ⟨⟨h1, h2⟩, h3⟩ := h
  refine ⟨h1, by omega, fun hh => ?_⟩
  rcases h3 with h3 | ⟨h3, h4⟩
  · exact absurd hh h3
  · have := List.length_pos_iff.2 h1
    exact ⟨by omega, h4⟩
theorem num_is (t : List UInt8) (h : numOk t = true) : Lib.atoiAll t = .ok (numV t) ∧ Lib.itoa (numV t) = t := by
  unfold numOk natOk at h
  simp only [Bool.and_eq_true, Bool.not_eq_true', decide_eq_true_eq, List.all_eq_true] at h
  obtain ⟨⟨hb, hd⟩, hv⟩ := h
  obtain ⟨n0, n1, n2⟩ := badN_no hb
  cases hlow : lowB t with
  | true =>
    have hh : t.head? = some 45 := by simpa [lowB] using hlow
    obtain ⟨r, rfl⟩ : ∃ r, t = 45 :: r := by
      cases t with
      | nil => simp at hh
      | cons c r => simp at hh; exact ⟨r, by rw [hh]⟩
    have hbody : bodyL (45 :: r) = r := by rw [bodyL, if_pos hlow]; rfl
    rw [hlow] at hv n2
    rw [hbody] at hd hv n0 n1 n2
    simp only [if_true] at hv
    have hnz : r.head? ≠ some 48 := fun e => by have := (n2 e).2; cases this
    obtain ⟨k1, k2⟩ := dec_back _ r rfl n0 hd (fun e => absurd e hnz)
    have hpos := k2 hnz
    have hV : numV (45 :: r) = -(decV r : Int) := by rw [numV, if_pos hlow, hbody]
    rw [hV]
    refine ⟨?_, ?_⟩
    · rw [Lib.atoiAll_minus, mag_dec r n0 hd (by omega)]
      simp only [Lib.signed]
      rw [if_neg (by omega)]
    · unfold Lib.itoa
      rw [if_pos (by omega), show (-(decV r : Int)).natAbs = decV r by omega, k1]
  | false =>
    have hbody : bodyL t = t := by rw [bodyL, if_neg (by rw [hlow]; simp)]
    rw [hlow] at hv
    rw [hbody] at hd hv n0 n1 n2
    simp only [Bool.false_eq_true, if_false] at hv
    obtain ⟨k1, k2⟩ := dec_back _ t rfl n0 hd (fun e => (n2 e).1)
    have hV : numV t = (decV t : Int) := by rw [numV, if_neg (by rw [hlow]; simp), hbody]
    rw [hV]
    refine ⟨?_, ?_⟩
    · cases t with
      | nil => exact absurd rfl n0
      | cons c r =>
        have hc := digit_le (hd c (by simp))
        rw [Lib.atoiAll_plain c r (by omega) (by omega), mag_dec _ n0 hd (by omega)]
        simp only [Lib.signless]
        rw [if_neg (by omega)]
    · unfold Lib.itoa
      rw [if_neg (by omega)]
      simpa using k1
theorem numT_is (t : ByteArray) : numT t = if numOk t.data.toList = true then some (numV t.data.toList) else none := by
  by_cases h : numOk t.data.toList = true
  · rw [if_pos h]
    obtain ⟨h1, h2⟩ := num_is _ h
    unfold numT
    rw [h1]
    simp only
    rw [if_pos h2]
  · rw [if_neg h]
    unfold numT
    split
    · rename_i v hv
      split
      · rename_i he
        have hb := Lib.atoiAll_bounds hv
        have := (num_back v hb.1 hb.2).1
        rw [he] at this
        exact absurd this h
      · rfl
    · rfl
/-! Signs. -/
theorem pre_one (a c : UInt8) (r : List UInt8) : [a].isPrefixOf (c :: r) = decide (a = c) := by
  simp [List.isPrefixOf, BEq.beq]
theorem pre_two (a b c : UInt8) (r : List UInt8) : [a, b].isPrefixOf (c :: r) = (decide (a = c) && decide (r.head? = some b)) := by
  cases r with
  | nil => simp [List.isPrefixOf]
  | cons d r =>
    simp only [List.isPrefixOf, List.head?_cons, Option.some.injEq, Bool.and_true]
    congr 1
    by_cases h : b = d
    · subst h; simp
    · have h' : ¬ d = b := fun e => h e.symm
      simp [h, h']
theorem psg_five (s : ByteArray) : psg s 5 = if [62, 61].isPrefixOf s.data.toList = true then some (5, s.extract 2 s.size) else if [62].isPrefixOf s.data.toList = true then some (4, s.extract 1 s.size) else if [60, 61].isPrefixOf s.data.toList = true then some (3, s.extract 2 s.size) else if [60].isPrefixOf s.data.toList = true then some (2, s.extract 1 s.size) else if [61].isPrefixOf s.data.toList = true then some (1, s.extract 1 s.size) else none := by
  rfl
theorem sgn_cut (c : UInt8) (r : List UInt8) (hm : markB c = false) : signD ⟨(c :: r).toArray⟩ = if sgnLen (c :: r) = 0 then (ptBad, ⟨#[]⟩) else (⟨6, ⟨#[]⟩, sgnN ⟨((c :: r).take (sgnLen (c :: r))).toArray⟩⟩, ⟨((c :: r).drop (sgnLen (c :: r))).toArray⟩) := by
  have hd : ∀ n, (⟨(c :: r).toArray⟩ : ByteArray).extract n (⟨(c :: r).toArray⟩ : ByteArray).size = ⟨((c :: r).drop n).toArray⟩ := fun n => ba_drop _ n
  unfold signD
  rw [psg_five, hd, hd]
  dsimp only
  rw [pre_two, pre_one, pre_two, pre_one, pre_one]
  simp only [markB, decide_eq_false_iff_not, not_or] at hm
  unfold sgnLen
  by_cases h62 : c = 62
  · subst h62
    by_cases h2 : r.head? = some 61
    · obtain ⟨r', rfl⟩ : ∃ r', r = 61 :: r' := by
        cases r with
        | nil => simp at h2
        | cons d r => simp at h2; exact ⟨r, by rw [h2]⟩
      rfl
    · simp [h2]; rfl
  · by_cases h60 : c = 60
    · subst h60
      by_cases h2 : r.head? = some 61
      · obtain ⟨r', rfl⟩ : ∃ r', r = 61 :: r' := by
          cases r with
          | nil => simp at h2
          | cons d r => simp at h2; exact ⟨r, by rw [h2]⟩
        rfl
      · simp [h2]; rfl
    · by_cases h61 : c = 61
      · subst h61
        simp; rfl
      · have n62 : ¬ (62 : UInt8) = c := fun e => h62 e.symm
        have n60 : ¬ (60 : UInt8) = c := fun e => h60 e.symm
        have n61 : ¬ (61 : UInt8) = c := fun e => h61 e.symm
        simp [n62, n60, n61, h62, h60, h61, hm]
/-! One token. -/
theorem cut_form (c : UInt8) (r : List UInt8) : cutD ⟨(c :: r).toArray⟩ = (if letterB c = true then (wordD ⟨(c :: r).toArray⟩ (leadN inwB ⟨(c :: r).toArray⟩), (⟨(c :: r).toArray⟩ : ByteArray).extract (leadN inwB ⟨(c :: r).toArray⟩) (⟨(c :: r).toArray⟩ : ByteArray).size)
    else if c = 96 then ((quotD r).1, ⟨(quotD r).2.toArray⟩)
    else if c = 45 ∨ digitB c = true then numD ⟨(c :: r).toArray⟩ (numN ⟨(c :: r).toArray⟩)
    else if c = 34 then ((textD r).1, ⟨(textD r).2.toArray⟩)
    else if markB c = true then (⟨7, ⟨#[c]⟩, 0⟩, (⟨(c :: r).toArray⟩ : ByteArray).extract 1 (⟨(c :: r).toArray⟩ : ByteArray).size)
    else signD ⟨(c :: r).toArray⟩) := rfl
theorem ba_take (l : List UInt8) (n : Nat) : (⟨l.toArray⟩ : ByteArray).extract 0 n = ⟨(l.take n).toArray⟩ := by
  have := ex_sub ⟨l.toArray⟩ 0 n
  rw [Nat.zero_add] at this
  rw [this]
  rfl
theorem ba_tail (l : List UInt8) (n : Nat) : (⟨l.toArray⟩ : ByteArray).extract n (⟨l.toArray⟩ : ByteArray).size = ⟨(l.drop n).toArray⟩ := ba_drop _ n
/-- What the program cuts off is what the document has there; where that has none it is bad. -/
theorem cut_one' (c : UInt8) (r : List UInt8) : if (oneD (c :: r)).2 = 0 then (cutD ⟨(c :: r).toArray⟩).1.kind = 1 else cutD ⟨(c :: r).toArray⟩ = (ptk (oneD (c :: r)).1, ⟨((c :: r).drop (oneD (c :: r)).2).toArray⟩) := by
  rw [cut_form]
  unfold oneD
  simp only
  by_cases hl : letterB c = true
  · rw [if_pos hl, if_pos hl]
    have e : wfrom true (c :: r) = leadN inwB ⟨(c :: r).toArray⟩ := by
      rw [wfrom]
      simp only [hl, Bool.true_or, if_true]
      rw [wfrom_lead]
      unfold leadN
      rw [ba_list', List.takeWhile_cons]
      have : inwB c = true := by simp [inwB, hl]
      rw [this]
      simp
    have e0 : wfrom true (c :: r) ≠ 0 := by
      rw [wfrom]
      simp [hl]
    rw [if_neg e0, ← e, ba_tail]
    unfold wordD
    rw [ba_take]
    rfl
  · rw [if_neg hl, if_neg hl]
    by_cases h96 : c = 96
    · rw [if_pos h96, if_pos h96]
      unfold qnmR quotD
      cases hq : qnm r with
      | none =>
        simp only [if_true]
        cases hp : pqn r with
        | none => rfl
        | some q =>
          have := qnm_none r q hq hp
          show (namedD ⟨q.1.toArray⟩).kind = 1
          unfold namedD isNameD
          rw [ba_list', this]
          rfl
      | some p =>
        simp only
        rw [if_neg (by omega), qnm_pqn r p hq]
        rfl
    · rw [if_neg h96, if_neg h96]
      by_cases h34 : c = 34
      · subst h34
        rw [if_pos rfl, if_neg (show ¬ ((34 : UInt8) = 45 ∨ digitB 34 = true) by decide), if_pos rfl]
        unfold qtxR textD ptx
        cases hq : qtx r with
        | none => rfl
        | some p =>
          simp only [Option.map]
          rw [if_neg (by omega)]
          rfl
      · rw [if_neg h34, if_neg h34]
        by_cases hn : c = 45 ∨ digitB c = true
        · rw [if_pos hn, if_pos hn]
          have e : numN ⟨(c :: r).toArray⟩ = numLen (c :: r) := by
            unfold numN leadN
            rw [ex_tail, ba_list']
            show 1 + (List.takeWhile digitB r).length = _
            rw [numLen, ← dcount_lead]
            rcases hn with h | h
            · rw [if_pos h]; omega
            · split
              · omega
              · rw [dcount, if_pos h]; omega
          rw [e]
          unfold numD
          rw [ba_take, ba_tail, numT_is, ba_list']
          by_cases hk : numOk ((c :: r).take (numLen (c :: r))) = true
          · rw [if_pos hk]
            have e0 : numLen (c :: r) ≠ 0 := by
              rw [numLen]
              rcases hn with h | h
              · rw [if_pos h]; omega
              · split
                · omega
                · rw [dcount, if_pos h]; omega
            simp only [hk, if_true]
            rw [if_neg e0]
            rfl
          · simp only [hk]
            rfl
        · rw [if_neg hn, if_neg hn]
          cases hm : markB c with
          | true =>
            rw [if_pos rfl, ba_tail]
            have hm2 : c = 91 ∨ c = 93 ∨ c = 44 := by simpa [markB] using hm
            rcases hm2 with rfl | rfl | rfl <;> rfl
          | false =>
            rw [if_neg (show ¬ (false = true) by simp), sgn_cut c r hm]
            by_cases h0 : sgnLen (c :: r) = 0
            · simp only [h0, if_true]; rfl
            · simp only [h0, if_false]
              have hnm : ¬ ((⟨((c :: r).take (sgnLen (c :: r))).toArray⟩ : ByteArray) = ⟨#[91]⟩ ∨ (⟨((c :: r).take (sgnLen (c :: r))).toArray⟩ : ByteArray) = ⟨#[93]⟩ ∨ (⟨((c :: r).take (sgnLen (c :: r))).toArray⟩ : ByteArray) = ⟨#[44]⟩) := by
                simp only [markB, decide_eq_false_iff_not, not_or] at hm
                obtain ⟨n, hn⟩ : ∃ n, sgnLen (c :: r) = n + 1 := ⟨sgnLen (c :: r) - 1, by omega⟩
                rw [hn, List.take_succ_cons]
                have key : ∀ x : UInt8, c ≠ x → (⟨(c :: r.take n).toArray⟩ : ByteArray) ≠ ⟨#[x]⟩ := fun x hx e => by
                  have := congrArg (fun b : ByteArray => b.data.toList) e
                  simp at this
                  exact hx this.1
                rintro (h | h | h)
                · exact key _ hm.1 h
                · exact key _ hm.2.1 h
                · exact key _ hm.2.2 h
              rw [ptk_five, if_neg hnm]
end Go.Proofs.YtageokjobbjddaaGreatDoor
