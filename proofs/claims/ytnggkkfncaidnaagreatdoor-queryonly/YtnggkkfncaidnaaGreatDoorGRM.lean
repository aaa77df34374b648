import Derived.Test.YtnggkkfncaidnaaGreatDoorGRL
import Derived.Test.YtnggkkfncaidnaaGreatDoorGRF
namespace Go.Proofs.YtnggkkfncaidnaaGreatDoor
open Go.RowKit

/-! What was written is read again: texts, quoted names, words (data alone). -/
theorem hex_back : ∀ n : Fin 16, hexI (hexC n.1) = (n.1 : Int) := by decide
theorem escX_back (b : UInt8) (r : List UInt8) : escX (hexC (b.toNat / 16) :: hexC (b.toNat % 16) :: r) = (b, 4) := by
  have hb := b.toNat_lt
  have h1 := hex_back ⟨b.toNat / 16, by omega⟩
  have h2 := hex_back ⟨b.toNat % 16, by omega⟩
  simp only at h1 h2
  rw [escX, h1, h2, if_neg (by omega)]
  congr 1
  apply UInt8.toNat_inj.1
  rw [UInt8.toNat_ofNat']
  omega
theorem qtx_byte (b : UInt8) (r : List UInt8) : qtx (quoB b ++ r) = (qtx r).map fun p => (b :: p.1, p.2 + (quoB b).length) := by
  unfold quoB
  by_cases h1 : b.toNat < 32 ∨ 126 < b.toNat
  · rw [if_pos h1]
    have he : escD (92 :: 120 :: hexC (b.toNat / 16) :: hexC (b.toNat % 16) :: r) = (b, 4) := by
      rw [escD, if_neg (by decide), if_pos rfl, escX_back]
    show qtx (92 :: 120 :: hexC (b.toNat / 16) :: hexC (b.toNat % 16) :: r) = _
    rw [qtx, if_neg (by decide), if_neg (by decide), if_pos rfl, he, dif_neg (by simp)]
    rfl
  · rw [if_neg h1]
    by_cases h2 : b = 34 ∨ b = 92
    · rw [if_pos h2]
      have he : escD (92 :: b :: r) = (b, 2) := by rw [escD, if_pos h2]
      show qtx (92 :: b :: r) = _
      rw [qtx, if_neg (by decide), if_neg (by decide), if_pos rfl, he, dif_neg (by simp)]
      rfl
    · rw [if_neg h2]
      show qtx (b :: r) = _
      rw [qtx, if_neg (fun e => h2 (.inl e)), if_neg h1, if_neg (fun e => h2 (.inr e))]
      rfl
theorem qtx_back (t r : List UInt8) : qtx (quoL t ++ 34 :: r) = some (t, (quoL t).length + 1) := by
  induction t with
  | nil =>
    show qtx (34 :: r) = _
    rw [qtx, if_pos rfl]; rfl
  | cons b t ih =>
    have e : quoL (b :: t) = quoB b ++ quoL t := rfl
    rw [e, List.append_assoc, qtx_byte, ih]
    simp only [Option.map_some, List.length_append]
    congr 2; omega
theorem qnm_back (t r : List UInt8) (ht : ∀ c ∈ t, ¬ (c.toNat < 33 ∨ 126 < c.toNat)) (hr : r.head? ≠ some 96) : qnm (qescL t ++ 96 :: r) = some (t, (qescL t).length + 1) := by
  induction t with
  | nil =>
    show qnm (96 :: r) = _
    rw [qnm_end r hr]; rfl
  | cons b t ih =>
    have e : qescL (b :: t) = (if b = 96 then [96, 96] else [b]) ++ qescL t := rfl
    have ih := ih fun c hc => ht c (by simp [hc])
    by_cases hb : b = 96
    · subst hb
      rw [e, if_pos rfl]
      show qnm (96 :: 96 :: (qescL t ++ 96 :: r)) = _
      rw [qnm_two, ih]
      simp only [Option.map_some, List.length_append, List.length_cons, List.length_nil]
      congr 2; omega
    · rw [e, if_neg hb]
      show qnm (b :: (qescL t ++ 96 :: r)) = _
      rw [qnm_plain _ (ht b (by simp)) hb, ih]
      simp only [Option.map_some, List.length_append, List.length_cons, List.length_nil]
      congr 2; omega
theorem wfrom_back : ∀ (z : Bool) (t r : List UInt8), wfrom z t = t.length → wfrom false r = 0 → (t = [] → wfrom z r = 0) → wfrom z (t ++ r) = t.length
  | z, [], r, _, _, h0 => h0 rfl
  | z, c :: t, r, h, hr, _ => by
    rw [wfrom] at h
    split at h
    · rename_i hc
      have h' : wfrom false t = t.length := by simpa using h
      show wfrom z (c :: (t ++ r)) = _
      rw [wfrom, if_pos hc, wfrom_back false t r h' hr (fun _ => hr)]
      rfl
    · simp at h
end Go.Proofs.YtnggkkfncaidnaaGreatDoor

namespace Go.Proofs.YtnggkkfncaidnaaGreatDoor
open Go.RowKit

/-! The tokens of what was written (data alone). -/
theorem toksD_blank (r : List UInt8) : toksD (32 :: r) = toksD r := by rw [toksD, if_pos rfl]
theorem toksD_nil : toksD [] = some [] := by rw [toksD]
/-- A chunk that is one token's. -/
theorem toksD_step {x : List UInt8} {t : Tk} (r : List UInt8) (hx : x.head? ≠ some 32) (h0 : x ≠ []) (h : oneD (x ++ r) = (t, x.length)) : toksD (x ++ r) = (toksD r).map fun l => t :: l := by
  cases x with
  | nil => exact absurd rfl h0
  | cons c x =>
    have hc : c ≠ 32 := fun e => hx (by rw [e]; rfl)
    have h' : oneD (c :: (x ++ r)) = (t, (c :: x).length) := h
    show toksD (c :: (x ++ r)) = _
    rw [toksD, if_neg hc, h', dif_neg (by simp)]
    have e : (c :: (x ++ r)).drop (t, (c :: x).length).2 = r := by
      show ((c :: x) ++ r).drop (c :: x).length = r
      exact List.drop_left
    rw [e]
theorem one_text (t r : List UInt8) : oneD (34 :: (quoL t ++ 34 :: r)) = (⟨4, 0, ⟨t.toArray⟩⟩, (quoL t).length + 2) := by
  unfold oneD
  simp only
  rw [if_neg (by decide), if_neg (by decide), if_pos trivial, qtxR, qtx_back]
theorem one_qname (t r : List UInt8) (ht : ∀ c ∈ t, ¬ (c.toNat < 33 ∨ 126 < c.toNat)) (hr : r.head? ≠ some 96) : oneD (96 :: (qescL t ++ 96 :: r)) = (⟨2, 0, ⟨t.toArray⟩⟩, (qescL t).length + 2) := by
  unfold oneD
  simp only
  rw [if_neg (by decide), if_pos trivial, qnmR, qnm_back t r ht hr]
theorem one_word (t r : List UInt8) (h0 : t ≠ []) (hw : wfrom true t = t.length) (hr : wfrom false r = 0) : oneD (t ++ r) = (⟨1, 0, ⟨t.toArray⟩⟩, t.length) := by
  have hb := wfrom_back true t r hw hr (fun e => absurd e h0)
  cases t with
  | nil => exact absurd rfl h0
  | cons c t =>
    have hc : letterB c = true := by
      rw [wfrom] at hw
      split at hw
      · rename_i h
        simpa using h
      · simp at hw
    have hb' : wfrom true (c :: (t ++ r)) = (c :: t).length := hb
    show oneD (c :: (t ++ r)) = _
    unfold oneD
    simp only
    rw [if_pos hc, hb']
    have e : (c :: (t ++ r)).take (c :: t).length = c :: t := by
      show ((c :: t) ++ r).take (c :: t).length = c :: t
      exact List.take_left
    rw [e]
theorem toks_text (t r : List UInt8) : toksD (34 :: (quoL t ++ [34]) ++ r) = (toksD r).map fun l => ⟨4, 0, ⟨t.toArray⟩⟩ :: l := by
  refine toksD_step r (by simp) (by simp) ?_
  have e : (34 :: (quoL t ++ [34])) ++ r = 34 :: (quoL t ++ 34 :: r) := by simp
  rw [e, one_text]
  simp
theorem toks_qname (t r : List UInt8) (ht : ∀ c ∈ t, ¬ (c.toNat < 33 ∨ 126 < c.toNat)) (hr : r.head? ≠ some 96) : toksD (96 :: (qescL t ++ [96]) ++ r) = (toksD r).map fun l => ⟨2, 0, ⟨t.toArray⟩⟩ :: l := by
  refine toksD_step r (by simp) (by simp) ?_
  have e : (96 :: (qescL t ++ [96])) ++ r = 96 :: (qescL t ++ 96 :: r) := by simp
  rw [e, one_qname t r ht hr]
  simp
theorem toks_word (t r : List UInt8) (h0 : t ≠ []) (hw : wfrom true t = t.length) (hr : wfrom false r = 0) : toksD (t ++ r) = (toksD r).map fun l => ⟨1, 0, ⟨t.toArray⟩⟩ :: l := by
  refine toksD_step r ?_ h0 (one_word t r h0 hw hr)
  cases t with
  | nil => simp
  | cons c t =>
    intro e
    have hc : c = 32 := by simpa using e
    subst hc
    rw [wfrom] at hw
    simp [letterB, digitB] at hw
end Go.Proofs.YtnggkkfncaidnaaGreatDoor

namespace Go.Proofs.YtnggkkfncaidnaaGreatDoor
open Go.RowKit

/-! Numbers that were written are read again (data alone). -/
theorem dig_byte : ∀ k : Fin 10, (UInt8.ofNat (48 + k.1)).toNat = 48 + k.1 := by decide
theorem dig_b {k : Nat} (h : k < 10) : (UInt8.ofNat (48 + k)).toNat = 48 + k := dig_byte ⟨k, h⟩
theorem dec_ne (u : Nat) : Lib.decDigits u ≠ [] := by
  rw [Lib.decDigits]
  split <;> simp
theorem dec_all (u : Nat) : ∀ c ∈ Lib.decDigits u, digitB c = true := by
  induction u using Nat.strongRecOn with
  | ind u ih =>
    intro c hc
    rw [Lib.decDigits] at hc
    split at hc
    · rename_i h
      rw [List.mem_singleton] at hc
      rw [hc, digitB, dig_b h, decide_eq_true_eq]; omega
    · rcases List.mem_append.1 hc with h | h
      · exact ih (u / 10) (by omega) c h
      · rw [List.mem_singleton] at h
        rw [h, digitB, dig_b (by omega), decide_eq_true_eq]; omega
theorem dec_val (u : Nat) : decV (Lib.decDigits u) = u := by
  induction u using Nat.strongRecOn with
  | ind u ih =>
    rw [Lib.decDigits]
    split
    · rename_i h
      show 0 * 10 + ((UInt8.ofNat (48 + u)).toNat - 48) = u
      rw [dig_b h]; omega
    · rw [decV_snoc, ih (u / 10) (by omega), dig_b (by omega)]; omega
theorem dec_head (u : Nat) (h : 0 < u) : (Lib.decDigits u).head? ≠ some 48 := by
  induction u using Nat.strongRecOn with
  | ind u ih =>
    rw [Lib.decDigits]
    split
    · rename_i h10
      intro e
      have e : UInt8.ofNat (48 + u) = 48 := by simpa using e
      have := congrArg UInt8.toNat e
      rw [dig_b h10] at this
      have h48 : (48 : UInt8).toNat = 48 := rfl
      omega
    · have h2 := ih (u / 10) (by omega) (by omega)
      cases hz : Lib.decDigits (u / 10) with
      | nil => exact absurd hz (dec_ne _)
      | cons c t =>
        rw [hz] at h2
        exact h2
theorem dec_len : ∀ (n u : Nat), u < 10 ^ (n + 1) → (Lib.decDigits u).length ≤ n + 1
  | 0, u, h => by
    rw [Lib.decDigits, dif_pos (by simpa using h)]; simp
  | n + 1, u, h => by
    rw [Lib.decDigits]
    split
    · simp
    · have := dec_len n (u / 10) (by rw [Nat.pow_succ] at h; omega)
      rw [List.length_append, List.length_singleton]; omega
theorem dcount_all : ∀ (t r : List UInt8), (∀ c ∈ t, digitB c = true) → dcount r = 0 → dcount (t ++ r) = t.length
  | [], r, _, hr => hr
  | c :: t, r, h, hr => by
    show dcount (c :: (t ++ r)) = _
    rw [dcount, if_pos (h c (by simp)), dcount_all t r (fun d hd => h d (by simp [hd])) hr]; rfl
theorem digit_45 : digitB 45 = false := by decide
theorem bad_dec (low : Bool) (u : Nat) (h : u < 10000000000000000000) (h0 : low = true → 0 < u) : badN low (Lib.decDigits u) = false := by
  have h1 : (Lib.decDigits u).length ≤ 19 := dec_len 18 u h
  unfold badN
  rw [decide_eq_false (dec_ne u), decide_eq_false (by omega), Bool.false_or, Bool.false_or]
  by_cases hu : u = 0
  · subst hu
    have hl : low = false := by
      cases low with
      | false => rfl
      | true => exact absurd (h0 rfl) (by omega)
    rw [hl, Lib.decDigits, dif_pos (by omega)]; rfl
  · rw [decide_eq_false (dec_head u (by omega)), Bool.false_and]
theorem low_dec (u : Nat) : lowB (Lib.decDigits u) = false := by
  unfold lowB
  rw [decide_eq_false_iff_not]
  intro e
  have hm : (45 : UInt8) ∈ Lib.decDigits u := List.mem_of_mem_head? e
  have := dec_all u 45 hm
  rw [digit_45] at this
  cases this
theorem num_back (n : Int) (h1 : -9223372036854775808 ≤ n) (h2 : n ≤ 9223372036854775807) : numOk (Lib.itoa n) = true ∧ numV (Lib.itoa n) = n := by
  unfold Lib.itoa
  by_cases hn : n < 0
  · rw [if_pos hn]
    have hl : lowB (45 :: Lib.decDigits n.natAbs) = true := rfl
    have hb : bodyL (45 :: Lib.decDigits n.natAbs) = Lib.decDigits n.natAbs := rfl
    refine ⟨?_, ?_⟩
    · rw [numOk, hl, hb, natOk, bad_dec true n.natAbs (by omega) (fun _ => by omega), List.all_eq_true.2 (dec_all _), dec_val, if_pos rfl, decide_eq_true (by omega)]; rfl
    · rw [numV, hl, if_pos rfl, hb, dec_val]; omega
  · rw [if_neg hn]
    have hl := low_dec n.toNat
    have hb : bodyL (Lib.decDigits n.toNat) = Lib.decDigits n.toNat := by rw [bodyL, hl]; rfl
    refine ⟨?_, ?_⟩
    · rw [numOk, hl, hb, natOk, bad_dec false n.toNat (by omega) (fun e => by cases e), List.all_eq_true.2 (dec_all _), dec_val, if_neg (by simp), decide_eq_true (by omega)]; rfl
    · rw [numV, hl, if_neg (by simp), hb, dec_val]; omega
theorem numLen_back (n : Int) (r : List UInt8) (hr : dcount r = 0) : numLen (Lib.itoa n ++ r) = (Lib.itoa n).length := by
  unfold Lib.itoa
  by_cases hn : n < 0
  · rw [if_pos hn]
    show numLen (45 :: (Lib.decDigits n.natAbs ++ r)) = _
    rw [numLen, if_pos rfl, dcount_all _ r (dec_all _) hr]; rfl
  · rw [if_neg hn]
    have hd := dcount_all _ r (dec_all n.toNat) hr
    cases hz : Lib.decDigits n.toNat with
    | nil => exact absurd hz (dec_ne _)
    | cons c t =>
      rw [hz] at hd
      have hc : c ≠ 45 := fun e => by
        have := dec_all n.toNat c (by rw [hz]; simp)
        rw [e, digit_45] at this
        cases this
      show numLen (c :: (t ++ r)) = _
      rw [numLen, if_neg hc]
      exact hd
theorem itoa_first (n : Int) : ∃ c t, Lib.itoa n = c :: t ∧ (c = 45 ∨ digitB c = true) := by
  unfold Lib.itoa
  by_cases hn : n < 0
  · rw [if_pos hn]; exact ⟨45, _, rfl, .inl rfl⟩
  · rw [if_neg hn]
    cases hz : Lib.decDigits n.toNat with
    | nil => exact absurd hz (dec_ne _)
    | cons c t => exact ⟨c, t, rfl, .inr (dec_all n.toNat c (by rw [hz]; simp))⟩
theorem dig_no : ∀ c : UInt8, (c = 45 ∨ digitB c = true) → letterB c = false ∧ c ≠ 96 ∧ c ≠ 34 ∧ c ≠ 32 := fun c h => by
  rcases h with rfl | h
  · decide
  · have h2 := digit_le h
    refine ⟨?_, fun e => ?_, fun e => ?_, fun e => ?_⟩
    · rw [letterB, decide_eq_false_iff_not]; omega
    all_goals (subst e; revert h; decide)
theorem toks_num (n : Int) (r : List UInt8) (h1 : -9223372036854775808 ≤ n) (h2 : n ≤ 9223372036854775807) (hr : dcount r = 0) : toksD (Lib.itoa n ++ r) = (toksD r).map fun l => ⟨3, n, ⟨#[]⟩⟩ :: l := by
  obtain ⟨c, t, he, hc⟩ := itoa_first n
  obtain ⟨k1, k2, k3, k4⟩ := dig_no c hc
  have hb := num_back n h1 h2
  have hl := numLen_back n r hr
  have htk : (Lib.itoa n ++ r).take (Lib.itoa n).length = Lib.itoa n := List.take_left
  refine toksD_step r ?_ ?_ ?_
  · rw [he]; intro e; exact k4 (by simpa using e)
  · rw [he]; simp
  · have e2 : Lib.itoa n ++ r = c :: (t ++ r) := by rw [he]; rfl
    rw [e2] at hl htk
    rw [e2]
    unfold oneD
    simp only
    rw [if_neg (by simp [k1]), if_neg k2, if_neg k3, if_pos hc, hl, htk, if_pos hb.1, hb.2]
end Go.Proofs.YtnggkkfncaidnaaGreatDoor

namespace Go.Proofs.YtnggkkfncaidnaaGreatDoor
open Go.RowKit

/-! The tokens of a written item (data alone). -/
/-- What may stand behind a token: nothing that would lengthen it. -/
structure Stops (r : List UInt8) : Prop where
  w : wfrom false r = 0
  d : dcount r = 0
  e : r.head? ≠ some 61
  q : r.head? ≠ some 96
theorem Stops.nil : Stops [] := ⟨rfl, rfl, by simp, by simp⟩
theorem Stops.of {c : UInt8} {r : List UInt8} (h : c = 32 ∨ c = 44 ∨ c = 93) : Stops (c :: r) := by
  rcases h with rfl | rfl | rfl
  all_goals exact ⟨by rw [wfrom, if_neg (by decide)], by rw [dcount, if_neg (by decide)], by simp, by simp⟩
def brkT (c : UInt8) : Tk := ⟨5, 0, ⟨#[c]⟩⟩
theorem toks_brk (c : UInt8) (r : List UInt8) (h : c = 91 ∨ c = 93 ∨ c = 44) : toksD (c :: r) = (toksD r).map fun l => brkT c :: l := by
  refine toksD_step (x := [c]) r ?_ (by simp) ?_
  · rcases h with rfl | rfl | rfl <;> simp
  · show oneD (c :: r) = _
    unfold oneD
    simp only
    have hs : sgnLen (c :: r) = 1 := by
      rw [sgnLen, if_neg (by rcases h with rfl | rfl | rfl <;> simp), if_pos (by rcases h with rfl | rfl | rfl <;> simp)]
    rw [if_neg (by rcases h with rfl | rfl | rfl <;> decide), if_neg (by rcases h with rfl | rfl | rfl <;> decide), if_neg (by rcases h with rfl | rfl | rfl <;> decide), if_neg (by rcases h with rfl | rfl | rfl <;> decide), hs]
    rfl
theorem toks_sign (s : Int) (r : List UInt8) (hr : r.head? ≠ some 61) : toksD (signL s ++ r) = (toksD r).map fun l => ⟨5, 0, ⟨(signL s).toArray⟩⟩ :: l := by
  have key : ∀ x : List UInt8, x = [61] ∨ x = [60] ∨ x = [60, 61] ∨ x = [62] ∨ x = [62, 61] → toksD (x ++ r) = (toksD r).map fun l => ⟨5, 0, ⟨x.toArray⟩⟩ :: l := by
    rintro x (rfl | rfl | rfl | rfl | rfl)
    all_goals
      refine toksD_step r (by simp) (by simp) ?_
      unfold oneD
      simp only [List.cons_append, List.nil_append]
      rw [if_neg (by decide), if_neg (by decide), if_neg (by decide), if_neg (by decide)]
    · rw [show sgnLen (61 :: r) = 1 by rw [sgnLen, if_neg (by simp), if_pos (by simp)]]; rfl
    · rw [show sgnLen (60 :: r) = 1 by rw [sgnLen, if_neg (by simp [hr]), if_pos (by simp)]]; rfl
    · rw [show sgnLen (60 :: 61 :: r) = 2 by rw [sgnLen, if_pos (by simp)]]; rfl
    · rw [show sgnLen (62 :: r) = 1 by rw [sgnLen, if_neg (by simp [hr]), if_pos (by simp)]]; rfl
    · rw [show sgnLen (62 :: 61 :: r) = 2 by rw [sgnLen, if_pos (by simp)]]; rfl
  refine key _ ?_
  unfold signL
  split
  · exact .inl rfl
  split
  · exact .inr (.inl rfl)
  split
  · exact .inr (.inr (.inl rfl))
  split
  · exact .inr (.inr (.inr (.inl rfl)))
  · exact .inr (.inr (.inr (.inr rfl)))
def wordT (l : List UInt8) : Tk := ⟨1, 0, ⟨l.toArray⟩⟩
mutual
def itemT : It → List Tk
  | .mk k n t l => if k = 2 then (if n = 1 then [wordT [116, 114, 117, 101]] else [wordT [102, 97, 108, 115, 101]]) else if k = 3 then [⟨3, n, ⟨#[]⟩⟩] else if k = 4 then [⟨4, 0, t⟩] else if k = 5 then brkT 91 :: (listT l ++ [brkT 93]) else [wordT [110, 117, 108, 108]]
def listT : List It → List Tk
  | [] => []
  | x :: l => itemT x ++ tailT l
def tailT : List It → List Tk
  | [] => []
  | x :: l => brkT 44 :: (itemT x ++ tailT l)
end
mutual
def numsI : It → Prop
  | .mk _ n _ l => -9223372036854775808 ≤ n ∧ n ≤ 9223372036854775807 ∧ numsL l
def numsL : List It → Prop
  | [] => True
  | x :: l => numsI x ∧ numsL l
end
def tcat (t : List Tk) (o : Option (List Tk)) : Option (List Tk) := o.map fun l => t ++ l
theorem tcat_tcat (a b : List Tk) (o : Option (List Tk)) : tcat a (tcat b o) = tcat (a ++ b) o := by
  cases o <;> simp [tcat]
theorem tcat_one (t : Tk) (o : Option (List Tk)) : (o.map fun l => t :: l) = tcat [t] o := by cases o <;> rfl
theorem toks_kw (t r : List UInt8) (h0 : t ≠ []) (hw : wfrom true t = t.length) (hr : Stops r) : toksD (t ++ r) = tcat [wordT t] (toksD r) := by
  rw [toks_word t r h0 hw hr.w, tcat_one]; rfl
mutual
theorem toks_item : ∀ (x : It) (r : List UInt8), numsI x → Stops r → toksD (itemL x ++ r) = tcat (itemT x) (toksD r)
  | .mk k n t l, r, hx, hr => by
    rw [numsI] at hx
    rw [itemL, itemT]
    by_cases h2 : k = 2
    · rw [if_pos h2, if_pos h2]
      by_cases h1 : n = 1
      · rw [if_pos h1, if_pos h1]; exact toks_kw _ r (by simp) (by decide) hr
      · rw [if_neg h1, if_neg h1]; exact toks_kw _ r (by simp) (by decide) hr
    rw [if_neg h2, if_neg h2]
    by_cases h3 : k = 3
    · rw [if_pos h3, if_pos h3, toks_num n r hx.1 hx.2.1 hr.d, tcat_one]
    rw [if_neg h3, if_neg h3]
    by_cases h4 : k = 4
    · rw [if_pos h4, if_pos h4, quotedL, toks_text t.data.toList r, tcat_one]
    rw [if_neg h4, if_neg h4]
    by_cases h5 : k = 5
    · rw [if_pos h5, if_pos h5]
      show toksD (91 :: (listL l ++ [93] ++ r)) = _
      rw [toks_brk 91 _ (.inl rfl), List.append_assoc, show ([93] ++ r : List UInt8) = 93 :: r from rfl, toks_list l _ hx.2.2 (Stops.of (.inr (.inr rfl)))]
      rw [toks_brk 93 r (.inr (.inl rfl)), tcat_one, tcat_one, tcat_tcat, tcat_tcat]
      rfl
    rw [if_neg h5, if_neg h5]
    exact toks_kw _ r (by simp) (by decide) hr
theorem toks_list : ∀ (l : List It) (r : List UInt8), numsL l → Stops r → toksD (listL l ++ r) = tcat (listT l) (toksD r)
  | [], r, _, _ => by
    show toksD r = _
    cases toksD r <;> rfl
  | x :: l, r, hx, hr => by
    rw [numsL] at hx
    rw [listL, listT, List.append_assoc]
    have he : Stops (tailL l ++ r) := by
      cases l with
      | nil => exact hr
      | cons y l => rw [tailL]; exact Stops.of (.inr (.inl rfl))
    rw [toks_item x _ hx.1 he, toks_tail l r hx.2 hr, tcat_tcat]
theorem toks_tail : ∀ (l : List It) (r : List UInt8), numsL l → Stops r → toksD (tailL l ++ r) = tcat (tailT l) (toksD r)
  | [], r, _, _ => by
    show toksD r = _
    cases toksD r <;> rfl
  | x :: l, r, hx, hr => by
    rw [numsL] at hx
    rw [tailL, tailT]
    have he : Stops (tailL l ++ r) := by
      cases l with
      | nil => exact hr
      | cons y l => rw [tailL]; exact Stops.of (.inr (.inl rfl))
    show toksD (44 :: 32 :: (itemL x ++ tailL l ++ r)) = _
    rw [toks_brk 44 _ (.inr (.inr rfl)), toksD_blank, List.append_assoc, toks_item x _ hx.1 he, toks_tail l r hx.2 hr, tcat_one, tcat_tcat, tcat_tcat]
    rfl
end
end Go.Proofs.YtnggkkfncaidnaaGreatDoor
