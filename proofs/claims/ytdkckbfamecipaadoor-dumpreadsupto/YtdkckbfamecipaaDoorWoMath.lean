import Derived.Test.YtdkckbfamecipaaDoorKit
namespace Go.Proofs.YtdkckbfamecipaaDoor

def seenB (b : UInt8) : Bool := decide (32 ≤ b.toNat) && decide (b.toNat ≤ 126)
def bareB (b : UInt8) : Bool := decide (33 ≤ b.toNat) && decide (b.toNat ≤ 126) && decide (b.toNat ≠ 34)
def blankB (b : UInt8) : Bool := b == 32
def wordB (b : UInt8) : Bool := b != 32
def hexN (c : UInt8) : Option Nat :=
  if 48 ≤ c.toNat ∧ c.toNat ≤ 57 then some (c.toNat - 48)
  else if 97 ≤ c.toNat ∧ c.toNat ≤ 102 then some (c.toNat - 87)
  else if 65 ≤ c.toNat ∧ c.toNat ≤ 70 then some (c.toNat - 55) else none
/-- Two digits. -/
def hex2 (h l : UInt8) : Option UInt8 :=
  match hexN h, hexN l with
  | some a, some b => some (UInt8.ofNat (16 * a + b))
  | _, _ => none
/-- What stands behind a backslash. -/
def escD : List UInt8 → Option (UInt8 × List UInt8)
  | [] => none
  | e :: r => if e = 34 ∨ e = 92 then some (e, r) else if e = 120 then (match r with
    | h :: l :: q => (match hex2 h l with
      | some b => some (b, q)
      | none => none)
    | _ => none) else none
def byteD : List UInt8 → Option (UInt8 × List UInt8)
  | [] => none
  | c :: r => if c = 92 then escD r else if seenB c = true then some (c, r) else none
theorem escD_cons (e : UInt8) (r : List UInt8) : escD (e :: r) = if e = 34 ∨ e = 92 then some (e, r) else if e = 120 then (match r with
    | h :: l :: q => (match hex2 h l with
      | some b => some (b, q)
      | none => none)
    | _ => none) else none := rfl
theorem byteD_cons (c : UInt8) (r : List UInt8) : byteD (c :: r) = if c = 92 then escD r else if seenB c = true then some (c, r) else none := rfl
theorem escD_lt {t r : List UInt8} {b : UInt8} (h : escD t = some (b, r)) : r.length < t.length := by
  cases t with
  | nil => cases h
  | cons e r0 =>
    rw [escD_cons] at h
    split at h
    · cases h; simp
    · split at h
      · split at h
        · split at h
          · cases h; simp only [List.length_cons]; omega
          · cases h
        · cases h
      · cases h
theorem byteD_lt {t r : List UInt8} {b : UInt8} (h : byteD t = some (b, r)) : r.length < t.length := by
  cases t with
  | nil => cases h
  | cons c r0 =>
    rw [byteD_cons] at h
    split at h
    · have := escD_lt h; rw [List.length_cons]; omega
    · split at h
      · cases h; simp
      · cases h
def quotF : Nat → List UInt8 → List UInt8 → Option (List UInt8 × List UInt8)
  | 0, _, _ => none
  | _ + 1, _, [] => none
  | n + 1, acc, c :: r => if c = 34 then some (acc, r) else match byteD (c :: r) with
    | none => none
    | some (b, q) => quotF n (acc ++ [b]) q
theorem quotF_enough : ∀ (n m : Nat) (acc t : List UInt8), t.length < n → t.length < m → quotF n acc t = quotF m acc t
  | 0, _, _, _, h, _ => by omega
  | _, 0, _, _, _, h => by omega
  | n + 1, m + 1, acc, [], _, _ => rfl
  | n + 1, m + 1, acc, c :: r, h1, h2 => by
    unfold quotF
    split
    · rfl
    · cases hb : byteD (c :: r) with
      | none => rfl
      | some x =>
        obtain ⟨b, q⟩ := x
        have := byteD_lt hb
        exact quotF_enough n m _ q (by omega) (by omega)
/-- What stands between quotes, behind the first. -/
def quotD (acc t : List UInt8) : Option (List UInt8 × List UInt8) := quotF (t.length + 1) acc t
theorem quotD_nil (acc : List UInt8) : quotD acc [] = none := rfl
theorem quotD_end (acc r : List UInt8) : quotD acc (34 :: r) = some (acc, r) := by
  unfold quotD quotF; rw [if_pos rfl]
theorem quotD_none {acc r : List UInt8} {c : UInt8} (hc : c ≠ 34) (h : byteD (c :: r) = none) : quotD acc (c :: r) = none := by
  unfold quotD quotF; rw [if_neg hc, h]
theorem quotD_some {acc r q : List UInt8} {c b : UInt8} (hc : c ≠ 34) (h : byteD (c :: r) = some (b, q)) : quotD acc (c :: r) = quotD (acc ++ [b]) q := by
  have hl := byteD_lt h
  unfold quotD
  rw [quotF, if_neg hc, h]
  exact quotF_enough _ _ _ _ (by omega) (by omega)
theorem quotF_lt : ∀ (n : Nat) (acc t : List UInt8) {w q : List UInt8}, quotF n acc t = some (w, q) → q.length < t.length
  | 0, _, _, _, _, h => by cases h
  | n + 1, acc, [], _, _, h => by cases h
  | n + 1, acc, c :: r, w, q, h => by
    unfold quotF at h
    split at h
    · cases h; simp
    · cases hb : byteD (c :: r) with
      | none => rw [hb] at h; cases h
      | some x =>
        obtain ⟨b, q'⟩ := x
        rw [hb] at h
        have := byteD_lt hb
        have := quotF_lt n _ _ h
        omega
theorem quotD_lt {acc t w q : List UInt8} (h : quotD acc t = some (w, q)) : q.length < t.length := quotF_lt _ _ _ h
theorem quotF_len : ∀ (n : Nat) (acc t : List UInt8) {w q : List UInt8}, quotF n acc t = some (w, q) → w.length + q.length ≤ acc.length + t.length
  | 0, _, _, _, _, h => by cases h
  | n + 1, acc, [], _, _, h => by cases h
  | n + 1, acc, c :: r, w, q, h => by
    unfold quotF at h
    split at h
    · cases h; simp only [List.length_cons]; omega
    · cases hb : byteD (c :: r) with
      | none => rw [hb] at h; cases h
      | some x =>
        obtain ⟨b, q'⟩ := x
        rw [hb] at h
        have := byteD_lt hb
        have := quotF_len n _ _ h
        simp at this
        omega

/-- The word with which a text begins, and what stands behind it. -/
def wordD : List UInt8 → Option (List UInt8 × List UInt8)
  | [] => none
  | c :: r => if c = 34 then quotD [] r else some ((c :: r).takeWhile bareB, (c :: r).dropWhile bareB)
theorem wordD_cons (c : UInt8) (r : List UInt8) : wordD (c :: r) = if c = 34 then quotD [] r else some ((c :: r).takeWhile bareB, (c :: r).dropWhile bareB) := rfl
def skipB (t : List UInt8) : List UInt8 := t.dropWhile blankB
/-- May a word end here? -/
def wEndB : List UInt8 → Bool
  | [] => true
  | c :: _ => c == 32
theorem skip_len (t : List UInt8) : (skipB t).length ≤ t.length := (List.dropWhile_sublist blankB).length_le
theorem skip_lt {t : List UInt8} (h : wEndB t = true) (hne : t ≠ []) : (skipB t).length < t.length := by
  cases t with
  | nil => exact absurd rfl hne
  | cons c r =>
    have hc : blankB c = true := h
    unfold skipB
    rw [List.dropWhile_cons_of_pos hc]
    have := skip_len r
    unfold skipB at this
    simp; omega
theorem wordD_le {t w q : List UInt8} (h : wordD t = some (w, q)) : q.length ≤ t.length := by
  cases t with
  | nil => cases h
  | cons c r =>
    rw [wordD_cons] at h
    split at h
    · have := quotD_lt h; rw [List.length_cons]; omega
    · cases h
      exact (List.dropWhile_sublist bareB).length_le
theorem word_lt {t w q : List UInt8} (h : wordD t = some (w, q)) (he : wEndB q = true) : (skipB q).length < t.length := by
  have h1 := wordD_le h
  by_cases hq : q = []
  · subst hq
    cases t with
    | nil => cases h
    | cons c r => simp [skipB]
  · have := skip_lt he hq
    omega
def wordsF : Nat → List (List UInt8) → List UInt8 → Option (List (List UInt8))
  | 0, _, _ => none
  | _ + 1, acc, [] => some acc
  | n + 1, acc, c :: r => match wordD (c :: r) with
    | none => none
    | some (w, q) => if wEndB q = true then wordsF n (acc ++ [w]) (skipB q) else none
theorem wordsF_enough : ∀ (n m : Nat) (acc : List (List UInt8)) (t : List UInt8), t.length < n → t.length < m → wordsF n acc t = wordsF m acc t
  | 0, _, _, _, h, _ => by omega
  | _, 0, _, _, _, h => by omega
  | n + 1, m + 1, acc, [], _, _ => rfl
  | n + 1, m + 1, acc, c :: r, h1, h2 => by
    unfold wordsF
    cases hb : wordD (c :: r) with
    | none => rfl
    | some x =>
      obtain ⟨w, q⟩ := x
      show (if wEndB q = true then wordsF n (acc ++ [w]) (skipB q) else none) = (if wEndB q = true then wordsF m (acc ++ [w]) (skipB q) else none)
      by_cases he : wEndB q = true
      · rw [if_pos he, if_pos he]
        have := word_lt hb he
        exact wordsF_enough n m _ _ (by omega) (by omega)
      · rw [if_neg he, if_neg he]
def wordsD (acc : List (List UInt8)) (t : List UInt8) : Option (List (List UInt8)) := wordsF (t.length + 1) acc t
theorem wordsD_nil (acc : List (List UInt8)) : wordsD acc [] = some acc := rfl
theorem wordsD_none {acc : List (List UInt8)} {t : List UInt8} (hne : t ≠ []) (h : wordD t = none) : wordsD acc t = none := by
  cases t with
  | nil => exact absurd rfl hne
  | cons c r => unfold wordsD wordsF; rw [h]
theorem wordsD_bad {acc : List (List UInt8)} {t w q : List UInt8} (h : wordD t = some (w, q)) (he : wEndB q = false) : wordsD acc t = none := by
  cases t with
  | nil => cases h
  | cons c r =>
    unfold wordsD wordsF; rw [h]
    show (if wEndB q = true then _ else none) = none
    rw [if_neg (by rw [he]; decide)]
theorem wordsD_some {acc : List (List UInt8)} {t w q : List UInt8} (h : wordD t = some (w, q)) (he : wEndB q = true) : wordsD acc t = wordsD (acc ++ [w]) (skipB q) := by
  have hl := word_lt h he
  cases t with
  | nil => cases h
  | cons c r =>
    unfold wordsD
    rw [wordsF, h]
    show (if wEndB q = true then _ else none) = _
    rw [if_pos he]
    exact wordsF_enough _ _ _ _ (by omega) (by omega)

theorem wordsF_len : ∀ (n : Nat) (acc : List (List UInt8)) (t : List UInt8) {ws : List (List UInt8)}, wordsF n acc t = some ws → ws.length ≤ acc.length + t.length
  | 0, _, _, _, h => by cases h
  | n + 1, acc, [], ws, h => by
    have : acc = ws := by simpa [wordsF] using h
    subst this; simp
  | n + 1, acc, c :: r, ws, h => by
    unfold wordsF at h
    cases hb : wordD (c :: r) with
    | none => rw [hb] at h; cases h
    | some x =>
      obtain ⟨w, q⟩ := x
      rw [hb] at h
      have h' : (if wEndB q = true then wordsF n (acc ++ [w]) (skipB q) else none) = some ws := h
      by_cases he : wEndB q = true
      · rw [if_pos he] at h'
        have h1 := word_lt hb he
        have h2 := wordsF_len n _ _ h'
        rw [List.length_append, List.length_singleton] at h2
        omega
      · rw [if_neg he] at h'; cases h'
theorem wordsD_len (acc : List (List UInt8)) (t : List UInt8) {ws : List (List UInt8)} (h : wordsD acc t = some ws) : ws.length ≤ acc.length + t.length := wordsF_len _ _ _ h
/-- The document's plain word. -/
theorem bare_word {c : UInt8} (h : bareB c = true) : wordB c = true := by
  unfold wordB
  rw [bne_iff_ne]
  rintro rfl
  revert h; decide
theorem plain_ok : ∀ {t : List UInt8}, (t.takeWhile wordB).all bareB = true → t.takeWhile bareB = t.takeWhile wordB ∧ t.dropWhile bareB = t.dropWhile wordB ∧ wEndB (t.dropWhile bareB) = true
  | [], _ => ⟨rfl, rfl, rfl⟩
  | c :: r, h => by
    by_cases hw : wordB c = true
    · rw [List.takeWhile_cons_of_pos hw, List.all_cons, Bool.and_eq_true] at h
      obtain ⟨h1, h2, h3⟩ := plain_ok h.2
      rw [List.takeWhile_cons_of_pos hw, List.takeWhile_cons_of_pos h.1, List.dropWhile_cons_of_pos hw, List.dropWhile_cons_of_pos h.1]
      exact ⟨by rw [h1], h2, h3⟩
    · have hb : ¬ bareB c = true := fun hb => hw (bare_word hb)
      rw [List.takeWhile_cons_of_neg hw, List.takeWhile_cons_of_neg hb, List.dropWhile_cons_of_neg hw, List.dropWhile_cons_of_neg hb]
      refine ⟨rfl, rfl, ?_⟩
      unfold wordB at hw
      simpa [wEndB] using hw
theorem plain_no : ∀ {t : List UInt8}, (t.takeWhile wordB).all bareB = false → wEndB (t.dropWhile bareB) = false
  | [], h => by cases h
  | c :: r, h => by
    by_cases hw : wordB c = true
    · rw [List.takeWhile_cons_of_pos hw, List.all_cons] at h
      by_cases hb : bareB c = true
      · rw [List.dropWhile_cons_of_pos hb]
        rw [hb, Bool.true_and] at h
        exact plain_no h
      · rw [List.dropWhile_cons_of_neg hb]
        unfold wordB at hw
        simpa [wEndB] using hw
    · rw [List.takeWhile_cons_of_neg hw] at h; cases h

/-- A word, quoted. -/
def hexC (n : Nat) : UInt8 := if n < 10 then UInt8.ofNat (48 + n) else UInt8.ofNat (87 + n)
def quoB (b : UInt8) : List UInt8 := if seenB b = false then [92, 120, hexC (b.toNat / 16), hexC (b.toNat % 16)] else if b = 34 ∨ b = 92 then [92, b] else [b]
def plainB (b : UInt8) : Bool := bareB b && b != 92
def bareW : List UInt8 → Bool
  | [] => false
  | c :: r => c != 35 && (c :: r).all plainB
def quoL (l : List UInt8) : List UInt8 := l.flatMap quoB
def quoW (l : List UInt8) : List UInt8 := if bareW l = true then l else 34 :: (quoL l ++ [34])
theorem hex_back : ∀ n : Fin 16, hexN (hexC n.1) = some n.1 := by decide
theorem quo_back (b : UInt8) (r : List UInt8) : ∃ c q, quoB b ++ r = c :: q ∧ c ≠ 34 ∧ byteD (c :: q) = some (b, r) := by
  unfold quoB
  split
  · refine ⟨92, _, rfl, by decide, ?_⟩
    have hb := b.toNat_lt
    have h1 := hex_back ⟨b.toNat / 16, by omega⟩
    have h2 := hex_back ⟨b.toNat % 16, by omega⟩
    simp only at h1 h2
    show byteD (92 :: 120 :: hexC (b.toNat / 16) :: hexC (b.toNat % 16) :: r) = _
    rw [byteD_cons, if_pos rfl, escD_cons, if_neg (by decide), if_pos rfl]
    simp only
    unfold hex2
    rw [h1, h2]
    simp only
    rw [show 16 * (b.toNat / 16) + b.toNat % 16 = b.toNat by omega, UInt8.ofNat_toNat]
  · split
    · rename_i h
      refine ⟨92, _, rfl, by decide, ?_⟩
      show byteD (92 :: b :: r) = _
      rw [byteD_cons, if_pos rfl, escD_cons, if_pos h]
    · rename_i hs h
      have hs' : seenB b = true := by simpa using hs
      refine ⟨b, _, rfl, fun e => h (.inl e), ?_⟩
      show byteD (b :: r) = _
      rw [byteD_cons, if_neg (fun e => h (.inr e)), if_pos hs']
theorem quoL_back : ∀ (l acc r : List UInt8), quotD acc (quoL l ++ 34 :: r) = some (acc ++ l, r)
  | [], acc, r => by
    show quotD acc (34 :: r) = _
    rw [quotD_end, List.append_nil]
  | b :: l, acc, r => by
    show quotD acc ((b :: l).flatMap quoB ++ 34 :: r) = _
    rw [List.flatMap_cons, List.append_assoc]
    obtain ⟨c, q, he, hc, hb⟩ := quo_back b (l.flatMap quoB ++ 34 :: r)
    rw [he, quotD_some hc hb]
    have := quoL_back l (acc ++ [b]) r
    unfold quoL at this
    rw [this, List.append_assoc]; rfl
theorem all_take {p : UInt8 → Bool} : ∀ {l r : List UInt8}, l.all p = true → (∀ c q, r = c :: q → p c = false) → (l ++ r).takeWhile p = l ∧ (l ++ r).dropWhile p = r
  | [], r, _, h => by
    cases r with
    | nil => exact ⟨rfl, rfl⟩
    | cons c q =>
      have := h c q rfl
      show (c :: q).takeWhile p = [] ∧ (c :: q).dropWhile p = c :: q
      rw [List.takeWhile_cons_of_neg (by rw [this]; decide), List.dropWhile_cons_of_neg (by rw [this]; decide)]
      exact ⟨rfl, rfl⟩
  | a :: l, r, hl, h => by
    rw [List.all_cons, Bool.and_eq_true] at hl
    obtain ⟨h1, h2⟩ := all_take (l := l) hl.2 h
    rw [List.cons_append, List.takeWhile_cons_of_pos hl.1, List.dropWhile_cons_of_pos hl.1, h1, h2]
    exact ⟨rfl, rfl⟩
theorem quoW_back (l r : List UInt8) (hr : wEndB r = true) : wordD (quoW l ++ r) = some (l, r) := by
  unfold quoW
  split
  · rename_i h
    cases l with
    | nil => cases h
    | cons c q =>
      have h' : (c != 35 && (c :: q).all plainB) = true := h
      rw [Bool.and_eq_true] at h'
      have hall : (c :: q).all bareB = true := by
        rw [List.all_eq_true] at h' ⊢
        intro x hx
        have := h'.2 x hx
        unfold plainB at this
        rw [Bool.and_eq_true] at this
        exact this.1
      have hc : c ≠ 34 := by
        rintro rfl
        have := List.all_eq_true.1 hall 34 (by simp)
        revert this; decide
      obtain ⟨h1, h2⟩ := all_take (p := bareB) (r := r) hall (fun c q e => by
        subst e
        have : c = 32 := by simpa [wEndB] using hr
        subst this; decide)
      rw [List.cons_append]
      rw [wordD_cons, if_neg hc]
      rw [List.cons_append] at h1 h2
      rw [h1, h2]
  · show wordD (34 :: (quoL l ++ [34] ++ r)) = _
    rw [wordD_cons, if_pos rfl, List.append_assoc]
    have := quoL_back l [] r
    simpa using this
theorem quoW_head (l : List UInt8) : ∃ c q, quoW l = c :: q ∧ c ≠ 32 := by
  unfold quoW
  split
  · rename_i h
    cases l with
    | nil => cases h
    | cons c q =>
      refine ⟨c, q, rfl, ?_⟩
      rintro rfl
      have h' : ((32 : UInt8) != 35 && ((32 : UInt8) :: q).all plainB) = true := h
      rw [Bool.and_eq_true, List.all_cons, Bool.and_eq_true] at h'
      have := h'.2.1
      revert this; decide
  · exact ⟨34, _, rfl, by decide⟩
theorem skip_quo (l r : List UInt8) : skipB (quoW l ++ r) = quoW l ++ r := by
  obtain ⟨c, q, h, hc⟩ := quoW_head l
  rw [h, List.cons_append]
  unfold skipB
  rw [List.dropWhile_cons_of_neg]
  unfold blankB
  simpa using hc
theorem quoW_ne (l r : List UInt8) : quoW l ++ r ≠ [] := by
  obtain ⟨c, q, h, hc⟩ := quoW_head l
  rw [h]; simp
/-- Quote, read back. -/
theorem words_one (l : List UInt8) : wordsD [] (skipB (quoW l)) = some [l] := by
  have h1 := skip_quo l []
  have h2 := quoW_back l [] rfl
  rw [List.append_nil] at h1 h2
  rw [h1, wordsD_some h2 rfl]
  rfl
theorem words_two (l : List UInt8) : wordsD [] (skipB ([32, 32, 97, 32] ++ quoW l ++ [32, 32] ++ quoW l)) = some [[97], l, l] := by
  have e1 : skipB ([32, 32, 97, 32] ++ quoW l ++ [32, 32] ++ quoW l) = 97 :: 32 :: (quoW l ++ ([32, 32] ++ quoW l)) := by
    simp [skipB, blankB, List.dropWhile]
  have e2 : wordD (97 :: 32 :: (quoW l ++ ([32, 32] ++ quoW l))) = some ([97], 32 :: (quoW l ++ ([32, 32] ++ quoW l))) := by
    rw [wordD_cons, if_neg (by decide), List.takeWhile_cons_of_pos (by decide), List.takeWhile_cons_of_neg (by decide), List.dropWhile_cons_of_pos (by decide), List.dropWhile_cons_of_neg (by decide)]
  have e3 : skipB (32 :: (quoW l ++ ([32, 32] ++ quoW l))) = quoW l ++ ([32, 32] ++ quoW l) := by
    have := skip_quo l ([32, 32] ++ quoW l)
    unfold skipB at this ⊢
    rw [List.dropWhile_cons_of_pos (by decide), this]
  have e4 : skipB ([32, 32] ++ quoW l) = quoW l := by
    have := skip_quo l []
    rw [List.append_nil] at this
    unfold skipB at this ⊢
    show List.dropWhile blankB (32 :: 32 :: quoW l) = _
    rw [List.dropWhile_cons_of_pos (by decide), List.dropWhile_cons_of_pos (by decide), this]
  have h2 := quoW_back l [] rfl
  rw [List.append_nil] at h2
  rw [e1, wordsD_some e2 rfl, e3, wordsD_some (quoW_back l _ rfl) rfl, e4, wordsD_some h2 rfl]
  rfl
theorem quoB_len (b : UInt8) : (quoB b).length ≤ 4 := by
  unfold quoB
  split
  · simp
  · split <;> simp
theorem quoL_len : ∀ l : List UInt8, (quoL l).length ≤ 4 * l.length
  | [] => by simp [quoL]
  | b :: l => by
    have := quoB_len b
    have := quoL_len l
    unfold quoL at *
    rw [List.flatMap_cons, List.length_append, List.length_cons]
    omega
theorem quoW_len (l : List UInt8) : (quoW l).length ≤ 4 * l.length + 2 := by
  unfold quoW
  split
  · omega
  · have := quoL_len l
    simp; omega
end Go.Proofs.YtdkckbfamecipaaDoor
