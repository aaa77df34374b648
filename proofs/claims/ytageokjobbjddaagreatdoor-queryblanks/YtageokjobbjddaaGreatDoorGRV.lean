import Derived.Test.YtageokjobbjddaaGreatDoorGRM
import Derived.Test.YtageokjobbjddaaGreatDoorGRF
import Derived.Test.YtageokjobbjddaaGreatDoorGRP
namespace Go.Proofs.YtageokjobbjddaaGreatDoor
open Go.RowKit

/-! A written query with more blanks has the same tokens (data alone). -/
/-- m is l with more blanks behind blanks outside of texts; z tells whether l begins inside of one. -/
inductive Bs : Bool → List UInt8 → List UInt8 → Prop
  | nil (z : Bool) : Bs z [] []
  | esc (c : UInt8) {r m : List UInt8} : Bs true r m → Bs true (92 :: c :: r) (92 :: c :: m)
  | quo (z : Bool) {r m : List UInt8} : Bs (!z) r m → Bs z (34 :: r) (34 :: m)
  | sp (k : Nat) {r m : List UInt8} : Bs false r m → Bs false (32 :: r) (32 :: (List.replicate k 32 ++ m))
  | one (z : Bool) (c : UInt8) {r m : List UInt8} : c ≠ 34 → ¬ (z = false ∧ c = 32) → ¬ (z = true ∧ c = 92) → Bs z r m → Bs z (c :: r) (c :: m)
theorem Bs.head {z : Bool} {l m : List UInt8} (h : Bs z l m) : m.head? = l.head? := by cases h <;> rfl
theorem Bs.plain : ∀ (x r m : List UInt8), (∀ c ∈ x, c ≠ 34 ∧ c ≠ 32) → Bs false (x ++ r) m → ∃ m', m = x ++ m' ∧ Bs false r m'
  | [], r, m, _, h => ⟨m, rfl, h⟩
  | c :: x, r, m, hx, h => by
    have hc := hx c (by simp)
    cases h with
    | quo _ _ => exact absurd rfl hc.1
    | sp _ _ => exact absurd rfl hc.2
    | one _ _ _ _ _ h =>
      obtain ⟨m', rfl, h2⟩ := Bs.plain x r _ (fun d hd => hx d (by simp [hd])) h
      exact ⟨m', rfl, h2⟩
theorem Bs.plain_mk : ∀ (x r m : List UInt8), (∀ c ∈ x, c ≠ 34 ∧ c ≠ 32) → Bs false r m → Bs false (x ++ r) (x ++ m)
  | [], _, _, _, h => h
  | c :: x, r, m, hx, h => .one false c (hx c (by simp)).1 (fun e => (hx c (by simp)).2 e.2) (fun e => by cases e.1) (Bs.plain_mk x r m (fun d hd => hx d (by simp [hd])) h)
theorem hexC_no : ∀ n : Fin 16, hexC n.1 ≠ 34 ∧ hexC n.1 ≠ 92 := by decide
theorem hexC_no' {n : Nat} (h : n < 16) : hexC n ≠ 34 ∧ hexC n ≠ 92 := hexC_no ⟨n, h⟩
theorem Bs.in1 {c : UInt8} {r m : List UInt8} (h : Bs true (c :: r) m) (h1 : c ≠ 34) (h2 : c ≠ 92) : ∃ m', m = c :: m' ∧ Bs true r m' := by
  cases h with
  | esc _ _ => exact absurd rfl h2
  | quo _ _ => exact absurd rfl h1
  | one _ _ _ _ _ h => exact ⟨_, rfl, h⟩
theorem Bs.in2 {c : UInt8} {r m : List UInt8} (h : Bs true (92 :: c :: r) m) : ∃ m', m = 92 :: c :: m' ∧ Bs true r m' := by
  cases h with
  | esc _ h => exact ⟨_, rfl, h⟩
  | one _ _ _ _ h3 _ => exact absurd ⟨rfl, rfl⟩ h3
theorem Bs.byte (b : UInt8) (r m : List UInt8) (h : Bs true (quoB b ++ r) m) : ∃ m', m = quoB b ++ m' ∧ Bs true r m' := by
  have hb := b.toNat_lt
  unfold quoB at h ⊢
  by_cases h1 : b.toNat < 32 ∨ 126 < b.toNat
  · rw [if_pos h1] at h ⊢
    obtain ⟨m1, rfl, h2⟩ := Bs.in2 h
    obtain ⟨m2, rfl, h3⟩ := h2.in1 (hexC_no' (by omega)).1 (hexC_no' (by omega)).2
    obtain ⟨m3, rfl, h4⟩ := h3.in1 (hexC_no' (by omega)).1 (hexC_no' (by omega)).2
    exact ⟨m3, rfl, h4⟩
  · rw [if_neg h1] at h ⊢
    by_cases h2 : b = 34 ∨ b = 92
    · rw [if_pos h2] at h ⊢
      obtain ⟨m1, rfl, h3⟩ := Bs.in2 h
      exact ⟨m1, rfl, h3⟩
    · rw [if_neg h2] at h ⊢
      obtain ⟨m1, rfl, h3⟩ := Bs.in1 h (fun e => h2 (.inl e)) (fun e => h2 (.inr e))
      exact ⟨m1, rfl, h3⟩
theorem Bs.byte_mk (b : UInt8) (r m : List UInt8) (h : Bs true r m) : Bs true (quoB b ++ r) (quoB b ++ m) := by
  have hb := b.toNat_lt
  unfold quoB
  by_cases h1 : b.toNat < 32 ∨ 126 < b.toNat
  · rw [if_pos h1]
    have k1 := hexC_no' (n := b.toNat / 16) (by omega)
    have k2 := hexC_no' (n := b.toNat % 16) (by omega)
    exact .esc 120 (.one _ _ k1.1 (fun e => by cases e.1) (fun e => k1.2 e.2) (.one _ _ k2.1 (fun e => by cases e.1) (fun e => k2.2 e.2) h))
  · rw [if_neg h1]
    by_cases h2 : b = 34 ∨ b = 92
    · rw [if_pos h2]
      exact .esc b h
    · rw [if_neg h2]
      exact .one _ _ (fun e => h2 (.inl e)) (fun e => by cases e.1) (fun e => h2 (.inr e.2)) h
theorem Bs.quoted : ∀ (t r m : List UInt8), Bs true (quoL t ++ 34 :: r) m → ∃ m', m = quoL t ++ 34 :: m' ∧ Bs false r m'
  | [], r, m, h => by
    have h : Bs true (34 :: r) m := h
    cases h with
    | quo _ h2 => exact ⟨_, rfl, h2⟩
    | one _ _ h1 _ _ _ => exact absurd rfl h1
  | b :: t, r, m, h => by
    have e : quoL (b :: t) = quoB b ++ quoL t := rfl
    rw [e, List.append_assoc] at h
    obtain ⟨m1, rfl, h1⟩ := Bs.byte b _ m h
    obtain ⟨m2, rfl, h2⟩ := Bs.quoted t r m1 h1
    exact ⟨m2, by rw [e, List.append_assoc], h2⟩
theorem Bs.quoted_mk : ∀ (t r m : List UInt8), Bs false r m → Bs true (quoL t ++ 34 :: r) (quoL t ++ 34 :: m)
  | [], _, _, h => .quo true h
  | b :: t, r, m, h => by
    have e : quoL (b :: t) = quoB b ++ quoL t := rfl
    rw [e, List.append_assoc, List.append_assoc]
    exact Bs.byte_mk b _ _ (Bs.quoted_mk t r m h)
/-- A chunk that is one token's, and stays as it is. -/
structure Atom (x : List UInt8) (t : Tk) : Prop where
  tok : ∀ r, Stops r → toksD (x ++ r) = tcat [t] (toksD r)
  cp : ∀ r m, Bs false (x ++ r) m → ∃ m', m = x ++ m' ∧ Bs false r m'
  put : ∀ r m, Bs false r m → Bs false (x ++ r) (x ++ m)
theorem Atom.of {x : List UInt8} {t : Tk} (h : ∀ r, Stops r → toksD (x ++ r) = tcat [t] (toksD r)) (hp : ∀ c ∈ x, c ≠ 34 ∧ c ≠ 32) : Atom x t := ⟨h, fun r m => Bs.plain x r m hp, fun r m => Bs.plain_mk x r m hp⟩
/-- A text that is made of such chunks and of blanks. -/
inductive Txt : List UInt8 → List Tk → Prop
  | nil : Txt [] []
  | sp {r : List UInt8} {ts : List Tk} : Txt r ts → Txt (32 :: r) ts
  | brk (c : UInt8) {r : List UInt8} {ts : List Tk} : c = 91 ∨ c = 93 ∨ c = 44 → Txt r ts → Txt (c :: r) (brkT c :: ts)
  | tok {x r : List UInt8} {t : Tk} {ts : List Tk} : Atom x t → Stops r → Txt r ts → Txt (x ++ r) (t :: ts)
theorem toksD_rep : ∀ (k : Nat) (r : List UInt8), toksD (List.replicate k 32 ++ r) = toksD r
  | 0, _ => rfl
  | k + 1, r => by rw [List.replicate_succ, List.cons_append, toksD_blank, toksD_rep k r]
theorem stops_head {r m : List UInt8} (h : Stops r) (e : m.head? = r.head?) : Stops (m ++ [32]) := by
  cases m with
  | nil => exact Stops.of (.inl rfl)
  | cons c m =>
    cases r with
    | nil => cases e
    | cons d r =>
      have e : c = d := Option.some.inj e
      subst e
      refine ⟨?_, ?_, h.e, h.q⟩
      · have h1 := h.w
        rw [wfrom] at h1
        show wfrom false (c :: (m ++ [32])) = 0
        rw [wfrom]
        split at h1
        · omega
        · rename_i hc; rw [if_neg hc]
      · have h1 := h.d
        rw [dcount] at h1
        show dcount (c :: (m ++ [32])) = 0
        rw [dcount]
        split at h1
        · omega
        · rename_i hc; rw [if_neg hc]
/-- MORE BLANKS, THE SAME TOKENS. -/
theorem Txt.more {l : List UInt8} {ts : List Tk} (h : Txt l ts) : ∀ m, Bs false l m → toksD (m ++ [32]) = some ts := by
  induction h with
  | nil =>
    intro m hm
    cases hm
    show toksD [32] = _
    rw [toksD_blank, toksD_nil]
  | sp _ ih =>
    intro m hm
    cases hm with
    | sp k h =>
      rw [List.cons_append, toksD_blank, List.append_assoc, toksD_rep]
      exact ih _ h
    | one _ _ _ h2 _ _ => exact absurd ⟨rfl, rfl⟩ h2
  | brk c hc _ ih =>
    intro m hm
    obtain ⟨m', rfl, h2⟩ := Bs.plain [c] _ m (fun d hd => by rw [List.mem_singleton.1 hd]; rcases hc with rfl | rfl | rfl <;> decide) hm
    rw [List.append_assoc, List.singleton_append, toks_brk c _ hc, ih _ h2]
    rfl
  | tok ha hs _ ih =>
    intro m hm
    obtain ⟨m', rfl, h2⟩ := ha.cp _ _ hm
    rw [List.append_assoc, ha.tok _ (stops_head hs h2.head), ih _ h2]
    rfl
theorem Txt.wf {l : List UInt8} {ts : List Tk} (h : Txt l ts) : Bs false l l := by
  induction h with
  | nil => exact .nil _
  | sp _ ih => exact .sp 0 ih
  | brk c hc _ ih => exact Bs.plain_mk [c] _ _ (fun d hd => by rw [List.mem_singleton.1 hd]; rcases hc with rfl | rfl | rfl <;> decide) ih
  | tok ha _ _ ih => exact ha.put _ _ ih
end Go.Proofs.YtageokjobbjddaaGreatDoor

namespace Go.Proofs.YtageokjobbjddaaGreatDoor
open Go.RowKit

/-! A written query is made of chunks and blanks (data alone). -/
theorem atom_kw (t : List UInt8) (h0 : t ≠ []) (hw : wfrom true t = t.length) (hp : ∀ c ∈ t, c ≠ 34 ∧ c ≠ 32) : Atom t (wordT t) := .of (fun r hr => toks_kw t r h0 hw hr) hp
theorem dig_plain {c : UInt8} (h : c = 45 ∨ digitB c = true) : c ≠ 34 ∧ c ≠ 32 := ⟨(dig_no c h).2.2.1, (dig_no c h).2.2.2⟩
theorem itoa_plain (n : Int) : ∀ c ∈ Lib.itoa n, c ≠ 34 ∧ c ≠ 32 := by
  intro c hc
  refine dig_plain ?_
  unfold Lib.itoa at hc
  split at hc
  · rcases List.mem_cons.1 hc with h | h
    · exact .inl h
    · exact .inr (dec_all _ c h)
  · exact .inr (dec_all _ c hc)
theorem atom_num (n : Int) (h1 : -9223372036854775808 ≤ n) (h2 : n ≤ 9223372036854775807) : Atom (Lib.itoa n) ⟨3, n, ⟨#[]⟩⟩ :=
  .of (fun r hr => by rw [toks_num n r h1 h2 hr.d, tcat_one]) (itoa_plain n)
theorem atom_text (t : ByteArray) : Atom (quotedL t) ⟨4, 0, t⟩ := by
  refine ⟨fun r _ => ?_, fun r m h => ?_, fun r m h => ?_⟩
  · rw [quotedL, toks_text t.data.toList r, tcat_one]
  · have e : quotedL t ++ r = 34 :: (quoL t.data.toList ++ 34 :: r) := by simp [quotedL]
    rw [e] at h
    cases h with
    | quo _ h3 =>
      obtain ⟨m', rfl, h2⟩ := Bs.quoted _ _ _ h3
      exact ⟨m', by simp [quotedL], h2⟩
    | one _ _ h1 _ _ _ => exact absurd rfl h1
  · have e : ∀ r, quotedL t ++ r = 34 :: (quoL t.data.toList ++ 34 :: r) := fun r => by simp [quotedL]
    rw [e, e]
    exact .quo false (Bs.quoted_mk _ _ _ h)
/-- A name of small letters. -/
def smallN (s : ByteArray) : Prop := ∀ c ∈ s.data.toList, 97 ≤ c.toNat ∧ c.toNat ≤ 122
theorem small_plain {c : UInt8} (h : 97 ≤ c.toNat ∧ c.toNat ≤ 122) : c ≠ 34 ∧ c ≠ 32 := by
  constructor <;> (rintro rfl; revert h; decide)
theorem atom_name (s : ByteArray) (hs : smallN s) : Atom (nameL s) (nameT s) := by
  refine .of (fun r hr => toks_name s r (fun c hc => by have := hs c hc; omega) hr) fun c hc => ?_
  unfold nameL at hc
  split at hc
  · exact small_plain (hs c hc)
  · rcases List.mem_cons.1 hc with rfl | h
    · decide
    rcases List.mem_append.1 h with h | h
    · unfold qescL at h
      obtain ⟨d, hd, h⟩ := List.mem_flatMap.1 h
      split at h
      · simp only [List.mem_cons, List.not_mem_nil, or_false, or_self] at h
        subst h; decide
      · rw [List.mem_singleton] at h
        subst h; exact small_plain (hs _ hd)
    · rw [List.mem_singleton] at h
      subst h; decide
theorem Txt.sign (s : Int) {r : List UInt8} {ts : List Tk} (hr : Txt r ts) : Txt (signL s ++ 32 :: r) (⟨5, 0, ⟨(signL s).toArray⟩⟩ :: ts) := by
  refine .tok (.of (fun r hr => by rw [toks_sign s r hr.e, tcat_one]) fun c hc => ?_) (Stops.of (.inl rfl)) hr.sp
  have : c = 61 ∨ c = 60 ∨ c = 62 := by
    unfold signL at hc
    repeat' split at hc
    all_goals simp only [List.mem_cons, List.not_mem_nil, or_false] at hc
    · exact .inl hc
    · exact .inr (.inl hc)
    · rcases hc with h | h
      · exact .inr (.inl h)
      · exact .inl h
    · exact .inr (.inr hc)
    · rcases hc with h | h
      · exact .inr (.inr h)
      · exact .inl h
  rcases this with rfl | rfl | rfl <;> decide
theorem Txt.kw {r : List UInt8} {ts : List Tk} (t : List UInt8) (h0 : t ≠ []) (hw : wfrom true t = t.length) (hp : ∀ c ∈ t, c ≠ 34 ∧ c ≠ 32) (hs : Stops r) (hr : Txt r ts) : Txt (t ++ r) (wordT t :: ts) := .tok (atom_kw t h0 hw hp) hs hr
theorem kw_word (t : List UInt8) (hw : (t.all fun c => c != 34 && c != 32) = true) : ∀ c ∈ t, c ≠ 34 ∧ c ≠ 32 := fun c hc => by
  have := List.all_eq_true.1 hw c hc
  simpa using this
mutual
theorem txt_item : ∀ (x : It) (r : List UInt8) (ts : List Tk), numsI x → Stops r → Txt r ts → Txt (itemL x ++ r) (itemT x ++ ts)
  | .mk k n t l, r, ts, hx, hr, ht => by
    rw [numsI] at hx
    rw [itemL, itemT]
    by_cases h2 : k = 2
    · rw [if_pos h2, if_pos h2]
      by_cases h1 : n = 1
      · rw [if_pos h1, if_pos h1]; exact Txt.kw _ (by simp) (by decide) (kw_word _ (by decide)) hr ht
      · rw [if_neg h1, if_neg h1]; exact Txt.kw _ (by simp) (by decide) (kw_word _ (by decide)) hr ht
    rw [if_neg h2, if_neg h2]
    by_cases h3 : k = 3
    · rw [if_pos h3, if_pos h3]; exact .tok (atom_num n hx.1 hx.2.1) hr ht
    rw [if_neg h3, if_neg h3]
    by_cases h4 : k = 4
    · rw [if_pos h4, if_pos h4]; exact .tok (atom_text t) hr ht
    rw [if_neg h4, if_neg h4]
    by_cases h5 : k = 5
    · rw [if_pos h5, if_pos h5]
      show Txt (91 :: (listL l ++ [93] ++ r)) (brkT 91 :: (listT l ++ [brkT 93] ++ ts))
      rw [List.append_assoc, List.append_assoc]
      exact .brk 91 (.inl rfl) (txt_list l _ _ hx.2.2 (Stops.of (.inr (.inr rfl))) (.brk 93 (.inr (.inl rfl)) ht))
    rw [if_neg h5, if_neg h5]
    exact Txt.kw _ (by simp) (by decide) (kw_word _ (by decide)) hr ht
theorem txt_list : ∀ (l : List It) (r : List UInt8) (ts : List Tk), numsL l → Stops r → Txt r ts → Txt (listL l ++ r) (listT l ++ ts)
  | [], r, ts, _, _, ht => ht
  | x :: l, r, ts, hx, hr, ht => by
    rw [numsL] at hx
    rw [listL, listT, List.append_assoc, List.append_assoc]
    have he : Stops (tailL l ++ r) := by
      cases l with
      | nil => exact hr
      | cons y l => rw [tailL]; exact Stops.of (.inr (.inl rfl))
    exact txt_item x _ _ hx.1 he (txt_tail l r ts hx.2 hr ht)
theorem txt_tail : ∀ (l : List It) (r : List UInt8) (ts : List Tk), numsL l → Stops r → Txt r ts → Txt (tailL l ++ r) (tailT l ++ ts)
  | [], r, ts, _, _, ht => ht
  | x :: l, r, ts, hx, hr, ht => by
    rw [numsL] at hx
    rw [tailL, tailT]
    have he : Stops (tailL l ++ r) := by
      cases l with
      | nil => exact hr
      | cons y l => rw [tailL]; exact Stops.of (.inr (.inl rfl))
    show Txt (44 :: 32 :: (itemL x ++ tailL l ++ r)) (brkT 44 :: (itemT x ++ tailT l ++ ts))
    rw [List.append_assoc, List.append_assoc]
    exact .brk 44 (.inr (.inr rfl)) (.sp (txt_item x _ _ hx.1 he (txt_tail l r ts hx.2 hr ht)))
end
theorem txt_cond (c : Cd) (r : List UInt8) (ts : List Tk) (hc : CFine c) (hf : smallN c.field) (hr : Stops r) (ht : Txt r ts) : Txt (condL c ++ r) (condT2 c ++ ts) := by
  unfold condL condT2
  simp only [List.append_assoc]
  exact Txt.tok (x := nameL c.field) (atom_name c.field hf) (Stops.of (.inl rfl)) (.sp (Txt.sign c.sign (txt_item c.item r ts hc.n hr ht)))
theorem txt_conds2 : ∀ (l : List Cd) (r : List UInt8) (ts : List Tk), (∀ c ∈ l, CFine c) → (∀ c ∈ l, smallN c.field) → Stops r → Txt r ts → Txt (condT l ++ r) (condsT2 l ++ ts)
  | [], r, ts, _, _, _, ht => ht
  | c :: l, r, ts, h, hf, hr, ht => by
    rw [condT, condsT2, andL]
    show Txt (32 :: ([97, 110, 100] ++ 32 :: (condL c ++ condT l ++ r))) (andT :: (condT2 c ++ condsT2 l ++ ts))
    rw [List.append_assoc, List.append_assoc]
    exact .sp (.kw _ (by simp) (by decide) (kw_word _ (by decide)) (Stops.of (.inl rfl)) (.sp (txt_cond c _ _ (h c (by simp)) (hf c (by simp)) (stop_cond l r hr) (txt_conds2 l r ts (fun d hd => h d (by simp [hd])) (fun d hd => hf d (by simp [hd])) hr ht))))
theorem txt_conds : ∀ (l : List Cd) (r : List UInt8) (ts : List Tk), (∀ c ∈ l, CFine c) → (∀ c ∈ l, smallN c.field) → Stops r → Txt r ts → Txt (condsL l ++ r) (condsT1 l ++ ts)
  | [], r, ts, _, _, _, ht => ht
  | c :: l, r, ts, h, hf, hr, ht => by
    rw [condsL, condsT1, whereL]
    show Txt (32 :: ([119, 104, 101, 114, 101] ++ 32 :: (condL c ++ condT l ++ r))) (whereT :: (condT2 c ++ condsT2 l ++ ts))
    rw [List.append_assoc, List.append_assoc]
    exact .sp (.kw _ (by simp) (by decide) (kw_word _ (by decide)) (Stops.of (.inl rfl)) (.sp (txt_cond c _ _ (h c (by simp)) (hf c (by simp)) (stop_cond l r hr) (txt_conds2 l r ts (fun d hd => h d (by simp [hd])) (fun d hd => hf d (by simp [hd])) hr ht))))
theorem txt_limit (q : Qd) (h : QFine q) : Txt (limitL q) (limitT q) := by
  unfold limitL limitT
  split
  · show Txt (32 :: ([108, 105, 109, 105, 116] ++ 32 :: Lib.itoa q.limit)) _
    have hn := Txt.tok (atom_num q.limit (by omega) h.m) Stops.nil Txt.nil
    rw [List.append_nil] at hn
    exact .sp (.kw _ (by simp) (by decide) (kw_word _ (by decide)) (Stops.of (.inl rfl)) (.sp hn))
  · exact .nil
theorem txt_fall (q : Qd) (r : List UInt8) (ts : List Tk) (hr : Stops r) (ht : Txt r ts) : Txt (fallL q ++ r) (fallT q ++ ts) := by
  unfold fallL fallT
  split
  · exact .sp (.kw [102, 97, 108, 108, 105, 110, 103] (by simp) (by decide) (kw_word _ (by decide)) hr ht)
  · exact ht
theorem txt_order (q : Qd) (r : List UInt8) (ts : List Tk) (ho : smallN q.order) (hr : Stops r) (ht : Txt r ts) : Txt (orderL q ++ r) (orderT q ++ ts) := by
  unfold orderL orderT
  split
  · exact ht
  · show Txt (32 :: ([111, 114, 100, 101, 114] ++ 32 :: ([98, 121] ++ 32 :: (nameL q.order ++ r)))) (wordT [111, 114, 100, 101, 114] :: wordT [98, 121] :: nameT q.order :: ts)
    exact .sp (.kw _ (by simp) (by decide) (kw_word _ (by decide)) (Stops.of (.inl rfl)) (.sp (.kw _ (by simp) (by decide) (kw_word _ (by decide)) (Stops.of (.inl rfl)) (.sp (.tok (atom_name q.order ho) hr ht)))))
/-- A query whose names are small letters. -/
structure SmallQ (q : Qd) : Prop where
  t : smallN q.table
  c : ∀ c ∈ q.cs, smallN c.field
  o : smallN q.order
/-- A WRITTEN QUERY IS MADE OF CHUNKS AND BLANKS. -/
theorem txt_query (q : Qd) (h : QFine q) (hs : SmallQ q) : Txt (textL q) (queryT q) := by
  have e : textL q = [102, 114, 111, 109] ++ 32 :: (nameL q.table ++ (condsL q.cs ++ (orderL q ++ (fallL q ++ limitL q)))) := by
    unfold textL
    simp
  have h1 : Stops (condsL q.cs ++ (orderL q ++ (fallL q ++ limitL q))) := by
    cases hc : q.cs with
    | nil => exact stop_order q
    | cons c l => rw [condsL, whereL]; exact Stops.of (.inl rfl)
  rw [e]
  exact .kw _ (by simp) (by decide) (kw_word _ (by decide)) (Stops.of (.inl rfl)) (.sp (.tok (atom_name q.table hs.t) h1 (txt_conds q.cs _ _ h.c hs.c (stop_order q) (txt_order q _ _ hs.o (stop_fall q) (txt_fall q _ _ (stop_limit q) (txt_limit q h))))))
/-- MORE BLANKS, AND BLANKS AT BOTH ENDS: THE SAME TOKENS. -/
theorem toks_blanks (q : Qd) (h : QFine q) (hs : SmallQ q) (m : List UInt8) (hm : Bs false (textL q) m) : toksD (32 :: (m ++ [32])) = some (queryT q) := by
  rw [toksD_blank]
  exact (txt_query q h hs).more m hm
end Go.Proofs.YtageokjobbjddaaGreatDoor

namespace Go.Proofs.YtageokjobbjddaaGreatDoor
open Go.RowKit

/-! The document's Choose. -/
def InsAt (w : World) (v : Value) (l : List Int) : Prop :=
  ∃ (a : Option Addr) (g off cap : Nat), v = .slice a l.length cap ∧ l.length ≤ 17592186044416 ∧ (0 < l.length → a = some ⟨g, off, none⟩) ∧ ∀ i (h : i < l.length), w.cell? ⟨g, off + i, none⟩ = some (.int .i64 l[i])
def IxsAt (w : World) (v : Value) (l : List (List Int)) : Prop :=
  ∃ (a : Option Addr) (g off cap : Nat) (vs : Nat → Value), v = .slice a l.length cap ∧ l.length ≤ 17592186044416 ∧ (0 < l.length → a = some ⟨g, off, none⟩) ∧ ∀ i (h : i < l.length), w.cell? ⟨g, off + i, none⟩ = some (vs i) ∧ InsAt w (vs i) l[i]
theorem InsAt.keep {w w' : World} {v : Value} {l : List Int} (h : InsAt w v l) (hb : Below w.heap.size w w') : InsAt w' v l := by
  obtain ⟨a, g, off, cap, h1, h2, h3, h4⟩ := h
  exact ⟨a, g, off, cap, h1, h2, h3, fun i hi => cell_below hb (h4 i hi)⟩
theorem IxsAt.keep {w w' : World} {v : Value} {l : List (List Int)} (h : IxsAt w v l) (hb : Below w.heap.size w w') : IxsAt w' v l := by
  obtain ⟨a, g, off, cap, vs, h1, h2, h3, h4⟩ := h
  exact ⟨a, g, off, cap, vs, h1, h2, h3, fun i hi => ⟨cell_below hb (h4 i hi).1, (h4 i hi).2.keep hb⟩⟩
theorem IxsAt.form {w : World} {v : Value} {l : List (List Int)} (h : IxsAt w v l) : ∃ a c, v = .slice a l.length c := by
  obtain ⟨a, g, off, cap, vs, h, _⟩ := h
  exact ⟨a, cap, h⟩
theorem IxsAt.len {w : World} {v : Value} {l : List (List Int)} (h : IxsAt w v l) : l.length ≤ 17592186044416 := by
  obtain ⟨a, g, off, cap, vs, _, h, _⟩ := h
  exact h
theorem InsAt.form {w : World} {v : Value} {l : List Int} (h : InsAt w v l) : ∃ a c, v = .slice a l.length c := by
  obtain ⟨a, g, off, cap, h, _⟩ := h
  exact ⟨a, cap, h⟩
theorem IxsAt.get {w : World} {a : Option Addr} {n cap : Nat} {l : List (List Int)} (h : IxsAt w (.slice a n cap) l) (i : Nat) (hi : i < l.length) : ∃ g off u, a = some ⟨g, off, none⟩ ∧ w.cell? ⟨g, off + i, none⟩ = some u ∧ InsAt w u (l[i]'hi) := by
  obtain ⟨a', g, off, cap', vs, h1, h2, h3, h4⟩ := h
  cases h1
  obtain rfl := h3 (by omega)
  exact ⟨g, off, vs i, rfl, h4 i hi⟩
theorem InsAt.get {w : World} {a : Option Addr} {n cap : Nat} {l : List Int} (h : InsAt w (.slice a n cap) l) (i : Nat) (hi : i < l.length) : ∃ g off, a = some ⟨g, off, none⟩ ∧ w.cell? ⟨g, off + i, none⟩ = some (.int .i64 (l[i]'hi)) := by
  obtain ⟨a', g, off, cap', h1, h2, h3, h4⟩ := h
  cases h1
  obtain rfl := h3 (by omega)
  exact ⟨g, off, rfl, h4 i hi⟩
def lead (fs : List Fd) (cs : List Cd) (ix : List Int) : Nat := (ix.takeWhile (boundB fs cs)).length
def bestP (fs : List Fd) (cs : List Cd) : List (List Int) → Nat → Int × Int → Int × Int
  | [], _, p => p
  | ix :: r, i, p => bestP fs cs r (i + 1) (if p.2 < (lead fs cs ix : Int) then ((i : Int), (lead fs cs ix : Int)) else p)
def lostB (fs : List Fd) (q : Qd) : Bool := q.cs.any (fun c => decide (fieldI fs c.field < 0)) || (decide (q.order ≠ ⟨#[]⟩) && decide (fieldI fs q.order < 0))
def chooseD (tn : ByteArray) (fs : List Fd) (ixs : List (List Int)) (q : Qd) : (Int × Int) × Nat :=
  if q.table = tn then (if qfaultD q = 0 then (if lostB fs q = true then ((0, 0), 6) else (bestP fs q.cs ixs 0 (-1, 0), 0)) else ((0, 0), qfaultD q)) else ((0, 0), 1)
theorem lead_stop (fs : List Fd) (cs : List Cd) (ix : List Int) (k : Nat) (hk : k ≤ ix.length) (h0 : ∀ j (h : j < ix.length), j < k → boundB fs cs ix[j] = true) (h : ∀ h : k < ix.length, boundB fs cs ix[k] = false) : lead fs cs ix = k := by
  unfold lead
  have h1 : (ix.take k).all (boundB fs cs) = true := by
    rw [List.all_eq_true]
    intro x hx
    obtain ⟨j, hj, rfl⟩ := List.getElem_of_mem hx
    rw [List.length_take] at hj
    rw [List.getElem_take]
    exact h0 j (by omega) (by omega)
  have h2 : ix.takeWhile (boundB fs cs) = ix.take k := by
    rw [← List.take_append_drop k ix, List.takeWhile_append_of_pos (by simpa using h1)]
    by_cases hl : k < ix.length
    · rw [List.drop_eq_getElem_cons hl, List.takeWhile_cons, h hl]
      simp
    · rw [List.drop_eq_nil_of_le (by omega)]
      simp [List.take_take]
  rw [h2, List.length_take]
  omega
theorem bestP_drop (fs : List Fd) (cs : List Cd) (l : List (List Int)) (i : Nat) (hi : i < l.length) (p : Int × Int) : bestP fs cs (l.drop i) i p = bestP fs cs (l.drop (i + 1)) (i + 1) (if p.2 < (lead fs cs (l[i]'hi) : Int) then ((i : Int), (lead fs cs (l[i]'hi) : Int)) else p) := by
  rw [List.drop_eq_getElem_cons hi, bestP]
end Go.Proofs.YtageokjobbjddaaGreatDoor

namespace Go.Proofs.YtageokjobbjddaaGreatDoor
open Go.RowKit

/-! The law's plainOf and blanks. -/
theorem InsAt.len {w : World} {v : Value} {l : List Int} (h : InsAt w v l) : l.length ≤ 17592186044416 := by
  obtain ⟨a, g, off, cap, _, h, _⟩ := h
  exact h
theorem byt_one (w : World) (c : UInt8) : Byt (w.alloc (.cells #[.int .u8 (c.toNat : Int)] 5)) w.heap.size (.slice (some ⟨w.heap.size, 0, none⟩) 1 1) [c] :=
  ⟨rfl, .inr ⟨_, 1, _, rfl, Nat.le_refl _, heap_alloc_new w _, Nat.le_refl _, by decide, rfl, rfl⟩⟩
theorem small_snoc {l : List UInt8} {c : UInt8} (h : ∀ d ∈ l, 97 ≤ d.toNat ∧ d.toNat ≤ 122) (hc : 97 ≤ c.toNat ∧ c.toNat ≤ 122) : ∀ d ∈ l ++ [c], 97 ≤ d.toNat ∧ d.toNat ≤ 122 := fun d hd => by
  rcases List.mem_append.1 hd with h1 | h1
  · exact h d h1
  · rw [List.mem_singleton.1 h1]; exact hc
set_option maxHeartbeats 8000000 in
set_option maxRecDepth 100000 in
theorem plainof_any (s : ByteArray) (w : World) (hs : s.size ≤ 140737488355328) :
    Calls Tryz.prog 5 #[.string s] w fun e w' => ∃ n : ByteArray, e = .returned (.string n) ∧ isNameD n = true ∧ smallN n ∧ Below w.heap.size w w' := by
  have HB0 := hide (byt_one w 110)
  have HG0 := hide (Gr.of (below_new w (.cells #[.int .u8 110] 5)) (Nat.le_refl _))
  go_enter Tryz.func5, Tryz.ntmps5
  go_wp2_with fail
  go_loopw [3, 4] (fun ov iv wr => ∃ (I : Nat) (o : List UInt8) (a : Option Addr) (c : Nat), ov = .slice a o.length c ∧ iv = .int .i64 (I : Int) ∧ I ≤ s.size ∧ 1 ≤ o.length ∧ o.length ≤ 32 ∧ Hid (∀ d ∈ o, 97 ≤ d.toNat ∧ d.toNat ≤ 122) ∧ Hid (Byt wr w.heap.size (.slice a o.length c) o) ∧ Hid (Gr w.heap.size w wr)) (fun _ iv _ => s.size - (intOf iv).toNat)
  case atStart => exact ⟨0, [110], _, 1, rfl, rfl, Nat.zero_le _, by decide, by decide, (fun d hd => by rw [List.mem_singleton.1 hd]; decide), HB0.out, HG0.out⟩
  case round =>
    obtain ⟨I, o, a, c, rfl, rfl, hI, ho1, ho, hall, hby, hgr⟩ := hrel
    have hbs : w.heap.size ≤ wr.heap.size := hgr.out.size
    have HEND : Hid (∃ n : ByteArray, Ending.returned (.string (⟨o.toArray⟩ : ByteArray)) = .returned (.string n) ∧ isNameD n = true ∧ smallN n ∧ Below w.heap.size w wr) := by
      refine ⟨_, rfl, ?_, ?_, hgr.out.bel⟩
      · unfold isNameD
        have hn : o.all nameB = true := List.all_eq_true.2 fun d hd => by
          have := hall.out d hd
          simp only [nameB, decide_eq_true_eq]; omega
        rw [ba_list', hn, ba_size]
        simp
        omega
      · intro d hd
        rw [ba_list'] at hd
        exact hall.out d hd
    have hcv := conv_back hby.out
    by_cases hlt : I < s.size
    · have j1 : (I : Int) < (s.size : Int) := by omega
      have j0 : (0 : Int) ≤ (I : Int) := by omega
      by_cases h32 : o.length < 32
      · have k1 : (o.length : Int) < 32 := by omega
        by_cases hn2 : 97 ≤ s[I].toNat ∧ s[I].toNat ≤ 122
        · have n1 : (97 : Int) ≤ (s[I].toNat : Int) := by omega
          have n2 : (s[I].toNat : Int) ≤ 122 := by omega
          obtain ⟨a3, c3, w3, hr3, hb3, hg3⟩ := byt_push hby.out [s[I]] #[.int .u8 (s[I].toNat : Int)] 1 rfl rfl (by decide) (by omega) hbs wr.heap.size rfl
          have HR3 := hide hr3
          have HALL := hide (small_snoc hall.out hn2)
          have HB3 := hide hb3
          have HG3 := hide (hgr.out.trans hg3)
          have hle : (o ++ [s[I]]).length = o.length + 1 := by simp
          clear hr3 hb3 hg3 hcv HEND hn2 hall hby hgr
          go_wp2_with (first
            | (at_builtin; refine wpList_append_run2 48 48 rfl _ _ rfl rfl _ _ rfl rfl _ _ HR3.out ?_)
            | fail)
          go_roundw
          case rel => exact ⟨I + 1, o ++ [s[I]], a3, c3, by rw [hle], by go_num, by omega, by rw [hle]; omega, by rw [hle]; omega, HALL, HB3, HG3⟩
          case measure => simp [intOf]; omega
        · have hn3 : s[I].toNat < 97 ∨ 122 < s[I].toNat := by omega
          clear hcv HEND hn2
          rcases hn3 with h33 | h126
          · have n1 : ¬ (97 : Int) ≤ (s[I].toNat : Int) := by omega
            go_wp2_with fail
            go_roundw
            case rel => exact ⟨I + 1, o, a, c, rfl, by go_num, by omega, ho1, ho, hall, hby, hgr⟩
            case measure => simp [intOf]; omega
          · have n1 : (97 : Int) ≤ (s[I].toNat : Int) := by omega
            have n2 : ¬ (s[I].toNat : Int) ≤ 122 := by omega
            go_wp2_with fail
            go_roundw
            case rel => exact ⟨I + 1, o, a, c, rfl, by go_num, by omega, ho1, ho, hall, hby, hgr⟩
            case measure => simp [intOf]; omega
      · have k1 : ¬ (o.length : Int) < 32 := by omega
        clear hall hby hgr
        go_wp2_with fail
        go_ret
        exact HEND.out
    · have j1 : ¬ (I : Int) < (s.size : Int) := by omega
      clear hall hby hgr
      go_wp2_with fail
      go_ret
      exact HEND.out
end Go.Proofs.YtageokjobbjddaaGreatDoor
