import Derived.Test.YtnggkkfncaidnaaGreatDoorGRM
namespace Go.Proofs.YtnggkkfncaidnaaGreatDoor
open Go.RowKit

/-! The tokens of a written query (data alone). -/
def nameT (s : ByteArray) : Tk := if plainB s = true then ⟨1, 0, s⟩ else ⟨2, 0, s⟩
theorem ba_id (s : ByteArray) : (⟨s.data.toList.toArray⟩ : ByteArray) = s := rfl
theorem toks_name (s : ByteArray) (r : List UInt8) (hs : ∀ c ∈ s.data.toList, ¬ (c.toNat < 33 ∨ 126 < c.toNat)) (hr : Stops r) : toksD (nameL s ++ r) = tcat [nameT s] (toksD r) := by
  unfold nameL nameT
  by_cases hp : plainB s = true
  · rw [if_pos hp, if_pos hp]
    have h2 := hp
    unfold plainB at h2
    simp only [Bool.and_eq_true, decide_eq_true_eq] at h2
    rw [toks_word _ r (fun e => h2.1.1 ((emp_list s).2 e)) (by rw [h2.1.2]; exact size_list s) hr.w, tcat_one]
  · rw [if_neg hp, if_neg hp, toks_qname _ r hs hr.q, tcat_one]
def condT2 (c : Cd) : List Tk := nameT c.field :: ⟨5, 0, ⟨(signL c.sign).toArray⟩⟩ :: itemT c.item
/-- What is asked of a condition for its text to be read again. -/
structure CFine (c : Cd) : Prop where
  f : ∀ b ∈ c.field.data.toList, ¬ (b.toNat < 33 ∨ 126 < b.toNat)
  n : numsI c.item
theorem toks_cond (c : Cd) (r : List UInt8) (hc : CFine c) (hr : Stops r) : toksD (condL c ++ r) = tcat (condT2 c) (toksD r) := by
  unfold condL condT2
  simp only [List.append_assoc]
  show toksD (nameL c.field ++ 32 :: (signL c.sign ++ 32 :: (itemL c.item ++ r))) = _
  rw [toks_name _ _ hc.f (Stops.of (.inl rfl)), toksD_blank, toks_sign _ _ (by simp), toksD_blank, toks_item _ _ hc.n hr, tcat_one, tcat_tcat, tcat_tcat]
  rfl
def andT : Tk := wordT [97, 110, 100]
def whereT : Tk := wordT [119, 104, 101, 114, 101]
def condsT2 : List Cd → List Tk
  | [] => []
  | c :: l => andT :: (condT2 c ++ condsT2 l)
def condsT1 : List Cd → List Tk
  | [] => []
  | c :: l => whereT :: (condT2 c ++ condsT2 l)
theorem stop_cond (l : List Cd) (r : List UInt8) (hr : Stops r) : Stops (condT l ++ r) := by
  cases l with
  | nil => exact hr
  | cons c l => rw [condT, andL]; exact Stops.of (.inl rfl)
theorem toks_conds2 : ∀ (l : List Cd) (r : List UInt8), (∀ c ∈ l, CFine c) → Stops r → toksD (condT l ++ r) = tcat (condsT2 l) (toksD r)
  | [], r, _, _ => by
    show toksD r = _
    cases toksD r <;> rfl
  | c :: l, r, h, hr => by
    rw [condT, condsT2, andL]
    show toksD (32 :: ([97, 110, 100] ++ 32 :: (condL c ++ condT l ++ r))) = _
    rw [toksD_blank, toks_kw _ _ (by simp) (by decide) (Stops.of (.inl rfl)), toksD_blank, List.append_assoc, toks_cond c _ (h c (by simp)) (stop_cond l r hr), toks_conds2 l r (fun d hd => h d (by simp [hd])) hr, tcat_tcat, tcat_tcat]
    rfl
theorem toks_conds : ∀ (l : List Cd) (r : List UInt8), (∀ c ∈ l, CFine c) → Stops r → toksD (condsL l ++ r) = tcat (condsT1 l) (toksD r)
  | [], r, _, _ => by
    show toksD r = _
    cases toksD r <;> rfl
  | c :: l, r, h, hr => by
    rw [condsL, condsT1, whereL]
    show toksD (32 :: ([119, 104, 101, 114, 101] ++ 32 :: (condL c ++ condT l ++ r))) = _
    rw [toksD_blank, toks_kw _ _ (by simp) (by decide) (Stops.of (.inl rfl)), toksD_blank, List.append_assoc, toks_cond c _ (h c (by simp)) (stop_cond l r hr), toks_conds2 l r (fun d hd => h d (by simp [hd])) hr, tcat_tcat, tcat_tcat]
    rfl
def orderT (q : Qd) : List Tk := if q.order = ⟨#[]⟩ then [] else [wordT [111, 114, 100, 101, 114], wordT [98, 121], nameT q.order]
def fallT (q : Qd) : List Tk := if q.falling = true then [wordT [102, 97, 108, 108, 105, 110, 103]] else []
def limitT (q : Qd) : List Tk := if 0 < q.limit then [wordT [108, 105, 109, 105, 116], ⟨3, q.limit, ⟨#[]⟩⟩] else []
def queryT (q : Qd) : List Tk := wordT [102, 114, 111, 109] :: nameT q.table :: (condsT1 q.cs ++ (orderT q ++ (fallT q ++ limitT q)))
structure QFine (q : Qd) : Prop where
  t : ∀ b ∈ q.table.data.toList, ¬ (b.toNat < 33 ∨ 126 < b.toNat)
  o : ∀ b ∈ q.order.data.toList, ¬ (b.toNat < 33 ∨ 126 < b.toNat)
  c : ∀ c ∈ q.cs, CFine c
  m : q.limit ≤ 9223372036854775807
theorem stop_limit (q : Qd) : Stops (limitL q) := by
  unfold limitL
  split
  · exact Stops.of (.inl rfl)
  · exact Stops.nil
theorem stop_fall (q : Qd) : Stops (fallL q ++ limitL q) := by
  unfold fallL
  split
  · exact Stops.of (.inl rfl)
  · exact stop_limit q
theorem stop_order (q : Qd) : Stops (orderL q ++ (fallL q ++ limitL q)) := by
  unfold orderL
  split
  · exact stop_fall q
  · exact Stops.of (.inl rfl)
theorem toks_limit (q : Qd) (h : QFine q) : toksD (limitL q) = some (limitT q) := by
  unfold limitL limitT
  split
  · rename_i h0
    show toksD (32 :: ([108, 105, 109, 105, 116] ++ 32 :: Lib.itoa q.limit)) = _
    have hn := toks_num q.limit [] (by omega) h.m rfl
    rw [List.append_nil] at hn
    rw [toksD_blank, toks_kw _ _ (by simp) (by decide) (Stops.of (.inl rfl)), toksD_blank, hn, toksD_nil]
    rfl
  · exact toksD_nil
theorem toks_fall (q : Qd) (r : List UInt8) (hr : Stops r) : toksD (fallL q ++ r) = tcat (fallT q) (toksD r) := by
  unfold fallL fallT
  split
  · show toksD (32 :: ([102, 97, 108, 108, 105, 110, 103] ++ r)) = _
    rw [toksD_blank, toks_kw _ _ (by simp) (by decide) hr]
  · show toksD r = _
    cases toksD r <;> rfl
theorem toks_order (q : Qd) (r : List UInt8) (h : QFine q) (hr : Stops r) : toksD (orderL q ++ r) = tcat (orderT q) (toksD r) := by
  unfold orderL orderT
  split
  · show toksD r = _
    cases toksD r <;> rfl
  · show toksD (32 :: ([111, 114, 100, 101, 114] ++ 32 :: ([98, 121] ++ 32 :: (nameL q.order ++ r)))) = _
    rw [toksD_blank, toks_kw _ _ (by simp) (by decide) (Stops.of (.inl rfl)), toksD_blank, toks_kw _ _ (by simp) (by decide) (Stops.of (.inl rfl)), toksD_blank, toks_name _ _ h.o hr, tcat_tcat, tcat_tcat]
    rfl
/-- THE TOKENS OF A WRITTEN QUERY. -/
theorem toks_query (q : Qd) (h : QFine q) : toksD (textL q) = some (queryT q) := by
  have e : textL q = [102, 114, 111, 109] ++ 32 :: (nameL q.table ++ (condsL q.cs ++ (orderL q ++ (fallL q ++ limitL q)))) := by
    unfold textL
    simp
  have hs : Stops (condsL q.cs ++ (orderL q ++ (fallL q ++ limitL q))) := by
    cases hc : q.cs with
    | nil => exact stop_order q
    | cons c l => rw [condsL, whereL]; exact Stops.of (.inl rfl)
  rw [e, toks_kw _ _ (by simp) (by decide) (Stops.of (.inl rfl)), toksD_blank, toks_name _ _ h.t hs, toks_conds q.cs _ h.c (stop_order q), toks_order q _ h (stop_fall q), toks_fall q _ (stop_limit q), toks_limit q h]
  rfl
end Go.Proofs.YtnggkkfncaidnaaGreatDoor
