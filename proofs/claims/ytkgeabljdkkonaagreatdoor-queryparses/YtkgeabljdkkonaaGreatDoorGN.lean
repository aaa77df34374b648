import Derived.Test.YtkgeabljdkkonaaGreatDoorGL
import Derived.Test.YtkgeabljdkkonaaGreatDoorGM
namespace Go.Proofs.YtkgeabljdkkonaaGreatDoor
open Go.RowKit

/-! What was written is read again (data alone). -/
def Rep (u : St) (ts : List Tk) : Prop :=
  match ts with
  | [] => u = (pt0, ⟨#[]⟩)
  | t :: ts' => u.1 = ptk t ∧ toksD u.2.data.toList = some ts'
theorem toks_trim (l : List UInt8) : toksD (l.dropWhile (· == 32)) = toksD l := by
  induction l with
  | nil => rfl
  | cons c r ih =>
    rw [List.dropWhile_cons]
    by_cases h : c = 32
    · subst h
      rw [if_pos (by decide), ih, toksD_blank]
    · rw [if_neg (by simpa using h)]
theorem trim_head (l : List UInt8) : (l.dropWhile (· == 32)).head? ≠ some 32 := by
  induction l with
  | nil => simp
  | cons c r ih =>
    rw [List.dropWhile_cons]
    by_cases h : c = 32
    · subst h
      rw [if_pos (by decide)]; exact ih
    · rw [if_neg (by simpa using h)]
      simpa using h
theorem rep_nxt (s : ByteArray) (ts : List Tk) (h : toksD s.data.toList = some ts) : Rep (nxtD s) ts := by
  have h1 := toks_trim s.data.toList
  have h2 := trim_head s.data.toList
  have hc : nxtD s = cutD ⟨(s.data.toList.dropWhile (· == 32)).toArray⟩ := rfl
  rw [h] at h1
  rw [hc]
  generalize s.data.toList.dropWhile (· == 32) = l at *
  cases l with
  | nil =>
    rw [toksD_nil] at h1
    cases h1
    rfl
  | cons c r =>
    have h32 : c ≠ 32 := by simpa using h2
    rw [toksD, if_neg h32] at h1
    have hone := cut_one' c r
    split at h1
    · cases h1
    · rename_i h0
      rw [if_neg h0] at hone
      obtain ⟨ts', hts, rfl⟩ := Option.map_eq_some_iff.1 h1
      rw [hone]
      exact ⟨rfl, hts⟩
theorem rep_step {u : St} {t : Tk} {ts : List Tk} (h : Rep u (t :: ts)) : Rep (nxtD u.2) ts := rep_nxt _ _ h.2
theorem rep_head {u : St} {t : Tk} {ts : List Tk} (h : Rep u (t :: ts)) : u.1 = ptk t := h.1
theorem ptk_word (l : List UInt8) (h : resB ⟨l.toArray⟩ = true) : ptk (wordT l) = ⟨2, ⟨l.toArray⟩, 0⟩ := by
  unfold ptk wordT
  simp only [if_true]
  rw [if_pos h]
theorem ptk_num (n : Int) : ptk ⟨3, n, ⟨#[]⟩⟩ = ⟨4, ⟨#[]⟩, n⟩ := rfl
theorem ptk_text (t : ByteArray) : ptk ⟨4, 0, t⟩ = ⟨5, t, 0⟩ := rfl
theorem ptk_brk (c : UInt8) (h : c = 91 ∨ c = 93 ∨ c = 44) : ptk (brkT c) = ⟨7, ⟨#[c]⟩, 0⟩ := by
  rcases h with rfl | rfl | rfl <;> rfl
theorem ptk_name (s : ByteArray) (h : isNameD s = true) : ptk (nameT s) = ⟨3, s, 0⟩ := by
  have hn : namedD s = ⟨3, s, 0⟩ := by unfold namedD; rw [if_pos h]
  unfold nameT
  by_cases hp : plainB s = true
  · rw [if_pos hp]
    have h2 := hp
    unfold plainB at h2
    simp only [Bool.and_eq_true, Bool.not_eq_true', decide_eq_true_eq] at h2
    show (if resB s = true then (⟨2, s, 0⟩ : Pt) else namedD s) = _
    rw [if_neg (by rw [h2.2]; simp), hn]
  · rw [if_neg hp]
    exact hn
theorem ptk_sign (n : Int) (h1 : 1 ≤ n) (h5 : n ≤ 5) : ptk ⟨5, 0, ⟨(signL n).toArray⟩⟩ = ⟨6, ⟨#[]⟩, n⟩ := by
  have : n = 1 ∨ n = 2 ∨ n = 3 ∨ n = 4 ∨ n = 5 := by omega
  rcases this with rfl | rfl | rfl | rfl | rfl <;> rfl
/-- An item for which there is room. -/
structure FitR (r : Nat) (x : It) : Prop where
  fit : fits x = true
  list : x.kind = 5 → ∃ r', r = r' + 1 ∧ faultR r' x.list = 0
theorem firstF_all {f : It → Nat} : ∀ {l : List It}, firstF f l = 0 → ∀ x ∈ l, f x = 0
  | [], _, x, hx => by cases hx
  | y :: l, h, x, hx => by
    rw [firstF] at h
    split at h
    · rename_i hy
      rcases List.mem_cons.1 hx with rfl | hx
      · exact hy
      · exact firstF_all h x hx
    · rename_i hy
      exact absurd h hy
theorem fitR_of (r : Nat) (l : List It) (h : faultR r l = 0) : ∀ x ∈ l, FitR r x := by
  intro x hx
  cases r with
  | zero =>
    rw [faultR] at h
    split at h
    · cases h
    · have := oneF_zero (firstF_all h x hx)
      exact ⟨this.1, fun hk => absurd (this.2 hk) (by simp)⟩
  | succ r =>
    rw [faultR] at h
    split at h
    · cases h
    · have := oneF_zero (firstF_all h x hx)
      exact ⟨this.1, fun hk => ⟨r, rfl, this.2 hk⟩⟩
theorem item_first (x : It) (h : fits x = true) : ∃ t ts, itemT x = t :: ts ∧ justB 7 ⟨#[93]⟩ (ptk t) = false := by
  rcases fits_cases h with rfl | rfl | rfl | ⟨n, rfl⟩ | ⟨t, rfl⟩ | ⟨l, rfl⟩
  · exact ⟨_, _, rfl, by decide⟩
  · exact ⟨_, _, rfl, by decide⟩
  · exact ⟨_, _, rfl, by decide⟩
  · exact ⟨_, _, rfl, by rw [ptk_num]; simp [justB]⟩
  · exact ⟨_, _, rfl, by rw [ptk_text]; simp [justB]⟩
  · exact ⟨_, _, rfl, by decide⟩
def BackI (r : Nat) : Prop := ∀ (x : It) (u : St) (ts : List Tk), FitR r x → Rep u (itemT x ++ ts) → ∃ v, itemD r u = some (x, v) ∧ Rep v ts
theorem isM_brk {u : St} {c : UInt8} {ts : List Tk} (hc : c = 91 ∨ c = 93 ∨ c = 44) (h : Rep u (brkT c :: ts)) (x : UInt8) : isM ⟨#[x]⟩ u = decide (c = x) := by
  unfold isM justB
  rw [rep_head h, ptk_brk c hc]
  simp only [decide_true, Bool.and_true]
  by_cases e : c = x
  · subst e; simp
  · have : ¬ ((⟨#[c]⟩ : ByteArray) = ⟨#[x]⟩) := fun e2 => by
      have := congrArg (fun b : ByteArray => b.data.toList) e2
      simp at this
      exact e this
    simp [e, this]
theorem loop_back {r : Nat} (hI : BackI r) : ∀ (l : List It) (x : It) (n : Nat) (u : St) (ts : List Tk), FitR r x → (∀ y ∈ l, FitR r y) → rk u < n → Rep u (itemT x ++ (tailT l ++ brkT 93 :: ts)) → ∃ v, loopD (itemD r) n u = some (x :: l, v) ∧ Rep v ts
  | [], x, 0, u, ts, hx, _, hn, h => by omega
  | [], x, n + 1, u, ts, hx, _, hn, h => by
    obtain ⟨v, h1, h2⟩ := hI x u _ hx h
    have h2' : Rep v (brkT 93 :: ts) := h2
    refine ⟨nxtD v.2, ?_, rep_step h2'⟩
    rw [loopD, h1]
    simp only
    rw [if_pos (by rw [isM_brk (by simp) h2']; rfl)]
  | y :: l, x, 0, u, ts, hx, _, hn, h => by omega
  | y :: l, x, n + 1, u, ts, hx, hl, hn, h => by
    obtain ⟨v, h1, h2⟩ := hI x u _ hx h
    have h2' : Rep v (brkT 44 :: (itemT y ++ (tailT l ++ brkT 93 :: ts))) := by
      have e : tailT (y :: l) ++ brkT 93 :: ts = brkT 44 :: (itemT y ++ (tailT l ++ brkT 93 :: ts)) := by rw [tailT]; simp
      rw [e] at h2
      exact h2
    have hc := (item_cost r u x v h1).2
    have hk : v.1.kind ≠ 0 := by rw [rep_head h2']; decide
    have hs := step_rk v hk
    obtain ⟨z, h3, h4⟩ := loop_back hI l y n (nxtD v.2) ts (hl y (by simp)) (fun w hw => hl w (by simp [hw])) (by omega) (rep_step h2')
    refine ⟨z, ?_, h4⟩
    rw [loopD, h1]
    simp only
    rw [if_neg (by rw [isM_brk (by simp) h2']; decide), if_pos (by rw [isM_brk (by simp) h2']; rfl), h3]
    rfl
theorem list_back {r : Nat} (hI : BackI r) (l : List It) (u : St) (ts : List Tk) (hl : ∀ y ∈ l, FitR r y) (h : Rep u (listT l ++ brkT 93 :: ts)) : ∃ v, listD (itemD r) u = some (l, v) ∧ Rep v ts := by
  unfold listD
  cases l with
  | nil =>
    have h' : Rep u (brkT 93 :: ts) := h
    exact ⟨nxtD u.2, by rw [if_pos (by rw [isM_brk (by simp) h']; rfl)], rep_step h'⟩
  | cons x l =>
    have h' : Rep u (itemT x ++ (tailT l ++ brkT 93 :: ts)) := by
      have e : listT (x :: l) ++ brkT 93 :: ts = itemT x ++ (tailT l ++ brkT 93 :: ts) := by rw [listT]; simp
      rw [← e]; exact h
    have hx := hl x (by simp)
    have hn : ¬ isM ⟨#[93]⟩ u = true := by
      obtain ⟨t, ts', ht, hne⟩ := item_first x hx.fit
      rw [ht] at h'
      have e := rep_head (ts := ts' ++ (tailT l ++ brkT 93 :: ts)) h'
      unfold isM
      rw [e, hne]
      simp
    rw [if_neg hn]
    exact loop_back hI l x _ u ts hx (fun y hy => hl y (by simp [hy])) (by omega) h'
theorem item_back : ∀ r, BackI r := by
  intro r
  induction r with
  | zero =>
    intro x u ts hx h
    rw [item_form]
    rcases fits_cases hx.fit with rfl | rfl | rfl | ⟨n, rfl⟩ | ⟨t, rfl⟩ | ⟨l, rfl⟩
    · have h' : Rep u (wordT [110, 117, 108, 108] :: ts) := h
      have e := rep_head h'
      rw [ptk_word _ (by decide)] at e
      refine ⟨nxtD u.2, ?_, rep_step h'⟩
      rw [e]; rfl
    · have h' : Rep u (wordT [102, 97, 108, 115, 101] :: ts) := h
      have e := rep_head h'
      rw [ptk_word _ (by decide)] at e
      refine ⟨nxtD u.2, ?_, rep_step h'⟩
      rw [e]; rfl
    · have h' : Rep u (wordT [116, 114, 117, 101] :: ts) := h
      have e := rep_head h'
      rw [ptk_word _ (by decide)] at e
      refine ⟨nxtD u.2, ?_, rep_step h'⟩
      rw [e]; rfl
    · have h' : Rep u (⟨3, n, ⟨#[]⟩⟩ :: ts) := h
      have e := rep_head h'
      rw [ptk_num] at e
      refine ⟨nxtD u.2, ?_, rep_step h'⟩
      rw [e]; rfl
    · have h' : Rep u (⟨4, 0, t⟩ :: ts) := h
      have e := rep_head h'
      rw [ptk_text] at e
      refine ⟨nxtD u.2, ?_, rep_step h'⟩
      rw [e]; rfl
    · obtain ⟨r', e, _⟩ := hx.list rfl
      cases e
  | succ r ih =>
    intro x u ts hx h
    rw [item_form]
    rcases fits_cases hx.fit with rfl | rfl | rfl | ⟨n, rfl⟩ | ⟨t, rfl⟩ | ⟨l, rfl⟩
    · have h' : Rep u (wordT [110, 117, 108, 108] :: ts) := h
      have e := rep_head h'
      rw [ptk_word _ (by decide)] at e
      refine ⟨nxtD u.2, ?_, rep_step h'⟩
      rw [e]; rfl
    · have h' : Rep u (wordT [102, 97, 108, 115, 101] :: ts) := h
      have e := rep_head h'
      rw [ptk_word _ (by decide)] at e
      refine ⟨nxtD u.2, ?_, rep_step h'⟩
      rw [e]; rfl
    · have h' : Rep u (wordT [116, 114, 117, 101] :: ts) := h
      have e := rep_head h'
      rw [ptk_word _ (by decide)] at e
      refine ⟨nxtD u.2, ?_, rep_step h'⟩
      rw [e]; rfl
    · have h' : Rep u (⟨3, n, ⟨#[]⟩⟩ :: ts) := h
      have e := rep_head h'
      rw [ptk_num] at e
      refine ⟨nxtD u.2, ?_, rep_step h'⟩
      rw [e]; rfl
    · have h' : Rep u (⟨4, 0, t⟩ :: ts) := h
      have e := rep_head h'
      rw [ptk_text] at e
      refine ⟨nxtD u.2, ?_, rep_step h'⟩
      rw [e]; rfl
    · obtain ⟨r', e, hf⟩ := hx.list rfl
      cases e
      have h' : Rep u (brkT 91 :: (listT l ++ brkT 93 :: ts)) := by
        have e : itemT (.mk 5 0 ⟨#[]⟩ l) ++ ts = brkT 91 :: (listT l ++ brkT 93 :: ts) := by
          rw [itemT]; simp
        rw [← e]; exact h
      have e := rep_head h'
      rw [ptk_brk 91 (by simp)] at e
      obtain ⟨v, h1, h2⟩ := list_back ih l (nxtD u.2) ts (fitR_of r l hf) (rep_step h')
      refine ⟨v, ?_, h2⟩
      rw [if_neg (by rw [e]; decide), if_neg (by rw [e]; decide), if_neg (by rw [e]; decide), if_pos ⟨by rw [isM_brk (by simp) h']; rfl, by omega⟩, Nat.add_sub_cancel, h1]
      rfl
end Go.Proofs.YtkgeabljdkkonaaGreatDoor

namespace Go.Proofs.YtkgeabljdkkonaaGreatDoor
open Go.RowKit

/-! Where the document has no tokens, the program's reader reads no query (data alone). -/
def Bad (u : St) : Prop := u.1.kind = 1 ∨ (u.1.kind ≠ 0 ∧ toksD u.2.data.toList = none)
theorem named_kind (s : ByteArray) : (namedD s).kind = 1 ∨ (namedD s).kind = 3 := by
  unfold namedD
  split
  · exact .inr rfl
  · exact .inl rfl
theorem ptk_kind (t : Tk) : (ptk t).kind ≠ 0 := by
  unfold ptk
  split
  · split
    · show (2 : Int) ≠ 0; decide
    · rcases named_kind t.text with h | h <;> rw [h] <;> decide
  · split
    · rcases named_kind t.text with h | h <;> rw [h] <;> decide
    · split
      · show (4 : Int) ≠ 0; decide
      · split
        · show (5 : Int) ≠ 0; decide
        · split
          · show (7 : Int) ≠ 0; decide
          · show (6 : Int) ≠ 0; decide
theorem nxt_bad (s : ByteArray) (h : toksD s.data.toList = none) : Bad (nxtD s) := by
  have h1 := toks_trim s.data.toList
  have h2 := trim_head s.data.toList
  have hc : nxtD s = cutD ⟨(s.data.toList.dropWhile (· == 32)).toArray⟩ := rfl
  rw [h] at h1
  rw [hc]
  generalize s.data.toList.dropWhile (· == 32) = l at *
  cases l with
  | nil => rw [toksD_nil] at h1; cases h1
  | cons c r =>
    have h32 : c ≠ 32 := by simpa using h2
    rw [toksD, if_neg h32] at h1
    have hone := cut_one' c r
    split at h1
    · rename_i h0
      rw [if_pos h0] at hone
      exact .inl hone
    · rename_i h0
      rw [if_neg h0] at hone
      rw [hone]
      exact .inr ⟨ptk_kind _, by simpa using h1⟩
theorem Bad.step {u : St} (h : Bad u) (hk : u.1.kind ≠ 1) : Bad (nxtD u.2) := nxt_bad _ (h.resolve_left hk).2
theorem Bad.end {u : St} (h : Bad u) : u.1.kind ≠ 0 := by
  rcases h with h | h
  · omega
  · exact h.1
theorem Bad.just {u : St} (h : Bad u) {k : Int} {x : ByteArray} (hj : justB k x u.1 = true) (hk : k ≠ 1) : Bad (nxtD u.2) := h.step (by rw [just_kind hj]; exact hk)
theorem loop_bad {itm : St → Option (It × St)} (hi : ∀ u x v, itm u = some (x, v) → Bad u → Bad v) : ∀ (n : Nat) (u : St) (l : List It) (v : St), loopD itm n u = some (l, v) → Bad u → Bad v
  | 0, u, l, v, h, _ => by simp [loopD] at h
  | n + 1, u, l, v, h, hb => by
    rw [loopD] at h
    cases hx : itm u with
    | none => rw [hx] at h; cases h
    | some p =>
      obtain ⟨x, z⟩ := p
      rw [hx] at h
      simp only at h
      have hz := hi u x z hx hb
      by_cases h1 : isM ⟨#[93]⟩ z = true
      · rw [if_pos h1] at h
        cases h
        exact hz.just h1 (by decide)
      · rw [if_neg h1] at h
        by_cases h2 : isM ⟨#[44]⟩ z = true
        · rw [if_pos h2] at h
          cases hl : loopD itm n (nxtD z.2) with
          | none => rw [hl] at h; cases h
          | some p =>
            rw [hl] at h
            cases h
            exact loop_bad hi n _ _ _ hl (hz.just h2 (by decide))
        · rw [if_neg h2] at h; cases h
theorem item_bad : ∀ (r : Nat) (u : St) (x : It) (v : St), itemD r u = some (x, v) → Bad u → Bad v := by
  intro r
  induction r with
  | zero =>
    intro u x v h hb
    rw [item_form] at h
    split at h
    · rename_i hk; cases h; exact hb.step (by omega)
    split at h
    · rename_i hk; cases h; exact hb.step (by omega)
    split at h
    · rename_i hk
      cases hy : iowD u.1.text with
      | none => rw [hy] at h; cases h
      | some y => rw [hy] at h; cases h; exact hb.step (by omega)
    · simp at h
  | succ r ih =>
    intro u x v h hb
    rw [item_form] at h
    split at h
    · rename_i hk; cases h; exact hb.step (by omega)
    split at h
    · rename_i hk; cases h; exact hb.step (by omega)
    split at h
    · rename_i hk
      cases hy : iowD u.1.text with
      | none => rw [hy] at h; cases h
      | some y => rw [hy] at h; cases h; exact hb.step (by omega)
    · split at h
      · rename_i hm
        rw [Nat.add_sub_cancel] at h
        cases hl : listD (itemD r) (nxtD u.2) with
        | none => rw [hl] at h; cases h
        | some p =>
          rw [hl] at h
          cases h
          have hb1 := hb.just hm.1 (by decide)
          unfold listD at hl
          split at hl
          · rename_i h1
            cases hl
            exact hb1.just h1 (by decide)
          · exact loop_bad ih _ _ _ _ hl hb1
      · cases h
theorem cond_bad (u : St) (c : Cd) (v : St) (h : condD u = some (c, v)) (hb : Bad u) : Bad v := by
  unfold condD at h
  split at h
  · rename_i h3
    split at h
    · rename_i h6
      cases hi : itemD 4 (nxtD (nxtD u.2).2) with
      | none => rw [hi] at h; cases h
      | some p =>
        rw [hi] at h
        cases h
        exact item_bad 4 _ p.1 p.2 hi ((hb.step (by omega)).step (by omega))
    · cases h
  · cases h
theorem conds_bad : ∀ (n : Nat) (u : St) (l : List Cd) (v : St), condsD n u = some (l, v) → Bad u → Bad v
  | 0, u, l, v, h, _ => by simp [condsD] at h
  | n + 1, u, l, v, h, hb => by
    rw [condsD] at h
    cases hx : condD u with
    | none => rw [hx] at h; cases h
    | some p =>
      obtain ⟨c, z⟩ := p
      rw [hx] at h
      simp only at h
      have hz := cond_bad u c z hx hb
      by_cases h1 : justB 2 ⟨#[97, 110, 100]⟩ z.1 = true
      · rw [if_pos h1] at h
        cases hl : condsD n (nxtD z.2) with
        | none => rw [hl] at h; cases h
        | some p =>
          rw [hl] at h
          cases h
          exact conds_bad n _ _ _ hl (hz.just h1 (by decide))
      · rw [if_neg h1] at h
        cases h
        exact hz
theorem where_bad (u : St) (l : List Cd) (v : St) (h : whereD u = some (l, v)) (hb : Bad u) : Bad v := by
  unfold whereD at h
  split at h
  · rename_i hj; exact conds_bad _ _ _ _ h (hb.just hj (by decide))
  · cases h; exact hb
theorem order_bad (u : St) (o : ByteArray × Bool) (v : St) (h : orderD u = some (o, v)) (hb : Bad u) : Bad v := by
  unfold orderD at h
  split at h
  · rename_i hj
    have hb1 := hb.just hj (by decide)
    split at h
    · rename_i hok
      cases h
      unfold ordD at hok ⊢
      split
      · rename_i hby
        rw [if_pos hby] at hok
        have hb2 := hb1.just hby (by decide)
        split
        · rename_i h3
          have hb3 := hb2.step (by omega)
          unfold stepT
          split
          · rename_i hf; exact hb3.just hf (by decide)
          · exact hb3
        · rename_i h3
          rw [if_neg h3] at hok
          cases hok
      · rename_i hby
        rw [if_neg hby] at hok
        cases hok
    · cases h
  · cases h; exact hb
theorem limit_bad (u : St) (m : Int) (v : St) (h : limitD u = some (m, v)) (hb : Bad u) : Bad v := by
  unfold limitD at h
  split at h
  · rename_i hj
    have hb1 := hb.just hj (by decide)
    split at h
    · rename_i hl
      cases h
      unfold limB at hl
      simp only [Bool.and_eq_true, decide_eq_true_eq] at hl
      exact hb1.step (by omega)
    · cases h
  · cases h; exact hb
end Go.Proofs.YtkgeabljdkkonaaGreatDoor
