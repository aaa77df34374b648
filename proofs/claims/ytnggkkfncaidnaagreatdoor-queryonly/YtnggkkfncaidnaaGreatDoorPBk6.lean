import Derived.Test.YtnggkkfncaidnaaGreatDoorGRL
import Derived.Test.YtnggkkfncaidnaaGreatDoorPBr1
namespace Go.Proofs.YtnggkkfncaidnaaGreatDoor
open Go.RowKit

/-! What was written is read again (data alone). -/
def Rep (u : St) (ts : List Tk) : Prop :=
  match ts with
  | [] => u = (pt0, ⟨#[]⟩)
  | t :: ts' => u.1 = ptk t ∧ toksD u.2.data.toList = some ts'
theorem toks_trim (l : List UInt8) : toksD (l.dropWhile (· == 32)) = toksD l := by
  induction l with
  | nil => rfl
  | cons c r ih =>
    rw [List.dropWhile_cons]
    by_cases h : c = 32
    · subst h
      rw [if_pos (by decide), ih, toksD_blank]
    · rw [if_neg (by simpa using h)]
theorem trim_head (l : List UInt8) : (l.dropWhile (· == 32)).head? ≠ some 32 := by
  induction l with
  | nil => simp
  | cons c r ih =>
    rw [List.dropWhile_cons]
    by_cases h : c = 32
    · subst h
      rw [if_pos (by decide)]; exact ih
    · rw [if_neg (by simpa using h)]
      simpa using h
theorem rep_nxt (s : ByteArray) (ts : List Tk) (h : toksD s.data.toList = some ts) : Rep (nxtD s) ts := by
  have h1 := toks_trim s.data.toList
  have h2 := trim_head s.data.toList
  have hc : nxtD s = cutD ⟨(s.data.toList.dropWhile (· == 32)).toArray⟩ := rfl
  rw [h] at h1
  rw [hc]
  generalize s.data.toList.dropWhile (· == 32) = l at *
  cases l with
  | nil =>
    rw [toksD_nil] at h1
    cases h1
    rfl
  | cons c r =>
    have h32 : c ≠ 32 := by simpa using h2
    rw [toksD, if_neg h32] at h1
    have hone := cut_one' c r
    split at h1
    · cases h1
    · rename_i h0
      rw [if_neg h0] at hone
      obtain ⟨ts', hts, rfl⟩ := Option.map_eq_some_iff.1 h1
      rw [hone]
      exact ⟨rfl, hts⟩
theorem rep_step {u : St} {t : Tk} {ts : List Tk} (h : Rep u (t :: ts)) : Rep (nxtD u.2) ts := rep_nxt _ _ h.2
theorem rep_head {u : St} {t : Tk} {ts : List Tk} (h : Rep u (t :: ts)) : u.1 = ptk t := h.1
theorem ptk_word (l : List UInt8) (h : resB ⟨l.toArray⟩ = true) : ptk (wordT l) = ⟨2, ⟨l.toArray⟩, 0⟩ := by
  unfold ptk wordT
  simp only [if_true]
  rw [if_pos h]
theorem ptk_num (n : Int) : ptk ⟨3, n, ⟨#[]⟩⟩ = ⟨4, ⟨#[]⟩, n⟩ := rfl
theorem ptk_text (t : ByteArray) : ptk ⟨4, 0, t⟩ = ⟨5, t, 0⟩ := rfl
theorem ptk_brk (c : UInt8) (h : c = 91 ∨ c = 93 ∨ c = 44) : ptk (brkT c) = ⟨7, ⟨#[c]⟩, 0⟩ := by
  rcases h with rfl | rfl | rfl <;> rfl
theorem ptk_name (s : ByteArray) (h : isNameD s = true) : ptk (nameT s) = ⟨3, s, 0⟩ := by
  have hn : namedD s = ⟨3, s, 0⟩ := by unfold namedD; rw [if_pos h]
  unfold nameT
  by_cases hp : plainB s = true
  · rw [if_pos hp]
    have h2 := hp
    unfold plainB at h2
    simp only [Bool.and_eq_true, Bool.not_eq_true', decide_eq_true_eq] at h2
    show (if resB s = true then (⟨2, s, 0⟩ : Pt) else namedD s) = _
    rw [if_neg (by rw [h2.2]; simp), hn]
  · rw [if_neg hp]
    exact hn
theorem ptk_sign (n : Int) (h1 : 1 ≤ n) (h5 : n ≤ 5) : ptk ⟨5, 0, ⟨(signL n).toArray⟩⟩ = ⟨6, ⟨#[]⟩, n⟩ := by
  have : n = 1 ∨ n = 2 ∨ n = 3 ∨ n = 4 ∨ n = 5 := by omega
  rcases this with rfl | rfl | rfl | rfl | rfl <;> rfl
/-- An item for which there is room. -/
structure FitR (r : Nat) (x : It) : Prop where
  fit : fits x = true
  list : x.kind = 5 → ∃ r', r = r' + 1 ∧ faultR r' x.list = 0
theorem firstF_all {f : It → Nat} : ∀ {l : List It}, firstF f l = 0 → ∀ x ∈ l, f x = 0
  | [], _, x, hx => by cases hx
  | y :: l, h, x, hx => by
    rw [firstF] at h
    split at h
    · rename_i hy
      rcases List.mem_cons.1 hx with rfl | hx
      · exact hy
      · exact firstF_all h x hx
    · rename_i hy
      exact absurd h hy
theorem fitR_of (r : Nat) (l : List It) (h : faultR r l = 0) : ∀ x ∈ l, FitR r x := by
  intro x hx
  cases r with
  | zero =>
    rw [faultR] at h
    split at h
    · cases h
    · have := oneF_zero (firstF_all h x hx)
      exact ⟨this.1, fun hk => absurd (this.2 hk) (by simp)⟩
  | succ r =>
    rw [faultR] at h
    split at h
    · cases h
    · have := oneF_zero (firstF_all h x hx)
      exact ⟨this.1, fun hk => ⟨r, rfl, this.2 hk⟩⟩
theorem item_first (x : It) (h : fits x = true) : ∃ t ts, itemT x = t :: ts ∧ justB 7 ⟨#[93]⟩ (ptk t) = false := by
  rcases fits_cases h with rfl | rfl | rfl | ⟨n, rfl⟩ | ⟨t, rfl⟩ | ⟨l, rfl⟩
  · exact ⟨_, _, rfl, by decide⟩
  · exact ⟨_, _, rfl, by decide⟩
  · exact ⟨_, _, rfl, by decide⟩
  · exact ⟨_, _, rfl, by rw [ptk_num]; simp [justB]⟩
  · exact ⟨_, _, rfl, by rw [ptk_text]; simp [justB]⟩
  · exact ⟨_, _, rfl, by decide⟩
def BackI (r : Nat) : Prop := ∀ (x : It) (u : St) (ts : List Tk), FitR r x → Rep u (itemT x ++ ts) → ∃ v, itemD r u = some (x, v) ∧ Rep v ts
theorem isM_brk {u : St} {c : UInt8} {ts : List Tk} (hc : c = 91 ∨ c = 93 ∨ c = 44) (h : Rep u (brkT c :: ts)) (x : UInt8) : isM ⟨#[x]⟩ u = decide (c = x) := by
  unfold isM justB
  rw [rep_head h, ptk_brk c hc]
  simp only [decide_true, Bool.and_true]
  by_cases e : c = x
  · subst e; simp
  · have : ¬ ((⟨#[c]⟩ : ByteArray) = ⟨#[x]⟩) := fun e2 => by
      have := congrArg (fun b : ByteArray => b.data.toList) e2
      simp at this
      exact e this
    simp [e, this]
theorem loop_back {r : Nat} (hI : BackI r) : ∀ (l : List It) (x : It) (n : Nat) (u : St) (ts : List Tk), FitR r x → (∀ y ∈ l, FitR r y) → rk u < n → Rep u (itemT x ++ (tailT l ++ brkT 93 :: ts)) → ∃ v, loopD (itemD r) n u = some (x :: l, v) ∧ Rep v ts
  | [], x, 0, u, ts, hx, _, hn, h => by omega
  | [], x, n + 1, u, ts, hx, _, hn, h => by
    obtain ⟨v, h1, h2⟩ := hI x u _ hx h
    have h2' : Rep v (brkT 93 :: ts) := h2
    refine ⟨nxtD v.2, ?_, rep_step h2'⟩
    rw [loopD, h1]
    simp only
    rw [if_pos (by rw [isM_brk (by simp) h2']; rfl)]
  | y :: l, x, 0, u, ts, hx, _, hn, h => by omega
  | y :: l, x, n + 1, u, ts, hx, hl, hn, h => by
    obtain ⟨v, h1, h2⟩ := hI x u _ hx h
    have h2' : Rep v (brkT 44 :: (itemT y ++ (tailT l ++ brkT 93 :: ts))) := by
      have e : tailT (y :: l) ++ brkT 93 :: ts = brkT 44 :: (itemT y ++ (tailT l ++ brkT 93 :: ts)) := by rw [tailT]; simp
      rw [e] at h2
      exact h2
    have hc := (item_cost r u x v h1).2
    have hk : v.1.kind ≠ 0 := by rw [rep_head h2']; decide
    have hs := step_rk v hk
    obtain ⟨z, h3, h4⟩ := loop_back hI l y n (nxtD v.2) ts (hl y (by simp)) (fun w hw => hl w (by simp [hw])) (by omega) (rep_step h2')
    refine ⟨z, ?_, h4⟩
    rw [loopD, h1]
    simp only
    rw [if_neg (by rw [isM_brk (by simp) h2']; decide), if_pos (by rw [isM_brk (by simp) h2']; rfl), h3]
    rfl
theorem list_back {r : Nat} (hI : BackI r) (l : List It) (u : St) (ts : List Tk) (hl : ∀ y ∈ l, FitR r y) (h : Rep u (listT l ++ brkT 93 :: ts)) : ∃ v, listD (itemD r) u = some (l, v) ∧ Rep v ts := by
  unfold listD
  cases l with
  | nil =>
    have h' : Rep u (brkT 93 :: ts) := h
    exact ⟨nxtD u.2, by rw [if_pos (by rw [isM_brk (by simp) h']; rfl)], rep_step h'⟩
  | cons x l =>
    have h' : Rep u (itemT x ++ (tailT l ++ brkT 93 :: ts)) := by
      have e : listT (x :: l) ++ brkT 93 :: ts = itemT x ++ (tailT l ++ brkT 93 :: ts) := by rw [listT]; simp
      rw [← e]; exact h
    have hx := hl x (by simp)
    have hn : ¬ isM ⟨#[93]⟩ u = true := by
      obtain ⟨t, ts', ht, hne⟩ := item_first x hx.fit
      rw [ht] at h'
      have e := rep_head (ts := ts' ++ (tailT l ++ brkT 93 :: ts)) h'
      unfold isM
      rw [e, hne]
      simp
    rw [if_neg hn]
    exact loop_back hI l x _ u ts hx (fun y hy => hl y (by simp [hy])) (by omega) h'
theorem item_back : ∀ r, BackI r := by
  intro r
  induction r with
  | zero =>
    intro x u ts hx h
    rw [item_form]
    rcases fits_cases hx.fit with rfl | rfl | rfl | ⟨n, rfl⟩ | ⟨t, rfl⟩ | ⟨l, rfl⟩
    · have h' : Rep u (wordT [110, 117, 108, 108] :: ts) := h
      have e := rep_head h'
      rw [ptk_word _ (by decide)] at e
      refine ⟨nxtD u.2, ?_, rep_step h'⟩
      rw [e]; rfl
    · have h' : Rep u (wordT [102, 97, 108, 115, 101] :: ts) := h
      have e := rep_head h'
      rw [ptk_word _ (by decide)] at e
      refine ⟨nxtD u.2, ?_, rep_step h'⟩
      rw [e]; rfl
    · have h' : Rep u (wordT [116, 114, 117, 101] :: ts) := h
      have e := rep_head h'
      rw [ptk_word _ (by decide)] at e
      refine ⟨nxtD u.2, ?_, rep_step h'⟩
      rw [e]; rfl
    · have h' : Rep u (⟨3, n, ⟨#[]⟩⟩ :: ts) := h
      have e := rep_head h'
      rw [ptk_num] at e
      refine ⟨nxtD u.2, ?_, rep_step h'⟩
      rw [e]; rfl
    · have h' : Rep u (⟨4, 0, t⟩ :: ts) := h
      have e := rep_head h'
      rw [ptk_text] at e
      refine ⟨nxtD u.2, ?_, rep_step h'⟩
      rw [e]; rfl
    · obtain ⟨r', e, _⟩ := hx.list rfl
      cases e
  | succ r ih =>
    intro x u ts hx h
    rw [item_form]
    rcases fits_cases hx.fit with rfl | rfl | rfl | ⟨n, rfl⟩ | ⟨t, rfl⟩ | ⟨l, rfl⟩
    · have h' : Rep u (wordT [110, 117, 108, 108] :: ts) := h
      have e := rep_head h'
      rw [ptk_word _ (by decide)] at e
      refine ⟨nxtD u.2, ?_, rep_step h'⟩
      rw [e]; rfl
    · have h' : Rep u (wordT [102, 97, 108, 115, 101] :: ts) := h
      have e := rep_head h'
      rw [ptk_word _ (by decide)] at e
      refine ⟨nxtD u.2, ?_, rep_step h'⟩
      rw [e]; rfl
    · have h' : Rep u (wordT [116, 114, 117, 101] :: ts) := h
      have e := rep_head h'
      rw [ptk_word _ (by decide)] at e
      refine ⟨nxtD u.2, ?_, rep_step h'⟩
      rw [e]; rfl
    · have h' : Rep u (⟨3, n, ⟨#[]⟩⟩ :: ts) := h
      have e := rep_head h'
      rw [ptk_num] at e
      refine ⟨nxtD u.2, ?_, rep_step h'⟩
      rw [e]; rfl
    · have h' : Rep u (⟨4, 0, t⟩ :: ts) := h
      have e := rep_head h'
      rw [ptk_text] at e
      refine ⟨nxtD u.2, ?_, rep_step h'⟩
      rw [e]; rfl
    · obtain ⟨r', e, hf⟩ := hx.list rfl
      cases e
      have h' : Rep u (brkT 91 :: (listT l ++ brkT 93 :: ts)) := by
        have e : itemT (.mk 5 0 ⟨#[]⟩ l) ++ ts = brkT 91 :: (listT l ++ brkT 93 :: ts) := by
          rw [itemT]; simp
        rw [← e]; exact h
      have e := rep_head h'
      rw [ptk_brk 91 (by simp)] at e
      obtain ⟨v, h1, h2⟩ := list_back ih l (nxtD u.2) ts (fitR_of r l hf) (rep_step h')
      refine ⟨v, ?_, h2⟩
      rw [if_neg (by rw [e]; decide), if_neg (by rw [e]; decide), if_neg (by rw [e]; decide), if_pos ⟨by rw [isM_brk (by simp) h']; rfl, by omega⟩, Nat.add_sub_cancel, h1]
      rfl
end Go.Proofs.YtnggkkfncaidnaaGreatDoor
