import Derived.Test.YtageokjobbjddaaGreatDoorGRL
import Derived.Test.YtageokjobbjddaaGreatDoorGRM
namespace Go.Proofs.YtageokjobbjddaaGreatDoor
open Go.RowKit

/-! What was written is read again (data alone). -/
def Rep (u : St) (ts : List Tk) : Prop :=
  match ts with
  | [] => u = (pt0, ⟨#[]⟩)
  | t :: ts' => u.1 = ptk t ∧ toksD u.2.data.toList = some ts'
theorem toks_trim (l : List UInt8) : toksD (l.dropWhile (· == 32)) = toksD l := by
  induction l with
  | nil => rfl
  | cons c r ih =>
    rw [List.dropWhile_cons]
    by_cases h : c = 32
    · subst h
      rw [if_pos (by decide), ih, toksD_blank]
    · rw [if_neg (by simpa using h)]
theorem trim_head (l : List UInt8) : (l.dropWhile (· == 32)).head? ≠ some 32 := by
  induction l with
  | nil => simp
  | cons c r ih =>
    rw [List.dropWhile_cons]
    by_cases h : c = 32
    · subst h
      rw [if_pos (by decide)]; exact ih
    · rw [if_neg (by simpa using h)]
      simpa using h
theorem rep_nxt (s : ByteArray) (ts : List Tk) (h : toksD s.data.toList = some ts) : Rep (nxtD s) ts := by
  have h1 := toks_trim s.data.toList
  have h2 := trim_head s.data.toList
  have hc : nxtD s = cutD ⟨(s.data.toList.dropWhile (· == 32)).toArray⟩ := rfl
  rw [h] at h1
  rw [hc]
  generalize s.data.toList.dropWhile (· == 32) = l at *
  cases l with
  | nil =>
    rw [toksD_nil] at h1
    cases h1
    rfl
  | cons c r =>
    have h32 : c ≠ 32 := by simpa using h2
    rw [toksD, if_neg h32] at h1
    have hone := cut_one' c r
    split at h1
    · cases h1
    · rename_i h0
      rw [if_neg h0] at hone
      obtain ⟨ts', hts, rfl⟩ := Option.map_eq_some_iff.1 h1
      rw [hone]
      exact ⟨rfl, hts⟩
theorem rep_step {u : St} {t : Tk} {ts : List Tk} (h : Rep u (t :: ts)) : Rep (nxtD u.2) ts := rep_nxt _ _ h.2
theorem rep_head {u : St} {t : Tk} {ts : List Tk} (h : Rep u (t :: ts)) : u.1 = ptk t := h.1
theorem ptk_word (l : List UInt8) (h : resB ⟨l.toArray⟩ = true) : ptk (wordT l) = ⟨2, ⟨l.toArray⟩, 0⟩ := by
  unfold ptk wordT
  simp only [if_true]
  rw [if_pos h]
theorem ptk_num (n : Int) : ptk ⟨3, n, ⟨#[]⟩⟩ = ⟨4, ⟨#[]⟩, n⟩ := rfl
theorem ptk_text (t : ByteArray) : ptk ⟨4, 0, t⟩ = ⟨5, t, 0⟩ := rfl
theorem ptk_brk (c : UInt8) (h : c = 91 ∨ c = 93 ∨ c = 44) : ptk (brkT c) = ⟨7, ⟨#[c]⟩, 0⟩ := by
  rcases h with rfl | rfl | rfl <;> rfl
theorem ptk_name (s : ByteArray) (h : isNameD s = true) : ptk (nameT s) = ⟨3, s, 0⟩ := by
  have hn : namedD s = ⟨3, s, 0⟩ := by unfold namedD; rw [if_pos h]
  unfold nameT
  by_cases hp : plainB s = true
  · rw [if_pos hp]
    have h2 := hp
    unfold plainB at h2
    simp only [Bool.and_eq_true, Bool.not_eq_true', decide_eq_true_eq] at h2
    show (if resB s = true then (⟨2, s, 0⟩ : Pt) else namedD s) = _
    rw [if_neg (by rw [h2.2]; simp), hn]
  · rw [if_neg hp]
    exact hn
theorem ptk_sign (n : Int) (h1 : 1 ≤ n) (h5 : n ≤ 5) : ptk ⟨5, 0, ⟨(signL n).toArray⟩⟩ = ⟨6, ⟨#[]⟩, n⟩ := by
  have : n = 1 ∨ n = 2 ∨ n = 3 ∨ n = 4 ∨ n = 5 := by omega
  rcases this with rfl | rfl | rfl | rfl | rfl <;> rfl
/-- An item for which there is room. -/
structure FitR (r : Nat) (x : It) : Prop where
  fit : fits x = true
  list : x.kind = 5 → ∃ r', r = r' + 1 ∧ faultR r' x.list = 0
theorem firstF_all {f : It → Nat} : ∀ {l : List It}, firstF f l = 0 → ∀ x ∈ l, f x = 0
  | [], _, x, hx => by cases hx
  | y :: l, h, x, hx => by
    rw [firstF] at h
    split at h
    · rename_i hy
      rcases List.mem_cons.1 hx with rfl | hx
      · exact hy
      · exact firstF_all h x hx
    · rename_i hy
      exact absurd h hy
theorem fitR_of (r : Nat) (l : List It) (h : faultR r l = 0) : ∀ x ∈ l, FitR r x := by
  intro x hx
  cases r with
  | zero =>
    rw [faultR] at h
    split at h
    · cases h
    · have := oneF_zero (firstF_all h x hx)
      exact ⟨this.1, fun hk => absurd (this.2 hk) (by simp)⟩
  | succ r =>
    rw [faultR] at h
    split at h
    · cases h
    · have := oneF_zero (firstF_all h x hx)
      exact ⟨this.1, fun hk => ⟨r, rfl, this.2 hk⟩⟩
theorem item_first (x : It) (h : fits x = true) : ∃ t ts, itemT x = t :: ts ∧ justB 7 ⟨#[93]⟩ (ptk t) = false := by
  rcases fits_cases h with rfl | rfl | rfl | ⟨n, rfl⟩ | ⟨t, rfl⟩ | ⟨l, rfl⟩
  · exact ⟨_, _, rfl, by decide⟩
  · exact ⟨_, _, rfl, by decide⟩
  · exact ⟨_, _, rfl, by decide⟩
  · exact ⟨_, _, rfl, by rw [ptk_num]; simp [justB]⟩
  · exact ⟨_, _, rfl, by rw [ptk_text]; simp [justB]⟩
  · exact ⟨_, _, rfl, by decide⟩
def BackI (r : Nat) : Prop := ∀ (x : It) (u : St) (ts : List Tk), FitR r x → Rep u (itemT x ++ ts) → ∃ v, itemD r u = some (x, v) ∧ Rep v ts
theorem isM_brk {u : St} {c : UInt8} {ts : List Tk} (hc : c = 91 ∨ c = 93 ∨ c = 44) (h : Rep u (brkT c :: ts)) (x : UInt8) : isM ⟨#[x]⟩ u = decide (c = x) := by
  unfold isM justB
  rw [rep_head h, ptk_brk c hc]
  simp only [decide_true, Bool.and_true]
  by_cases e : c = x
  · subst e; simp
  · have : ¬ ((⟨#[c]⟩ : ByteArray) = ⟨#[x]⟩) := fun e2 => by
      have := congrArg (fun b : ByteArray => b.data.toList) e2
      simp at this
      exact e this
    simp [e, this]
theorem loop_back {r : Nat} (hI : BackI r) : ∀ (l : List It) (x : It) (n : Nat) (u : St) (ts : List Tk), FitR r x → (∀ y ∈ l, FitR r y) → rk u < n → Rep u (itemT x ++ (tailT l ++ brkT 93 :: ts)) → ∃ v, loopD (itemD r) n u = some (x :: l, v) ∧ Rep v ts
  | [], x, 0, u, ts, hx, _, hn, h => by omega
  | [], x, n + 1, u, ts, hx, _, hn, h => by
    obtain ⟨v, h1, h2⟩ := hI x u _ hx h
    have h2' : Rep v (brkT 93 :: ts) := h2
    refine ⟨nxtD v.2, ?_, rep_step h2'⟩
    rw [loopD, h1]
    simp only
    rw [if_pos (by rw [isM_brk (by simp) h2']; rfl)]
  | y :: l, x, 0, u, ts, hx, _, hn, h => by omega
  | y :: l, x, n + 1, u, ts, hx, hl, hn, h => by
    obtain ⟨v, h1, h2⟩ := hI x u _ hx h
    have h2' : Rep v (brkT 44 :: (itemT y ++ (tailT l ++ brkT 93 :: ts))) := by
      have e : tailT (y :: l) ++ brkT 93 :: ts = brkT 44 :: (itemT y ++ (tailT l ++ brkT 93 :: ts)) := by rw [tailT]; simp
      rw [e] at h2
      exact h2
    have hc := (item_cost r u x v h1).2
    have hk : v.1.kind ≠ 0 := by rw [rep_head h2']; decide
    have hs := step_rk v hk
    obtain ⟨z, h3, h4⟩ := loop_back hI l y n (nxtD v.2) ts (hl y (by simp)) (fun w hw => hl w (by simp [hw])) (by omega) (rep_step h2')
    refine ⟨z, ?_, h4⟩
    rw [loopD, h1]
    simp only
    rw [if_neg (by rw [isM_brk (by simp) h2']; decide), if_pos (by rw [isM_brk (by simp) h2']; rfl), h3]
    rfl
theorem list_back {r : Nat} (hI : BackI r) (l : List It) (u : St) (ts : List Tk) (hl : ∀ y ∈ l, FitR r y) (h : Rep u (listT l ++ brkT 93 :: ts)) : ∃ v, listD (itemD r) u = some (l, v) ∧ Rep v ts := by
  unfold listD
  cases l with
  | nil =>
    have h' : Rep u (brkT 93 :: ts) := h
    exact ⟨nxtD u.2, by rw [if_pos (by rw [isM_brk (by simp) h']; rfl)], rep_step h'⟩
  | cons x l =>
    have h' : Rep u (itemT x ++ (tailT l ++ brkT 93 :: ts)) := by
      have e : listT (x :: l) ++ brkT 93 :: ts = itemT x ++ (tailT l ++ brkT 93 :: ts) := by rw [listT]; simp
      rw [← e]; exact h
    have hx := hl x (by simp)
    have hn : ¬ isM ⟨#[93]⟩ u = true := by
      obtain ⟨t, ts', ht, hne⟩ := item_first x hx.fit
      rw [ht] at h'
      have e := rep_head (ts := ts' ++ (tailT l ++ brkT 93 :: ts)) h'
      unfold isM
      rw [e, hne]
      simp
    rw [if_neg hn]
    exact loop_back hI l x _ u ts hx (fun y hy => hl y (by simp [hy])) (by omega) h'
theorem item_back : ∀ r, BackI r := by
  intro r
  induction r with
  | zero =>
    intro x u ts hx h
    rw [item_form]
    rcases fits_cases hx.fit with rfl | rfl | rfl | ⟨n, rfl⟩ | ⟨t, rfl⟩ | ⟨l, rfl⟩
    · have h' : Rep u (wordT [110, 117, 108, 108] :: ts) := h
      have e := rep_head h'
      rw [ptk_word _ (by decide)] at e
      refine ⟨nxtD u.2, ?_, rep_step h'⟩
      rw [e]; rfl
    · have h' : Rep u (wordT [102, 97, 108, 115, 101] :: ts) := h
      have e := rep_head h'
      rw [ptk_word _ (by decide)] at e
      refine ⟨nxtD u.2, ?_, rep_step h'⟩
      rw [e]; rfl
    · have h' : Rep u (wordT [116, 114, 117, 101] :: ts) := h
      have e := rep_head h'
      rw [ptk_word _ (by decide)] at e
      refine ⟨nxtD u.2, ?_, rep_step h'⟩
      rw [e]; rfl
    · have h' : Rep u (⟨3, n, ⟨#[]⟩⟩ :: ts) := h
      have e := rep_head h'
      rw [ptk_num] at e
      refine ⟨nxtD u.2, ?_, rep_step h'⟩
      rw [e]; rfl
    · have h' : Rep u (⟨4, 0, t⟩ :: ts) := h
      have e := rep_head h'
      rw [ptk_text] at e
      refine ⟨nxtD u.2, ?_, rep_step h'⟩
      rw [e]; rfl
    · obtain ⟨r', e, _⟩ := hx.list rfl
      cases e
  | succ r ih =>
    intro x u ts hx h
    rw [item_form]
    rcases fits_cases hx.fit with rfl | rfl | rfl | ⟨n, rfl⟩ | ⟨t, rfl⟩ | ⟨l, rfl⟩
    · have h' : Rep u (wordT [110, 117, 108, 108] :: ts) := h
      have e := rep_head h'
      rw [ptk_word _ (by decide)] at e
      refine ⟨nxtD u.2, ?_, rep_step h'⟩
      rw [e]; rfl
    · have h' : Rep u (wordT [102, 97, 108, 115, 101] :: ts) := h
      have e := rep_head h'
      rw [ptk_word _ (by decide)] at e
      refine ⟨nxtD u.2, ?_, rep_step h'⟩
      rw [e]; rfl
    · have h' : Rep u (wordT [116, 114, 117, 101] :: ts) := h
      have e := rep_head h'
      rw [ptk_word _ (by decide)] at e
      refine ⟨nxtD u.2, ?_, rep_step h'⟩
      rw [e]; rfl
    · have h' : Rep u (⟨3, n, ⟨#[]⟩⟩ :: ts) := h
      have e := rep_head h'
      rw [ptk_num] at e
      refine ⟨nxtD u.2, ?_, rep_step h'⟩
      rw [e]; rfl
    · have h' : Rep u (⟨4, 0, t⟩ :: ts) := h
      have e := rep_head h'
      rw [ptk_text] at e
      refine ⟨nxtD u.2, ?_, rep_step h'⟩
      rw [e]; rfl
    · obtain ⟨r', e, hf⟩ := hx.list rfl
      cases e
      have h' : Rep u (brkT 91 :: (listT l ++ brkT 93 :: ts)) := by
        have e : itemT (.mk 5 0 ⟨#[]⟩ l) ++ ts = brkT 91 :: (listT l ++ brkT 93 :: ts) := by
          rw [itemT]; simp
        rw [← e]; exact h
      have e := rep_head h'
      rw [ptk_brk 91 (by simp)] at e
      obtain ⟨v, h1, h2⟩ := list_back ih l (nxtD u.2) ts (fitR_of r l hf) (rep_step h')
      refine ⟨v, ?_, h2⟩
      rw [if_neg (by rw [e]; decide), if_neg (by rw [e]; decide), if_neg (by rw [e]; decide), if_pos ⟨by rw [isM_brk (by simp) h']; rfl, by omega⟩, Nat.add_sub_cancel, h1]
      rfl
end Go.Proofs.YtageokjobbjddaaGreatDoor

namespace Go.Proofs.YtageokjobbjddaaGreatDoor
open Go.RowKit

theorem cond_parts {c : Cd} (h : condF c = 0) : isNameD c.field = true ∧ 1 ≤ c.sign ∧ c.sign ≤ 5 ∧ FitR 4 c.item := by
  unfold condF at h
  split at h
  · rename_i hc
    refine ⟨hc.1, hc.2.1, hc.2.2, ?_⟩
    unfold packF at h
    split at h
    · rename_i hf
      exact fitR_of 4 [c.item] hf c.item (by simp)
    · rename_i hf
      exact absurd h hf
  · cases h
theorem cond_back (c : Cd) (u : St) (ts : List Tk) (hc : condF c = 0) (h : Rep u (condT2 c ++ ts)) : ∃ v, condD u = some (c, v) ∧ Rep v ts := by
  obtain ⟨h1, h2, h3, h4⟩ := cond_parts hc
  have h' : Rep u (nameT c.field :: (⟨5, 0, ⟨(signL c.sign).toArray⟩⟩ :: (itemT c.item ++ ts))) := h
  have e1 := rep_head h'
  rw [ptk_name _ h1] at e1
  have k1 := rep_step h'
  have e2 := rep_head k1
  rw [ptk_sign _ h2 h3] at e2
  obtain ⟨v, i1, i2⟩ := item_back 4 c.item _ ts h4 (rep_step k1)
  refine ⟨v, ?_, i2⟩
  unfold condD
  rw [e1, e2, i1]
  rfl
/-- The token ahead is neither where nor and. -/
def Past (ts : List Tk) : Prop := ∀ u, Rep u ts → justB 2 ⟨#[119, 104, 101, 114, 101]⟩ u.1 = false ∧ justB 2 ⟨#[97, 110, 100]⟩ u.1 = false
theorem conds_back : ∀ (l : List Cd) (c : Cd) (n : Nat) (u : St) (ts : List Tk), condF c = 0 → (∀ d ∈ l, condF d = 0) → rk u < n → Past ts → Rep u (condT2 c ++ (condsT2 l ++ ts)) → ∃ v, condsD n u = some (c :: l, v) ∧ Rep v ts
  | _, _, 0, u, ts, _, _, hn, _, _ => by omega
  | [], c, n + 1, u, ts, hc, _, hn, hp, h => by
    obtain ⟨v, h1, h2⟩ := cond_back c u _ hc h
    have h2' : Rep v ts := h2
    refine ⟨v, ?_, h2'⟩
    rw [condsD, h1]
    simp only
    rw [if_neg (by rw [(hp v h2').2]; simp)]
  | d :: l, c, n + 1, u, ts, hc, hl, hn, hp, h => by
    obtain ⟨v, h1, h2⟩ := cond_back c u _ hc h
    have h2' : Rep v (andT :: (condT2 d ++ (condsT2 l ++ ts))) := by
      have e : condsT2 (d :: l) ++ ts = andT :: (condT2 d ++ (condsT2 l ++ ts)) := by rw [condsT2]; simp
      rw [e] at h2
      exact h2
    have hcst := (cond_cost u c v h1).2
    have e := rep_head h2'
    rw [andT, ptk_word _ (by decide)] at e
    have hs := step_rk v (by rw [e]; simp)
    obtain ⟨z, h3, h4⟩ := conds_back l d n (nxtD v.2) ts (hl d (by simp)) (fun x hx => hl x (by simp [hx])) (by omega) hp (rep_step h2')
    refine ⟨z, ?_, h4⟩
    rw [condsD, h1]
    simp only
    rw [if_pos (by rw [e]; decide), h3]
    rfl
theorem where_back (l : List Cd) (u : St) (ts : List Tk) (hl : ∀ d ∈ l, condF d = 0) (hp : Past ts) (h : Rep u (condsT1 l ++ ts)) : ∃ v, whereD u = some (l, v) ∧ Rep v ts := by
  cases l with
  | nil =>
    have h' : Rep u ts := h
    exact ⟨u, by unfold whereD; rw [if_neg (by rw [(hp u h').1]; simp)], h'⟩
  | cons c l =>
    have h' : Rep u (whereT :: (condT2 c ++ (condsT2 l ++ ts))) := by
      have e : condsT1 (c :: l) ++ ts = whereT :: (condT2 c ++ (condsT2 l ++ ts)) := by rw [condsT1]; simp
      rw [← e]; exact h
    have e := rep_head h'
    rw [whereT, ptk_word _ (by decide)] at e
    obtain ⟨v, h1, h2⟩ := conds_back l c (rk (nxtD u.2) + 1) (nxtD u.2) ts (hl c (by simp)) (fun x hx => hl x (by simp [hx])) (by omega) hp (rep_step h')
    refine ⟨v, ?_, h2⟩
    unfold whereD
    rw [if_pos (by rw [e]; decide), h1]
theorem rep_nil {u : St} (h : Rep u []) : u = (pt0, ⟨#[]⟩) := h
theorem limit_back (q : Qd) (u : St) (h0 : 0 ≤ q.limit) (h : Rep u (limitT q)) : ∃ v, limitD u = some (q.limit, v) ∧ v.1.kind = 0 := by
  unfold limitT at h
  by_cases hm : 0 < q.limit
  · rw [if_pos hm] at h
    have e1 := rep_head h
    rw [ptk_word _ (by decide)] at e1
    have k1 := rep_step h
    have e2 := rep_head k1
    rw [ptk_num] at e2
    have k2 := rep_nil (rep_step k1)
    refine ⟨nxtD (nxtD u.2).2, ?_, by rw [k2]; rfl⟩
    unfold limitD
    have hlb : limB (nxtD u.2).1 = true := by
      unfold limB
      rw [e2]
      simp only [takeT, if_true]
      simp
      omega
    rw [if_pos (by rw [e1]; decide), if_pos hlb, e2]
  · rw [if_neg hm] at h
    have e := rep_nil h
    refine ⟨u, ?_, by rw [e]; rfl⟩
    unfold limitD
    rw [if_neg (by rw [e]; decide)]
    have : q.limit = 0 := by omega
    rw [this]
theorem limit_past (q : Qd) (u : St) (h : Rep u (limitT q)) : justB 2 ⟨#[119, 104, 101, 114, 101]⟩ u.1 = false ∧ justB 2 ⟨#[97, 110, 100]⟩ u.1 = false ∧ justB 2 ⟨#[111, 114, 100, 101, 114]⟩ u.1 = false ∧ justB 2 ⟨#[102, 97, 108, 108, 105, 110, 103]⟩ u.1 = false := by
  unfold limitT at h
  by_cases hm : 0 < q.limit
  · rw [if_pos hm] at h
    have e1 := rep_head h
    rw [ptk_word _ (by decide)] at e1
    rw [e1]
    decide
  · rw [if_neg hm] at h
    have e := rep_nil h
    rw [e]
    decide
theorem order_back (q : Qd) (u : St) (he : endF q = 0) (h : Rep u (orderT q ++ (fallT q ++ limitT q))) : ∃ v, orderD u = some ((q.order, q.falling), v) ∧ Rep v (limitT q) := by
  unfold endF at he
  split at he
  · rename_i hc
    obtain ⟨ho, hf, hm⟩ := hc
    unfold orderT fallT at h
    by_cases h0 : q.order = ⟨#[]⟩
    · have hfa : q.falling = false := by
        cases hq : q.falling with
        | false => rfl
        | true => exact absurd ⟨hq, h0⟩ hf
      rw [if_pos h0, if_neg (by rw [hfa]; simp)] at h
      have h' : Rep u (limitT q) := h
      refine ⟨u, ?_, h'⟩
      unfold orderD
      rw [if_neg (by rw [(limit_past q u h').2.2.1]; simp), h0, hfa]
    · rw [if_neg h0] at h
      have hn : isNameD q.order = true := ho.resolve_left h0
      have k0 : Rep u (wordT [111, 114, 100, 101, 114] :: (wordT [98, 121] :: (nameT q.order :: ((if q.falling = true then [wordT [102, 97, 108, 108, 105, 110, 103]] else []) ++ limitT q)))) := h
      have e0 := rep_head k0
      rw [ptk_word _ (by decide)] at e0
      have k1 := rep_step k0
      have e1 := rep_head k1
      rw [ptk_word _ (by decide)] at e1
      have k2 := rep_step k1
      have e2 := rep_head k2
      rw [ptk_name _ hn] at e2
      have k3 := rep_step k2
      cases hfa : q.falling with
      | false =>
        rw [hfa, if_neg (by simp)] at k3
        have k3' : Rep (nxtD (nxtD (nxtD u.2).2).2) (limitT q) := k3
        have hp := (limit_past q _ k3').2.2.2
        refine ⟨nxtD (nxtD (nxtD u.2).2).2, ?_, k3'⟩
        have ho : ordD (nxtD u.2).1 (nxtD u.2).2 = ((q.order, false, true), nxtD (nxtD (nxtD u.2).2).2) := by
          unfold ordD
          rw [if_pos (by rw [e1]; decide), if_pos (by rw [e2]), hp, e2]
          rfl
        unfold orderD
        rw [if_pos (by rw [e0]; decide), ho, if_pos rfl]
      | true =>
        rw [hfa, if_pos rfl] at k3
        have k3' : Rep (nxtD (nxtD (nxtD u.2).2).2) (wordT [102, 97, 108, 108, 105, 110, 103] :: limitT q) := k3
        have e3 := rep_head k3'
        rw [ptk_word _ (by decide)] at e3
        have hp : justB 2 ⟨#[102, 97, 108, 108, 105, 110, 103]⟩ (nxtD (nxtD (nxtD u.2).2).2).1 = true := by rw [e3]; decide
        refine ⟨nxtD (nxtD (nxtD (nxtD u.2).2).2).2, ?_, rep_step k3'⟩
        have ho : ordD (nxtD u.2).1 (nxtD u.2).2 = ((q.order, true, true), nxtD (nxtD (nxtD (nxtD u.2).2).2).2) := by
          unfold ordD
          rw [if_pos (by rw [e1]; decide), if_pos (by rw [e2]), hp, e2]
          rfl
        unfold orderD
        rw [if_pos (by rw [e0]; decide), ho, if_pos rfl]
  · cases he
theorem order_past (q : Qd) (he : endF q = 0) : Past (orderT q ++ (fallT q ++ limitT q)) := by
  intro u h
  unfold endF at he
  split at he
  · rename_i hc
    obtain ⟨ho, hf, hm⟩ := hc
    unfold orderT fallT at h
    by_cases h0 : q.order = ⟨#[]⟩
    · have hfa : q.falling = false := by
        cases hq : q.falling with
        | false => rfl
        | true => exact absurd ⟨hq, h0⟩ hf
      rw [if_pos h0, if_neg (by rw [hfa]; simp)] at h
      have hp := limit_past q u h
      exact ⟨hp.1, hp.2.1⟩
    · rw [if_neg h0] at h
      have e0 := rep_head (t := wordT [111, 114, 100, 101, 114]) (ts := wordT [98, 121] :: (nameT q.order :: ((if q.falling = true then [wordT [102, 97, 108, 108, 105, 110, 103]] else []) ++ limitT q))) h
      rw [ptk_word _ (by decide)] at e0
      rw [e0]
      decide
  · cases he
theorem fault_parts {q : Qd} (h : qfaultD q = 0) : isNameD q.table = true ∧ (∀ c ∈ q.cs, condF c = 0) ∧ endF q = 0 := by
  unfold qfaultD at h
  split at h
  · rename_i ht
    split at h
    · rename_i hf
      refine ⟨ht, ?_, h⟩
      have : ∀ (l : List Cd), firstN condF l = 0 → ∀ c ∈ l, condF c = 0 := by
        intro l
        induction l with
        | nil => intro _ c hc; cases hc
        | cons d l ih =>
          intro h c hc
          rw [firstN] at h
          split at h
          · rename_i hd
            rcases List.mem_cons.1 hc with rfl | hc
            · exact hd
            · exact ih h c hc
          · rename_i hd
            exact absurd h hd
      exact this _ hf
    · rename_i hf
      exact absurd h hf
  · cases h
theorem query_back (q : Qd) (hq : qfaultD q = 0) (u : St) (h : Rep u (queryT q)) : queryD u = some q := by
  obtain ⟨h1, h2, h3⟩ := fault_parts hq
  have k0 : Rep u (wordT [102, 114, 111, 109] :: (nameT q.table :: (condsT1 q.cs ++ (orderT q ++ (fallT q ++ limitT q))))) := h
  have e0 := rep_head k0
  rw [ptk_word _ (by decide)] at e0
  have k1 := rep_step k0
  have e1 := rep_head k1
  rw [ptk_name _ h1] at e1
  obtain ⟨v, a1, a2⟩ := where_back q.cs _ _ h2 (order_past q h3) (rep_step k1)
  obtain ⟨z, b1, b2⟩ := order_back q v h3 a2
  have hm : 0 ≤ q.limit := by
    unfold endF at h3
    split at h3
    · rename_i hc; exact hc.2.2
    · cases h3
  obtain ⟨y, c1, c2⟩ := limit_back q z hm b2
  unfold queryD
  rw [if_pos (by rw [e0]; decide), if_pos (by rw [e1]), e1]
  unfold restD
  rw [a1]
  simp only
  rw [b1]
  simp only
  rw [c1]
  simp only
  rw [if_pos c2]
/-- What a machine's query is. -/
structure QNums (q : Qd) : Prop where
  c : ∀ c ∈ q.cs, numsI c.item
  m : q.limit ≤ 9223372036854775807
theorem name_fine {s : ByteArray} (h : isNameD s = true) : ∀ b ∈ s.data.toList, ¬ (b.toNat < 33 ∨ 126 < b.toNat) := by
  intro b hb
  unfold isNameD at h
  simp only [Bool.and_eq_true, List.all_eq_true] at h
  have := h.1 b hb
  simp only [nameB, decide_eq_true_eq] at this
  omega
theorem qfine_of {q : Qd} (hq : qfaultD q = 0) (hn : QNums q) : QFine q := by
  obtain ⟨h1, h2, h3⟩ := fault_parts hq
  refine ⟨name_fine h1, ?_, fun c hc => ⟨name_fine (cond_parts (h2 c hc)).1, hn.c c hc⟩, hn.m⟩
  unfold endF at h3
  split at h3
  · rename_i hc
    rcases hc.1 with h | h
    · rw [h]; intro b hb; simp at hb
    · exact name_fine h
  · cases h3
/-- EVERY QUERY THAT MAY BE IS READ BACK. -/
theorem parse_back (q : Qd) (hq : qfaultD q = 0) (s : ByteArray) (hs : toksD s.data.toList = some (queryT q)) (hl : s.size ≤ 65536) : parD s = some q := by
  have h := query_back q hq (nxtD s) (rep_nxt s _ hs)
  unfold parD
  rw [if_neg (by omega), h]
  simp only
  rw [if_pos hq]
theorem print_back (q : Qd) (hq : printF q = 0) (hn : QNums q) : parD (printT q) = some q := by
  have h0 : qfaultD q = 0 ∧ ¬ 65536 < (textL q).length := by
    unfold printF at hq
    split at hq
    · rename_i h
      split at hq
      · cases hq
      · rename_i h2; exact ⟨h, h2⟩
    · rename_i h; exact absurd hq h
  have e : printT q = ⟨(textL q).toArray⟩ := by unfold printT; rw [if_pos hq]
  rw [e]
  refine parse_back q h0.1 _ ?_ (by rw [ba_size]; omega)
  rw [ba_list']
  exact toks_query q (qfine_of h0.1 hn)
end Go.Proofs.YtageokjobbjddaaGreatDoor

namespace Go.Proofs.YtageokjobbjddaaGreatDoor
open Go.RowKit

/-! The laws' own small functions. -/
theorem tmod_low (k n : Int) (h : 1 ≤ n) (hk : k.tmod n < 0) : 0 ≤ k.tmod n + n ∧ k.tmod n + n < n := by
  have h1 : k.tmod n = - ((-k).tmod n) := by rw [Int.neg_tmod]; omega
  have hk0 : k < 0 := by
    by_cases h' : k < 0
    · exact h'
    · have := Int.tmod_nonneg n (show 0 ≤ k by omega); omega
  have h2 := Int.tmod_lt_of_pos (-k) (show 0 < n by omega)
  have h3 := Int.tmod_nonneg n (show 0 ≤ -k by omega)
  omega
set_option maxHeartbeats 2000000 in
theorem kpick_any (k n : Int) (w : World) (h1 : 1 ≤ n) (h2 : n ≤ 1000) :
    Calls Tryz.prog 13 #[.int .i64 k, .int .i64 n] w fun e w' => ∃ r : Int, e = .returned (.int .i64 r) ∧ 0 ≤ r ∧ r < n ∧ w = w' := by
  have g1 : ¬ n < 1 := by omega
  have g0 : n ≠ 0 := by omega
  have hb := Int.tmod_lt_of_pos k (show 0 < n by omega)
  have hb2 : -n < k.tmod n := by
    have h3 := Int.tmod_lt_of_pos (-k) (show 0 < n by omega)
    rw [Int.neg_tmod] at h3
    omega
  by_cases hr : k.tmod n < 0
  · have hl := tmod_low k n h1 hr
    have hw : IntKind.i64.wrap (k.tmod n) = k.tmod n := by simp [IntKind.wrap, IntKind.bits, IntKind.signed]; omega
    have hw2 : IntKind.i64.wrap (k.tmod n + n) = k.tmod n + n := by simp [IntKind.wrap, IntKind.bits, IntKind.signed]; omega
    go_enter Tryz.func13, Tryz.ntmps13
    go_wp2_with fail
    go_ret
    exact ⟨_, rfl, hl.1, hl.2, rfl⟩
  · have hw : IntKind.i64.wrap (k.tmod n) = k.tmod n := by simp [IntKind.wrap, IntKind.bits, IntKind.signed]; omega
    go_enter Tryz.func13, Tryz.ntmps13
    go_wp2_with fail
    go_ret
    exact ⟨_, rfl, by omega, by omega, rfl⟩
set_option maxHeartbeats 2000000 in
theorem khead_any (s : ByteArray) (w : World) (hs : s.size ≤ 140737488355328) :
    Calls Tryz.prog 21 #[.string s, .int .i64 40] w fun e w' => ∃ t : ByteArray, e = .returned (.string t) ∧ t.size ≤ 40 ∧ w = w' := by
  by_cases hl : s.size ≤ 40
  · have hlI : (s.size : Int) ≤ 40 := by omega
    go_enter Tryz.func21, Tryz.ntmps21
    go_wp2_with fail
    go_ret
    exact ⟨s, rfl, hl, rfl⟩
  · have hlI : ¬ (s.size : Int) ≤ 40 := by omega
    have hl3 : (40 : Int) ≤ (s.size : Int) := by omega
    go_enter Tryz.func21, Tryz.ntmps21
    go_wp2_with fail
    go_ret
    exact ⟨s.extract 0 40, rfl, by rw [ByteArray.size_extract]; omega, rfl⟩
theorem all_snoc {l : List UInt8} {c : UInt8} (h : l.all nameB = true) (hc : nameB c = true) : (l ++ [c]).all nameB = true := by simp [h, hc]
set_option maxHeartbeats 8000000 in
set_option maxRecDepth 100000 in
theorem nameof_any (s : ByteArray) (w : World) (hs : s.size ≤ 140737488355328) :
    Calls Tryz.prog 12 #[.string s] w fun e w' => ∃ n : ByteArray, e = .returned (.string n) ∧ isNameD n = true ∧ Below w.heap.size w w' := by
  go_enter Tryz.func12, Tryz.ntmps12
  go_wp2_with fail
  go_loopw [3, 4] (fun ov iv wr => ∃ (I : Nat) (o : List UInt8) (a : Option Addr) (c : Nat), ov = .slice a o.length c ∧ iv = .int .i64 (I : Int) ∧ I ≤ s.size ∧ o.length ≤ 32 ∧ Hid (o.all nameB = true) ∧ Hid (Byt wr w.heap.size (.slice a o.length c) o) ∧ Hid (Gr w.heap.size w wr)) (fun _ iv _ => s.size - (intOf iv).toNat)
  case atStart => exact ⟨0, [], none, 0, rfl, rfl, Nat.zero_le _, by simp, rfl, Byt.nil _ _, Gr.of (Below.refl _ _) (Nat.le_refl _)⟩
  case round =>
    obtain ⟨I, o, a, c, rfl, rfl, hI, ho, hall, hby, hgr⟩ := hrel
    have hbs : w.heap.size ≤ wr.heap.size := hgr.out.size
    have HEND : Hid (∃ n : ByteArray, Ending.returned (.string (if o.length = 0 then ⟨#[102, 114, 111, 109]⟩ else ⟨o.toArray⟩)) = .returned (.string n) ∧ isNameD n = true ∧ Below w.heap.size w wr) := by
      refine ⟨_, rfl, ?_, hgr.out.bel⟩
      by_cases h0 : o.length = 0
      · rw [if_pos h0]; decide
      · rw [if_neg h0]
        unfold isNameD
        rw [ba_list', hall.out, ba_size]
        simp
        omega
    have hcv := conv_back hby.out
    by_cases hlt : I < s.size
    · have j1 : (I : Int) < (s.size : Int) := by omega
      have j0 : (0 : Int) ≤ (I : Int) := by omega
      by_cases h32 : o.length < 32
      · have k1 : (o.length : Int) < 32 := by omega
        by_cases hn : nameB s[I] = true
        · have hn2 : 33 ≤ s[I].toNat ∧ s[I].toNat ≤ 126 := by simpa [nameB] using hn
          have n1 : (33 : Int) ≤ (s[I].toNat : Int) := by omega
          have n2 : (s[I].toNat : Int) ≤ 126 := by omega
          obtain ⟨a3, c3, w3, hr3, hb3, hg3⟩ := byt_push hby.out [s[I]] #[.int .u8 (s[I].toNat : Int)] 1 rfl rfl (by decide) (by omega) hbs wr.heap.size rfl
          have HR3 := hide hr3
          have HALL : Hid ((o ++ [s[I]]).all nameB = true) := all_snoc hall.out hn
          have HB3 := hide hb3
          have HG3 := hide (hgr.out.trans hg3)
          have hle : (o ++ [s[I]]).length = o.length + 1 := by simp
          clear hr3 hb3 hg3 hcv HEND hn hn2 hall hby hgr
          go_wp2_with (first
            | (at_builtin; refine wpList_append_run2 48 48 rfl _ _ rfl rfl _ _ rfl rfl _ _ HR3.out ?_)
            | fail)
          go_roundw
          case rel => exact ⟨I + 1, o ++ [s[I]], a3, c3, by rw [hle], by go_num, by omega, by rw [hle]; omega, HALL, HB3, HG3⟩
          case measure => simp [intOf]; omega
        · have hn2 : s[I].toNat < 33 ∨ 126 < s[I].toNat := by
            simp only [nameB, decide_eq_true_eq] at hn
            omega
          clear hcv HEND hn
          rcases hn2 with h33 | h126
          · have n1 : ¬ (33 : Int) ≤ (s[I].toNat : Int) := by omega
            go_wp2_with fail
            go_roundw
            case rel => exact ⟨I + 1, o, a, c, rfl, by go_num, by omega, ho, hall, hby, hgr⟩
            case measure => simp [intOf]; omega
          · have n1 : (33 : Int) ≤ (s[I].toNat : Int) := by omega
            have n2 : ¬ (s[I].toNat : Int) ≤ 126 := by omega
            go_wp2_with fail
            go_roundw
            case rel => exact ⟨I + 1, o, a, c, rfl, by go_num, by omega, ho, hall, hby, hgr⟩
            case measure => simp [intOf]; omega
      · have k1 : ¬ (o.length : Int) < 32 := by omega
        have k2 : ((o.length : Int) == 0) = false := by simp only [beq_eq_false_iff_ne]; omega
        have k3 : ¬ o.length = 0 := by omega
        rw [if_neg k3] at HEND
        clear hall hby hgr
        go_wp2_with fail
        go_ret
        exact HEND.out
    · have j1 : ¬ (I : Int) < (s.size : Int) := by omega
      by_cases h0 : o.length = 0
      · have k2 : ((o.length : Int) == 0) = true := by simp [h0]
        rw [if_pos h0] at HEND
        clear hall hby hgr hcv
        go_wp2_with fail
        go_ret
        exact HEND.out
      · have k2 : ((o.length : Int) == 0) = false := by simpa using h0
        rw [if_neg h0] at HEND
        clear hall hby hgr
        go_wp2_with fail
        go_ret
        exact HEND.out
end Go.Proofs.YtageokjobbjddaaGreatDoor
