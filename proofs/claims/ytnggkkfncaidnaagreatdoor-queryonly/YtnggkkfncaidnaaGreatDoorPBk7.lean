import Derived.Test.YtnggkkfncaidnaaGreatDoorPBk6
namespace Go.Proofs.YtnggkkfncaidnaaGreatDoor
open Go.RowKit

theorem cond_parts {c : Cd} (h : condF c = 0) : isNameD c.field = true ∧ 1 ≤ c.sign ∧ c.sign ≤ 5 ∧ FitR 4 c.item := by
  unfold condF at h
  split at h
  · rename_i hc
    refine ⟨hc.1, hc.2.1, hc.2.2, ?_⟩
    unfold packF at h
    split at h
    · rename_i hf
      exact fitR_of 4 [c.item] hf c.item (by simp)
    · rename_i hf
      exact absurd h hf
  · cases h
theorem cond_back (c : Cd) (u : St) (ts : List Tk) (hc : condF c = 0) (h : Rep u (condT2 c ++ ts)) : ∃ v, condD u = some (c, v) ∧ Rep v ts := by
  obtain ⟨h1, h2, h3, h4⟩ := cond_parts hc
  have h' : Rep u (nameT c.field :: (⟨5, 0, ⟨(signL c.sign).toArray⟩⟩ :: (itemT c.item ++ ts))) := h
  have e1 := rep_head h'
  rw [ptk_name _ h1] at e1
  have k1 := rep_step h'
  have e2 := rep_head k1
  rw [ptk_sign _ h2 h3] at e2
  obtain ⟨v, i1, i2⟩ := item_back 4 c.item _ ts h4 (rep_step k1)
  refine ⟨v, ?_, i2⟩
  unfold condD
  rw [e1, e2, i1]
  rfl
/-- The token ahead is neither where nor and. -/
def Past (ts : List Tk) : Prop := ∀ u, Rep u ts → justB 2 ⟨#[119, 104, 101, 114, 101]⟩ u.1 = false ∧ justB 2 ⟨#[97, 110, 100]⟩ u.1 = false
theorem conds_back : ∀ (l : List Cd) (c : Cd) (n : Nat) (u : St) (ts : List Tk), condF c = 0 → (∀ d ∈ l, condF d = 0) → rk u < n → Past ts → Rep u (condT2 c ++ (condsT2 l ++ ts)) → ∃ v, condsD n u = some (c :: l, v) ∧ Rep v ts
  | _, _, 0, u, ts, _, _, hn, _, _ => by omega
  | [], c, n + 1, u, ts, hc, _, hn, hp, h => by
    obtain ⟨v, h1, h2⟩ := cond_back c u _ hc h
    have h2' : Rep v ts := h2
    refine ⟨v, ?_, h2'⟩
    rw [condsD, h1]
    simp only
    rw [if_neg (by rw [(hp v h2').2]; simp)]
  | d :: l, c, n + 1, u, ts, hc, hl, hn, hp, h => by
    obtain ⟨v, h1, h2⟩ := cond_back c u _ hc h
    have h2' : Rep v (andT :: (condT2 d ++ (condsT2 l ++ ts))) := by
      have e : condsT2 (d :: l) ++ ts = andT :: (condT2 d ++ (condsT2 l ++ ts)) := by rw [condsT2]; simp
      rw [e] at h2
      exact h2
    have hcst := (cond_cost u c v h1).2
    have e := rep_head h2'
    rw [andT, ptk_word _ (by decide)] at e
    have hs := step_rk v (by rw [e]; simp)
    obtain ⟨z, h3, h4⟩ := conds_back l d n (nxtD v.2) ts (hl d (by simp)) (fun x hx => hl x (by simp [hx])) (by omega) hp (rep_step h2')
    refine ⟨z, ?_, h4⟩
    rw [condsD, h1]
    simp only
    rw [if_pos (by rw [e]; decide), h3]
    rfl
theorem where_back (l : List Cd) (u : St) (ts : List Tk) (hl : ∀ d ∈ l, condF d = 0) (hp : Past ts) (h : Rep u (condsT1 l ++ ts)) : ∃ v, whereD u = some (l, v) ∧ Rep v ts := by
  cases l with
  | nil =>
    have h' : Rep u ts := h
    exact ⟨u, by unfold whereD; rw [if_neg (by rw [(hp u h').1]; simp)], h'⟩
  | cons c l =>
    have h' : Rep u (whereT :: (condT2 c ++ (condsT2 l ++ ts))) := by
      have e : condsT1 (c :: l) ++ ts = whereT :: (condT2 c ++ (condsT2 l ++ ts)) := by rw [condsT1]; simp
      rw [← e]; exact h
    have e := rep_head h'
    rw [whereT, ptk_word _ (by decide)] at e
    obtain ⟨v, h1, h2⟩ := conds_back l c (rk (nxtD u.2) + 1) (nxtD u.2) ts (hl c (by simp)) (fun x hx => hl x (by simp [hx])) (by omega) hp (rep_step h')
    refine ⟨v, ?_, h2⟩
    unfold whereD
    rw [if_pos (by rw [e]; decide), h1]
theorem rep_nil {u : St} (h : Rep u []) : u = (pt0, ⟨#[]⟩) := h
theorem limit_back (q : Qd) (u : St) (h0 : 0 ≤ q.limit) (h : Rep u (limitT q)) : ∃ v, limitD u = some (q.limit, v) ∧ v.1.kind = 0 := by
  unfold limitT at h
  by_cases hm : 0 < q.limit
  · rw [if_pos hm] at h
    have e1 := rep_head h
    rw [ptk_word _ (by decide)] at e1
    have k1 := rep_step h
    have e2 := rep_head k1
    rw [ptk_num] at e2
    have k2 := rep_nil (rep_step k1)
    refine ⟨nxtD (nxtD u.2).2, ?_, by rw [k2]; rfl⟩
    unfold limitD
    have hlb : limB (nxtD u.2).1 = true := by
      unfold limB
      rw [e2]
      simp only [takeT, if_true]
      simp
      omega
    rw [if_pos (by rw [e1]; decide), if_pos hlb, e2]
  · rw [if_neg hm] at h
    have e := rep_nil h
    refine ⟨u, ?_, by rw [e]; rfl⟩
    unfold limitD
    rw [if_neg (by rw [e]; decide)]
    have : q.limit = 0 := by omega
    rw [this]
theorem limit_past (q : Qd) (u : St) (h : Rep u (limitT q)) : justB 2 ⟨#[119, 104, 101, 114, 101]⟩ u.1 = false ∧ justB 2 ⟨#[97, 110, 100]⟩ u.1 = false ∧ justB 2 ⟨#[111, 114, 100, 101, 114]⟩ u.1 = false ∧ justB 2 ⟨#[102, 97, 108, 108, 105, 110, 103]⟩ u.1 = false := by
  unfold limitT at h
  by_cases hm : 0 < q.limit
  · rw [if_pos hm] at h
    have e1 := rep_head h
    rw [ptk_word _ (by decide)] at e1
    rw [e1]
    decide
  · rw [if_neg hm] at h
    have e := rep_nil h
    rw [e]
    decide
theorem order_back (q : Qd) (u : St) (he : endF q = 0) (h : Rep u (orderT q ++ (fallT q ++ limitT q))) : ∃ v, orderD u = some ((q.order, q.falling), v) ∧ Rep v (limitT q) := by
  unfold endF at he
  split at he
  · rename_i hc
    obtain ⟨ho, hf, hm⟩ := hc
    unfold orderT fallT at h
    by_cases h0 : q.order = ⟨#[]⟩
    · have hfa : q.falling = false := by
        cases hq : q.falling with
        | false => rfl
        | true => exact absurd ⟨hq, h0⟩ hf
      rw [if_pos h0, if_neg (by rw [hfa]; simp)] at h
      have h' : Rep u (limitT q) := h
      refine ⟨u, ?_, h'⟩
      unfold orderD
      rw [if_neg (by rw [(limit_past q u h').2.2.1]; simp), h0, hfa]
    · rw [if_neg h0] at h
      have hn : isNameD q.order = true := ho.resolve_left h0
      have k0 : Rep u (wordT [111, 114, 100, 101, 114] :: (wordT [98, 121] :: (nameT q.order :: ((if q.falling = true then [wordT [102, 97, 108, 108, 105, 110, 103]] else []) ++ limitT q)))) := h
      have e0 := rep_head k0
      rw [ptk_word _ (by decide)] at e0
      have k1 := rep_step k0
      have e1 := rep_head k1
      rw [ptk_word _ (by decide)] at e1
      have k2 := rep_step k1
      have e2 := rep_head k2
      rw [ptk_name _ hn] at e2
      have k3 := rep_step k2
      cases hfa : q.falling with
      | false =>
        rw [hfa, if_neg (by simp)] at k3
        have k3' : Rep (nxtD (nxtD (nxtD u.2).2).2) (limitT q) := k3
        have hp := (limit_past q _ k3').2.2.2
        refine ⟨nxtD (nxtD (nxtD u.2).2).2, ?_, k3'⟩
        have ho : ordD (nxtD u.2).1 (nxtD u.2).2 = ((q.order, false, true), nxtD (nxtD (nxtD u.2).2).2) := by
          unfold ordD
          rw [if_pos (by rw [e1]; decide), if_pos (by rw [e2]), hp, e2]
          rfl
        unfold orderD
        rw [if_pos (by rw [e0]; decide), ho, if_pos rfl]
      | true =>
        rw [hfa, if_pos rfl] at k3
        have k3' : Rep (nxtD (nxtD (nxtD u.2).2).2) (wordT [102, 97, 108, 108, 105, 110, 103] :: limitT q) := k3
        have e3 := rep_head k3'
        rw [ptk_word _ (by decide)] at e3
        have hp : justB 2 ⟨#[102, 97, 108, 108, 105, 110, 103]⟩ (nxtD (nxtD (nxtD u.2).2).2).1 = true := by rw [e3]; decide
        refine ⟨nxtD (nxtD (nxtD (nxtD u.2).2).2).2, ?_, rep_step k3'⟩
        have ho : ordD (nxtD u.2).1 (nxtD u.2).2 = ((q.order, true, true), nxtD (nxtD (nxtD (nxtD u.2).2).2).2) := by
          unfold ordD
          rw [if_pos (by rw [e1]; decide), if_pos (by rw [e2]), hp, e2]
          rfl
        unfold orderD
        rw [if_pos (by rw [e0]; decide), ho, if_pos rfl]
  · cases he
theorem order_past (q : Qd) (he : endF q = 0) : Past (orderT q ++ (fallT q ++ limitT q)) := by
  intro u h
  unfold endF at he
  split at he
  · rename_i hc
    obtain ⟨ho, hf, hm⟩ := hc
    unfold orderT fallT at h
    by_cases h0 : q.order = ⟨#[]⟩
    · have hfa : q.falling = false := by
        cases hq : q.falling with
        | false => rfl
        | true => exact absurd ⟨hq, h0⟩ hf
      rw [if_pos h0, if_neg (by rw [hfa]; simp)] at h
      have hp := limit_past q u h
      exact ⟨hp.1, hp.2.1⟩
    · rw [if_neg h0] at h
      have e0 := rep_head (t := wordT [111, 114, 100, 101, 114]) (ts := wordT [98, 121] :: (nameT q.order :: ((if q.falling = true then [wordT [102, 97, 108, 108, 105, 110, 103]] else []) ++ limitT q))) h
      rw [ptk_word _ (by decide)] at e0
      rw [e0]
      decide
  · cases he
theorem fault_parts {q : Qd} (h : qfaultD q = 0) : isNameD q.table = true ∧ (∀ c ∈ q.cs, condF c = 0) ∧ endF q = 0 := by
  unfold qfaultD at h
  split at h
  · rename_i ht
    split at h
    · rename_i hf
      refine ⟨ht, ?_, h⟩
      have : ∀ (l : List Cd), firstN condF l = 0 → ∀ c ∈ l, condF c = 0 := by
        intro l
        induction l with
        | nil => intro _ c hc; cases hc
        | cons d l ih =>
          intro h c hc
          rw [firstN] at h
          split at h
          · rename_i hd
            rcases List.mem_cons.1 hc with rfl | hc
            · exact hd
            · exact ih h c hc
          · rename_i hd
            exact absurd h hd
      exact this _ hf
    · rename_i hf
      exact absurd h hf
  · cases h
theorem query_back (q : Qd) (hq : qfaultD q = 0) (u : St) (h : Rep u (queryT q)) : queryD u = some q := by
  obtain ⟨h1, h2, h3⟩ := fault_parts hq
  have k0 : Rep u (wordT [102, 114, 111, 109] :: (nameT q.table :: (condsT1 q.cs ++ (orderT q ++ (fallT q ++ limitT q))))) := h
  have e0 := rep_head k0
  rw [ptk_word _ (by decide)] at e0
  have k1 := rep_step k0
  have e1 := rep_head k1
  rw [ptk_name _ h1] at e1
  obtain ⟨v, a1, a2⟩ := where_back q.cs _ _ h2 (order_past q h3) (rep_step k1)
  obtain ⟨z, b1, b2⟩ := order_back q v h3 a2
  have hm : 0 ≤ q.limit := by
    unfold endF at h3
    split at h3
    · rename_i hc; exact hc.2.2
    · cases h3
  obtain ⟨y, c1, c2⟩ := limit_back q z hm b2
  unfold queryD
  rw [if_pos (by rw [e0]; decide), if_pos (by rw [e1]), e1]
  unfold restD
  rw [a1]
  simp only
  rw [b1]
  simp only
  rw [c1]
  simp only
  rw [if_pos c2]
/-- What a machine's query is. -/
structure QNums (q : Qd) : Prop where
  c : ∀ c ∈ q.cs, numsI c.item
  m : q.limit ≤ 9223372036854775807
theorem name_fine {s : ByteArray} (h : isNameD s = true) : ∀ b ∈ s.data.toList, ¬ (b.toNat < 33 ∨ 126 < b.toNat) := by
  intro b hb
  unfold isNameD at h
  simp only [Bool.and_eq_true, List.all_eq_true] at h
  have := h.1 b hb
  simp only [nameB, decide_eq_true_eq] at this
  omega
theorem qfine_of {q : Qd} (hq : qfaultD q = 0) (hn : QNums q) : QFine q := by
  obtain ⟨h1, h2, h3⟩ := fault_parts hq
  refine ⟨name_fine h1, ?_, fun c hc => ⟨name_fine (cond_parts (h2 c hc)).1, hn.c c hc⟩, hn.m⟩
  unfold endF at h3
  split at h3
  · rename_i hc
    rcases hc.1 with h | h
    · rw [h]; intro b hb; simp at hb
    · exact name_fine h
  · cases h3
/-- EVERY QUERY THAT MAY BE IS READ BACK. -/
theorem parse_back (q : Qd) (hq : qfaultD q = 0) (s : ByteArray) (hs : toksD s.data.toList = some (queryT q)) (hl : s.size ≤ 65536) : parD s = some q := by
  have h := query_back q hq (nxtD s) (rep_nxt s _ hs)
  unfold parD
  rw [if_neg (by omega), h]
  simp only
  rw [if_pos hq]
theorem print_back (q : Qd) (hq : printF q = 0) (hn : QNums q) : parD (printT q) = some q := by
  have h0 : qfaultD q = 0 ∧ ¬ 65536 < (textL q).length := by
    unfold printF at hq
    split at hq
    · rename_i h
      split at hq
      · cases hq
      · rename_i h2; exact ⟨h, h2⟩
    · rename_i h; exact absurd hq h
  have e : printT q = ⟨(textL q).toArray⟩ := by unfold printT; rw [if_pos hq]
  rw [e]
  refine parse_back q h0.1 _ ?_ (by rw [ba_size]; omega)
  rw [ba_list']
  exact toks_query q (qfine_of h0.1 hn)
end Go.Proofs.YtnggkkfncaidnaaGreatDoor
