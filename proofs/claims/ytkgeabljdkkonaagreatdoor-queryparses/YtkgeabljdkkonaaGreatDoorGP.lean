import Derived.Test.YtkgeabljdkkonaaGreatDoorQLs
import Derived.Test.YtkgeabljdkkonaaGreatDoorGE
import Derived.Test.YtkgeabljdkkonaaGreatDoorGN
namespace Go.Proofs.YtkgeabljdkkonaaGreatDoor
open Go.RowKit

/-! What the document's reader reads of a condition, against the program's (data). -/
structure CdRel (l : List Tk) (k : Nat) (lost : Bool) (u : St) (c : Cd) (k' : Nat) (lost' : Bool) : Prop where
  le : k ≤ k'
  keep : lost = true → lost' = true
  ok : lost' = false → k < k' ∧ (∃ v, condD u = some (c, v) ∧ Rep v (l.drop k')) ∧ condF c = 0
  no : lost = false → lost' = true → ∀ c' v, condD u = some (c', v) → condF c' ≠ 0
  cnt : c.field.size + c.item.cnt + tws l k ≤ tws l k' + 1
  cnt' : lost' = false → c.field.size + c.item.cnt + tws l k ≤ tws l k'
theorem sgn_signI {x : ByteArray} (h : 1 ≤ signI x) : sgnN x = (signI x : Int) ∧ signI x ≤ 5 ∧ ¬ (x = ⟨#[91]⟩ ∨ x = ⟨#[93]⟩ ∨ x = ⟨#[44]⟩) := by
  unfold signI at h
  split at h
  · rename_i e; subst e; exact ⟨by decide, by decide, by decide⟩
  split at h
  · rename_i e; subst e; exact ⟨by decide, by decide, by decide⟩
  split at h
  · rename_i e; subst e; exact ⟨by decide, by decide, by decide⟩
  split at h
  · rename_i e; subst e; exact ⟨by decide, by decide, by decide⟩
  split at h
  · rename_i e; subst e; exact ⟨by decide, by decide, by decide⟩
  · omega
/-- Which sign a token is. -/
def sgT (t : Tk) : Nat := if t.kind = 5 then signI t.text else 0
/-- A sign: the program's token is one just if the document's is. -/
theorem rep_sign {u : St} {l : List Tk} {k : Nat} (hl : ∀ t ∈ l, TkFine t) (h : Rep u (l.drop k)) : (sgT (nxt l k) ≠ 0 → u.1.kind = 6 ∧ u.1.num = (sgT (nxt l k) : Int) ∧ k < l.length ∧ Rep (nxtD u.2) (l.drop (k + 1))) ∧ (sgT (nxt l k) = 0 → u.1.kind ≠ 6) := by
  rcases Nat.lt_or_ge k l.length with hk | hk
  · obtain ⟨e, hr⟩ := rep_at hk h
    have hf := hl _ (List.getElem_mem hk)
    rw [nxt_at hk, e]
    generalize l[k] = t at hf
    obtain ⟨tk, tn, tt⟩ := t
    unfold sgT
    rcases hf.kind with e1 | e1 | e1 | e1 | e1 <;> simp only at e1 <;> subst e1
    · unfold ptk
      simp only [if_true, show ¬ ((1 : Int) = 5) by decide, if_false]
      refine ⟨fun h => absurd rfl h, fun _ => ?_⟩
      split
      · simp
      · rcases named_kind tt with h | h <;> rw [h] <;> decide
    · unfold ptk
      simp only [if_true, show ¬ ((2 : Int) = 1) by decide, show ¬ ((2 : Int) = 5) by decide, if_false]
      refine ⟨fun h => absurd rfl h, fun _ => ?_⟩
      rcases named_kind tt with h | h <;> rw [h] <;> decide
    · refine ⟨fun h => absurd rfl h, fun _ => ?_⟩
      show (4 : Int) ≠ 6; decide
    · refine ⟨fun h => absurd rfl h, fun _ => ?_⟩
      show (5 : Int) ≠ 6; decide
    · unfold ptk
      simp only [show ¬ ((5 : Int) = 1) by decide, show ¬ ((5 : Int) = 2) by decide, show ¬ ((5 : Int) = 3) by decide, show ¬ ((5 : Int) = 4) by decide, if_false, if_true]
      refine ⟨fun h => ?_, fun h => ?_⟩
      · have hs := sgn_signI (x := tt) (by omega)
        rw [if_neg hs.2.2]
        exact ⟨rfl, hs.1, hk, hr⟩
      · rcases hf.sg rfl with h2 | h2
        · rw [if_pos h2]; simp
        · simp only at h2; omega
  · rw [nxt_end hk, rep_end hk h]
    exact ⟨fun h => absurd rfl h, fun _ => by decide⟩
theorem nxt_tws (l : List Tk) (k : Nat) : (nxt l k).text.size + tws l k ≤ tws l (goN l k) := by
  rcases Nat.lt_or_ge k l.length with hk | hk
  · rw [nxt_at hk, goN_at hk, tws_succ hk]; omega
  · rw [nxt_end hk]
    have := tws_mono l (goN_le l k)
    show 0 + _ ≤ _
    omega
theorem cond_rel {l : List Tk} {k k1 k2 k3 : Nat} {lost lost1 lost2 lost3 : Bool} {u : St} {x : It} (hl : ∀ t ∈ l, TkFine t) (hR : lost = false → Rep u (l.drop k)) (h1 : lost1 = (lost || !nameOkT (nxt l k))) (hk1 : k1 = goN l k) (hk2 : k2 = goN l k1)
    (h2 : lost2 = (lost1 || decide (sgT (nxt l k1) = 0))) (hi : ItRel l k2 lost2 (nxtD (nxtD u.2).2) 4 x k3 lost3) :
    CdRel l k lost u ⟨(nxt l k).text, (sgT (nxt l k1) : Int), x⟩ k3 (lost3 || decide (packF [x] ≠ 0)) := by
  have g1 := goN_le l k
  have g2 := goN_le l k1
  have t1 := nxt_tws l k
  have t2 := tws_mono l g2
  rw [← hk1] at t1 g1
  rw [← hk2] at t2 g2
  have hle := hi.le
  have hc := hi.cnt
  refine ⟨by omega, fun e => ?_, fun e => ?_, fun e1 e2 c' v hcd hcf => ?_, by simp only; omega, fun e => ?_⟩
  · have : lost2 = true := by rw [h2, h1, e]; simp
    rw [hi.keep this]; rfl
  · obtain ⟨e3, ep⟩ : lost3 = false ∧ packF [x] = 0 := by simpa using e
    have e2 : lost2 = false := by
      cases hh : lost2 with
      | false => rfl
      | true => have := hi.keep hh; rw [e3] at this; cases this
    rw [h2] at e2
    obtain ⟨e1, es⟩ : lost1 = false ∧ ¬ sgT (nxt l k1) = 0 := by simpa using e2
    rw [h1] at e1
    obtain ⟨e0, en⟩ : lost = false ∧ nameOkT (nxt l k) = true := by simpa using e1
    have hr := hR e0
    obtain ⟨eu, hnm, hkl, hr1⟩ := (rep_name hl hr).1 en
    rw [show k + 1 = k1 by rw [hk1, goN_at hkl]] at hr1
    obtain ⟨ek, enm, hkl1, hr2⟩ := (rep_sign hl hr1).1 es
    obtain ⟨hlt, v, hv, hrv⟩ := hi.ok e3
    have h5 : sgT (nxt l k1) ≤ 5 := by
      unfold sgT at es ⊢
      split
      · rename_i h; rw [if_pos h] at es; exact (sgn_signI (by omega)).2.1
      · omega
    refine ⟨by omega, ⟨v, ?_, hrv⟩, ?_⟩
    · unfold condD
      rw [eu]
      simp only [if_true]
      rw [if_pos ek, hv, enm]
      rfl
    · unfold condF
      rw [if_pos ⟨hnm, by simp only; omega, by simp only; omega⟩]
      exact ep
  · have hr := hR e1
    by_cases en : nameOkT (nxt l k) = true
    · obtain ⟨eu, hnm, hkl, hr1⟩ := (rep_name hl hr).1 en
      rw [show k + 1 = k1 by rw [hk1, goN_at hkl]] at hr1
      by_cases es : sgT (nxt l k1) = 0
      · have := (rep_sign hl hr1).2 es
        unfold condD at hcd
        rw [eu] at hcd
        simp only [if_true] at hcd
        rw [if_neg this] at hcd
        cases hcd
      · obtain ⟨ek, enm, hkl1, hr2⟩ := (rep_sign hl hr1).1 es
        have el2 : lost2 = false := by rw [h2, h1, e1, en]; simp [es]
        unfold condD at hcd
        rw [eu] at hcd
        simp only [if_true] at hcd
        rw [if_pos ek] at hcd
        cases e3 : lost3 with
        | true => rw [hi.no el2 e3] at hcd; cases hcd
        | false =>
          obtain ⟨_, v', hv, _⟩ := hi.ok e3
          rw [hv] at hcd
          cases hcd
          rw [e3] at e2
          have hp : packF [x] ≠ 0 := by simpa using e2
          unfold condF at hcf
          split at hcf
          · exact hp hcf
          · cases hcf
    · have := (rep_name hl hr).2 (by simpa using en)
      unfold condD at hcd
      rw [if_neg this] at hcd
      cases hcd
  · obtain ⟨e3, _⟩ : lost3 = false ∧ packF [x] = 0 := by simpa using e
    have := hi.cnt' e3
    simp only; omega
end Go.Proofs.YtkgeabljdkkonaaGreatDoor

namespace Go.Proofs.YtkgeabljdkkonaaGreatDoor
open Go.RowKit

theorem cond_parts {c : Cd} (h : condF c = 0) : isNameD c.field = true ∧ 1 ≤ c.sign ∧ c.sign ≤ 5 ∧ FitR 4 c.item := by
  unfold condF at h
  split at h
  · rename_i hc
    refine ⟨hc.1, hc.2.1, hc.2.2, ?_⟩
    unfold packF at h
    split at h
    · rename_i hf
      exact fitR_of 4 [c.item] hf c.item (by simp)
    · rename_i hf
      exact absurd h hf
  · cases h
theorem cond_back (c : Cd) (u : St) (ts : List Tk) (hc : condF c = 0) (h : Rep u (condT2 c ++ ts)) : ∃ v, condD u = some (c, v) ∧ Rep v ts := by
  obtain ⟨h1, h2, h3, h4⟩ := cond_parts hc
  have h' : Rep u (nameT c.field :: (⟨5, 0, ⟨(signL c.sign).toArray⟩⟩ :: (itemT c.item ++ ts))) := h
  have e1 := rep_head h'
  rw [ptk_name _ h1] at e1
  have k1 := rep_step h'
  have e2 := rep_head k1
  rw [ptk_sign _ h2 h3] at e2
  obtain ⟨v, i1, i2⟩ := item_back 4 c.item _ ts h4 (rep_step k1)
  refine ⟨v, ?_, i2⟩
  unfold condD
  rw [e1, e2, i1]
  rfl
/-- The token ahead is neither where nor and. -/
def Past (ts : List Tk) : Prop := ∀ u, Rep u ts → justB 2 ⟨#[119, 104, 101, 114, 101]⟩ u.1 = false ∧ justB 2 ⟨#[97, 110, 100]⟩ u.1 = false
theorem conds_back : ∀ (l : List Cd) (c : Cd) (n : Nat) (u : St) (ts : List Tk), condF c = 0 → (∀ d ∈ l, condF d = 0) → rk u < n → Past ts → Rep u (condT2 c ++ (condsT2 l ++ ts)) → ∃ v, condsD n u = some (c :: l, v) ∧ Rep v ts
  | _, _, 0, u, ts, _, _, hn, _, _ => by omega
  | [], c, n + 1, u, ts, hc, _, hn, hp, h => by
    obtain ⟨v, h1, h2⟩ := cond_back c u _ hc h
    have h2' : Rep v ts := h2
    refine ⟨v, ?_, h2'⟩
    rw [condsD, h1]
    simp only
    rw [if_neg (by rw [(hp v h2').2]; simp)]
  | d :: l, c, n + 1, u, ts, hc, hl, hn, hp, h => by
    obtain ⟨v, h1, h2⟩ := cond_back c u _ hc h
    have h2' : Rep v (andT :: (condT2 d ++ (condsT2 l ++ ts))) := by
      have e : condsT2 (d :: l) ++ ts = andT :: (condT2 d ++ (condsT2 l ++ ts)) := by rw [condsT2]; simp
      rw [e] at h2
      exact h2
    have hcst := (cond_cost u c v h1).2
    have e := rep_head h2'
    rw [andT, ptk_word _ (by decide)] at e
    have hs := step_rk v (by rw [e]; simp)
    obtain ⟨z, h3, h4⟩ := conds_back l d n (nxtD v.2) ts (hl d (by simp)) (fun x hx => hl x (by simp [hx])) (by omega) hp (rep_step h2')
    refine ⟨z, ?_, h4⟩
    rw [condsD, h1]
    simp only
    rw [if_pos (by rw [e]; decide), h3]
    rfl
theorem where_back (l : List Cd) (u : St) (ts : List Tk) (hl : ∀ d ∈ l, condF d = 0) (hp : Past ts) (h : Rep u (condsT1 l ++ ts)) : ∃ v, whereD u = some (l, v) ∧ Rep v ts := by
  cases l with
  | nil =>
    have h' : Rep u ts := h
    exact ⟨u, by unfold whereD; rw [if_neg (by rw [(hp u h').1]; simp)], h'⟩
  | cons c l =>
    have h' : Rep u (whereT :: (condT2 c ++ (condsT2 l ++ ts))) := by
      have e : condsT1 (c :: l) ++ ts = whereT :: (condT2 c ++ (condsT2 l ++ ts)) := by rw [condsT1]; simp
      rw [← e]; exact h
    have e := rep_head h'
    rw [whereT, ptk_word _ (by decide)] at e
    obtain ⟨v, h1, h2⟩ := conds_back l c (rk (nxtD u.2) + 1) (nxtD u.2) ts (hl c (by simp)) (fun x hx => hl x (by simp [hx])) (by omega) hp (rep_step h')
    refine ⟨v, ?_, h2⟩
    unfold whereD
    rw [if_pos (by rw [e]; decide), h1]
theorem rep_nil {u : St} (h : Rep u []) : u = (pt0, ⟨#[]⟩) := h
theorem limit_back (q : Qd) (u : St) (h0 : 0 ≤ q.limit) (h : Rep u (limitT q)) : ∃ v, limitD u = some (q.limit, v) ∧ v.1.kind = 0 := by
  unfold limitT at h
  by_cases hm : 0 < q.limit
  · rw [if_pos hm] at h
    have e1 := rep_head h
    rw [ptk_word _ (by decide)] at e1
    have k1 := rep_step h
    have e2 := rep_head k1
    rw [ptk_num] at e2
    have k2 := rep_nil (rep_step k1)
    refine ⟨nxtD (nxtD u.2).2, ?_, by rw [k2]; rfl⟩
    unfold limitD
    have hlb : limB (nxtD u.2).1 = true := by
      unfold limB
      rw [e2]
      simp only [takeT, if_true]
      simp
      omega
    rw [if_pos (by rw [e1]; decide), if_pos hlb, e2]
  · rw [if_neg hm] at h
    have e := rep_nil h
    refine ⟨u, ?_, by rw [e]; rfl⟩
    unfold limitD
    rw [if_neg (by rw [e]; decide)]
    have : q.limit = 0 := by omega
    rw [this]
theorem limit_past (q : Qd) (u : St) (h : Rep u (limitT q)) : justB 2 ⟨#[119, 104, 101, 114, 101]⟩ u.1 = false ∧ justB 2 ⟨#[97, 110, 100]⟩ u.1 = false ∧ justB 2 ⟨#[111, 114, 100, 101, 114]⟩ u.1 = false ∧ justB 2 ⟨#[102, 97, 108, 108, 105, 110, 103]⟩ u.1 = false := by
  unfold limitT at h
  by_cases hm : 0 < q.limit
  · rw [if_pos hm] at h
    have e1 := rep_head h
    rw [ptk_word _ (by decide)] at e1
    rw [e1]
    decide
  · rw [if_neg hm] at h
    have e := rep_nil h
    rw [e]
    decide
theorem order_back (q : Qd) (u : St) (he : endF q = 0) (h : Rep u (orderT q ++ (fallT q ++ limitT q))) : ∃ v, orderD u = some ((q.order, q.falling), v) ∧ Rep v (limitT q) := by
  unfold endF at he
  split at he
  · rename_i hc
    obtain ⟨ho, hf, hm⟩ := hc
    unfold orderT fallT at h
    by_cases h0 : q.order = ⟨#[]⟩
    · have hfa : q.falling = false := by
        cases hq : q.falling with
        | false => rfl
        | true => exact absurd ⟨hq, h0⟩ hf
      rw [if_pos h0, if_neg (by rw [hfa]; simp)] at h
      have h' : Rep u (limitT q) := h
      refine ⟨u, ?_, h'⟩
      unfold orderD
      rw [if_neg (by rw [(limit_past q u h').2.2.1]; simp), h0, hfa]
    · rw [if_neg h0] at h
      have hn : isNameD q.order = true := ho.resolve_left h0
      have k0 : Rep u (wordT [111, 114, 100, 101, 114] :: (wordT [98, 121] :: (nameT q.order :: ((if q.falling = true then [wordT [102, 97, 108, 108, 105, 110, 103]] else []) ++ limitT q)))) := h
      have e0 := rep_head k0
      rw [ptk_word _ (by decide)] at e0
      have k1 := rep_step k0
      have e1 := rep_head k1
      rw [ptk_word _ (by decide)] at e1
      have k2 := rep_step k1
      have e2 := rep_head k2
      rw [ptk_name _ hn] at e2
      have k3 := rep_step k2
      cases hfa : q.falling with
      | false =>
        rw [hfa, if_neg (by simp)] at k3
        have k3' : Rep (nxtD (nxtD (nxtD u.2).2).2) (limitT q) := k3
        have hp := (limit_past q _ k3').2.2.2
        refine ⟨nxtD (nxtD (nxtD u.2).2).2, ?_, k3'⟩
        have ho : ordD (nxtD u.2).1 (nxtD u.2).2 = ((q.order, false, true), nxtD (nxtD (nxtD u.2).2).2) := by
          unfold ordD
          rw [if_pos (by rw [e1]; decide), if_pos (by rw [e2]), hp, e2]
          rfl
        unfold orderD
        rw [if_pos (by rw [e0]; decide), ho, if_pos rfl]
      | true =>
        rw [hfa, if_pos rfl] at k3
        have k3' : Rep (nxtD (nxtD (nxtD u.2).2).2) (wordT [102, 97, 108, 108, 105, 110, 103] :: limitT q) := k3
        have e3 := rep_head k3'
        rw [ptk_word _ (by decide)] at e3
        have hp : justB 2 ⟨#[102, 97, 108, 108, 105, 110, 103]⟩ (nxtD (nxtD (nxtD u.2).2).2).1 = true := by rw [e3]; decide
        refine ⟨nxtD (nxtD (nxtD (nxtD u.2).2).2).2, ?_, rep_step k3'⟩
        have ho : ordD (nxtD u.2).1 (nxtD u.2).2 = ((q.order, true, true), nxtD (nxtD (nxtD (nxtD u.2).2).2).2) := by
          unfold ordD
          rw [if_pos (by rw [e1]; decide), if_pos (by rw [e2]), hp, e2]
          rfl
        unfold orderD
        rw [if_pos (by rw [e0]; decide), ho, if_pos rfl]
  · cases he
theorem order_past (q : Qd) (he : endF q = 0) : Past (orderT q ++ (fallT q ++ limitT q)) := by
  intro u h
  unfold endF at he
  split at he
  · rename_i hc
    obtain ⟨ho, hf, hm⟩ := hc
    unfold orderT fallT at h
    by_cases h0 : q.order = ⟨#[]⟩
    · have hfa : q.falling = false := by
        cases hq : q.falling with
        | false => rfl
        | true => exact absurd ⟨hq, h0⟩ hf
      rw [if_pos h0, if_neg (by rw [hfa]; simp)] at h
      have hp := limit_past q u h
      exact ⟨hp.1, hp.2.1⟩
    · rw [if_neg h0] at h
      have e0 := rep_head (t := wordT [111, 114, 100, 101, 114]) (ts := wordT [98, 121] :: (nameT q.order :: ((if q.falling = true then [wordT [102, 97, 108, 108, 105, 110, 103]] else []) ++ limitT q))) h
      rw [ptk_word _ (by decide)] at e0
      rw [e0]
      decide
  · cases he
theorem fault_parts {q : Qd} (h : qfaultD q = 0) : isNameD q.table = true ∧ (∀ c ∈ q.cs, condF c = 0) ∧ endF q = 0 := by
  unfold qfaultD at h
  split at h
  · rename_i ht
    split at h
    · rename_i hf
      refine ⟨ht, ?_, h⟩
      have : ∀ (l : List Cd), firstN condF l = 0 → ∀ c ∈ l, condF c = 0 := by
        intro l
        induction l with
        | nil => intro _ c hc; cases hc
        | cons d l ih =>
          intro h c hc
          rw [firstN] at h
          split at h
          · rename_i hd
            rcases List.mem_cons.1 hc with rfl | hc
            · exact hd
            · exact ih h c hc
          · rename_i hd
            exact absurd h hd
      exact this _ hf
    · rename_i hf
      exact absurd h hf
  · cases h
theorem query_back (q : Qd) (hq : qfaultD q = 0) (u : St) (h : Rep u (queryT q)) : queryD u = some q := by
  obtain ⟨h1, h2, h3⟩ := fault_parts hq
  have k0 : Rep u (wordT [102, 114, 111, 109] :: (nameT q.table :: (condsT1 q.cs ++ (orderT q ++ (fallT q ++ limitT q))))) := h
  have e0 := rep_head k0
  rw [ptk_word _ (by decide)] at e0
  have k1 := rep_step k0
  have e1 := rep_head k1
  rw [ptk_name _ h1] at e1
  obtain ⟨v, a1, a2⟩ := where_back q.cs _ _ h2 (order_past q h3) (rep_step k1)
  obtain ⟨z, b1, b2⟩ := order_back q v h3 a2
  have hm : 0 ≤ q.limit := by
    unfold endF at h3
    split at h3
    · rename_i hc; exact hc.2.2
    · cases h3
  obtain ⟨y, c1, c2⟩ := limit_back q z hm b2
  unfold queryD
  rw [if_pos (by rw [e0]; decide), if_pos (by rw [e1]), e1]
  unfold restD
  rw [a1]
  simp only
  rw [b1]
  simp only
  rw [c1]
  simp only
  rw [if_pos c2]
/-- What a machine's query is. -/
structure QNums (q : Qd) : Prop where
  c : ∀ c ∈ q.cs, numsI c.item
  m : q.limit ≤ 9223372036854775807
theorem name_fine {s : ByteArray} (h : isNameD s = true) : ∀ b ∈ s.data.toList, ¬ (b.toNat < 33 ∨ 126 < b.toNat) := by
  intro b hb
  unfold isNameD at h
  simp only [Bool.and_eq_true, List.all_eq_true] at h
  have := h.1 b hb
  simp only [nameB, decide_eq_true_eq] at this
  omega
theorem qfine_of {q : Qd} (hq : qfaultD q = 0) (hn : QNums q) : QFine q := by
  obtain ⟨h1, h2, h3⟩ := fault_parts hq
  refine ⟨name_fine h1, ?_, fun c hc => ⟨name_fine (cond_parts (h2 c hc)).1, hn.c c hc⟩, hn.m⟩
  unfold endF at h3
  split at h3
  · rename_i hc
    rcases hc.1 with h | h
    · rw [h]; intro b hb; simp at hb
    · exact name_fine h
  · cases h3
/-- EVERY QUERY THAT MAY BE IS READ BACK. -/
theorem parse_back (q : Qd) (hq : qfaultD q = 0) (s : ByteArray) (hs : toksD s.data.toList = some (queryT q)) (hl : s.size ≤ 65536) : parD s = some q := by
  have h := query_back q hq (nxtD s) (rep_nxt s _ hs)
  unfold parD
  rw [if_neg (by omega), h]
  simp only
  rw [if_pos hq]
theorem print_back (q : Qd) (hq : printF q = 0) (hn : QNums q) : parD (printT q) = some q := by
  have h0 : qfaultD q = 0 ∧ ¬ 65536 < (textL q).length := by
    unfold printF at hq
    split at hq
    · rename_i h
      split at hq
      · cases hq
      · rename_i h2; exact ⟨h, h2⟩
    · rename_i h; exact absurd hq h
  have e : printT q = ⟨(textL q).toArray⟩ := by unfold printT; rw [if_pos hq]
  rw [e]
  refine parse_back q h0.1 _ ?_ (by rw [ba_size]; omega)
  rw [ba_list']
  exact toks_query q (qfine_of h0.1 hn)
end Go.Proofs.YtkgeabljdkkonaaGreatDoor

namespace Go.Proofs.YtkgeabljdkkonaaGreatDoor
open Go.RowKit

/-! What the document's reader reads of a query, against the program's (data). -/
/-- No query that may be comes of it. -/
def Dead (R0 : Option Qd) : Prop := ∀ q, R0 = some q → qfaultD q ≠ 0
theorem dead_none : Dead none := fun q h => by cases h
/-- A stage is over. -/
structure QI (l : List Tk) (R0 : Option Qd) (F : Qd → St → Option Qd) (q : Qd) (k : Nat) (lost : Bool) : Prop where
  ok : lost = false → ∃ u, Rep u (l.drop k) ∧ R0 = F q u ∧ qfaultD q = 0
  no : lost = true → Dead R0
theorem fault_of {q : Qd} (h1 : isNameD q.table = true) (h2 : ∀ c ∈ q.cs, condF c = 0) (h3 : endF q = 0) : qfaultD q = 0 := by
  unfold qfaultD
  rw [if_pos h1, if_pos (firstN_all q.cs h2)]; exact h3
theorem name_ne {s : ByteArray} (h : isNameD s = true) : ¬ s = ⟨#[]⟩ := fun e => by rw [e] at h; exact absurd h (by decide)
theorem F4_cs {q q' : Qd} {u : St} (h : F4 q u = some q') : q'.cs = q.cs := by
  unfold F4 at h
  split at h
  · cases h; rfl
  · cases h
theorem F3_cs {q q' : Qd} {u : St} (h : F3 q u = some q') : q'.cs = q.cs := by
  unfold F3 at h
  split at h
  · split at h
    · have := F4_cs h; exact this
    · cases h
  · exact F4_cs h
theorem F2_cs {q q' : Qd} {u : St} (h : F2 q u = some q') : q'.cs = q.cs := by
  unfold F2 at h
  split at h
  · split at h
    · have := F3_cs h; exact this
    · cases h
  · exact F3_cs h
section
variable {l : List Tk} (hl : ∀ t ∈ l, TkFine t)
include hl
theorem st_name {u : St} (hr : Rep u (l.drop 0)) : QI l (queryD u) F1 ⟨(nxt l (goOn 0 (hereB l 0 1 ⟨#[102, 114, 111, 109]⟩))).text, [], ⟨#[]⟩, false, 0⟩ (goN l (goOn 0 (hereB l 0 1 ⟨#[102, 114, 111, 109]⟩))) ((false || !hereB l 0 1 ⟨#[102, 114, 111, 109]⟩) || !nameOkT (nxt l (goOn 0 (hereB l 0 1 ⟨#[102, 114, 111, 109]⟩)))) := by
  have hw := here_word hl hr ⟨#[102, 114, 111, 109]⟩ (by decide)
  cases hb : hereB l 0 1 ⟨#[102, 114, 111, 109]⟩ with
  | false =>
    rw [hb] at hw
    refine ⟨fun h => by simp at h, fun _ => ?_⟩
    unfold queryD
    rw [if_neg (by rw [← hw]; simp)]
    exact dead_none
  | true =>
    rw [hb] at hw
    have hr1 := rep_go hr hb
    have e1 : queryD u = if (nxtD u.2).1.kind = 3 then restD (nxtD u.2).1.text (nxtD (nxtD u.2).2) else none := by
      rw [queryD, if_pos hw.symm]
    have hg : goOn 0 true = 0 + 1 := rfl
    rw [hg]
    have hn := rep_name hl hr1
    refine ⟨fun h => ?_, fun h => ?_⟩
    · have en : nameOkT (nxt l (0 + 1)) = true := by simpa using h
      obtain ⟨eu, hnm, hkl, hr2⟩ := hn.1 en
      refine ⟨nxtD (nxtD u.2).2, by rw [goN_at hkl]; exact hr2, ?_, fault_of hnm (fun c hc => by cases hc) (by unfold endF; simp)⟩
      rw [e1, eu]
      simp only [if_true]
      rw [F1_is]
    · have en : nameOkT (nxt l (0 + 1)) = false := by simpa using h
      rw [e1, if_neg (hn.2 en)]
      exact dead_none
/-- Where the loop over the conditions stands. -/
structure LI (l : List Tk) (R0 : Option Qd) (q : Qd) (k : Nat) (lost more : Bool) : Prop where
  ok : lost = false → ∃ u, Rep u (l.drop k) ∧ qfaultD q = 0 ∧ (more = false → R0 = F2 q u) ∧ (more = true → ∃ n, rk u < n ∧ R0 = match ccat q.cs (condsD n u) with | none => none | some (cs, v) => F2 ⟨q.table, cs, q.order, q.falling, q.limit⟩ v)
  no : lost = true → Dead R0
omit hl in
theorem LI.out {R0 : Option Qd} {q : Qd} {k : Nat} {lost more : Bool} (h : LI l R0 q k lost more) (hx : lost = false → more = false) : QI l R0 F2 q k lost :=
  ⟨fun e => by obtain ⟨u, h1, h2, h3, _⟩ := h.ok e; exact ⟨u, h1, h3 (hx e), h2⟩, h.no⟩
theorem st_where {R0 : Option Qd} {q : Qd} {k : Nat} {lost : Bool} (hq : q.cs = []) (h : QI l R0 F1 q k lost) : LI l R0 q (goOn k (hereB l k 1 ⟨#[119, 104, 101, 114, 101]⟩)) lost (hereB l k 1 ⟨#[119, 104, 101, 114, 101]⟩) := by
  refine ⟨fun e => ?_, h.no⟩
  obtain ⟨u, hr, hR, hg⟩ := h.ok e
  have hw := here_word hl hr ⟨#[119, 104, 101, 114, 101]⟩ (by decide)
  cases hb : hereB l k 1 ⟨#[119, 104, 101, 114, 101]⟩ with
  | false =>
    rw [hb] at hw
    refine ⟨u, hr, hg, fun _ => ?_, fun h => by cases h⟩
    rw [hR, F1, if_neg (by rw [← hw]; simp)]
  | true =>
    rw [hb] at hw
    refine ⟨nxtD u.2, rep_go hr hb, hg, fun h => (by cases h), fun _ => ⟨rk (nxtD u.2) + 1, by omega, ?_⟩⟩
    rw [hR, F1, if_pos hw.symm, hq]
    cases condsD (rk (nxtD u.2) + 1) (nxtD u.2) <;> simp [ccat]
theorem st_cond {R0 : Option Qd} {q : Qd} {k k2 n : Nat} {lost2 : Bool} {c : Cd} {u : St} (hg : qfaultD q = 0) (hn : rk u < n) (hR : R0 = match ccat q.cs (condsD n u) with | none => none | some (cs, v) => F2 ⟨q.table, cs, q.order, q.falling, q.limit⟩ v) (hcd : CdRel l k false u c k2 lost2) :
    LI l R0 ⟨q.table, q.cs ++ [c], q.order, q.falling, q.limit⟩ (goOn k2 (hereB l k2 1 ⟨#[97, 110, 100]⟩)) lost2 (hereB l k2 1 ⟨#[97, 110, 100]⟩) := by
  obtain ⟨n', rfl⟩ : ∃ n', n = n' + 1 := ⟨n - 1, by omega⟩
  rw [condsD] at hR
  refine ⟨fun e => ?_, fun e => ?_⟩
  · obtain ⟨_, ⟨v, hv, hrv⟩, hcf⟩ := hcd.ok e
    rw [hv] at hR
    simp only at hR
    have hw := here_word hl hrv ⟨#[97, 110, 100]⟩ (by decide)
    have hg2 : qfaultD ⟨q.table, q.cs ++ [c], q.order, q.falling, q.limit⟩ = 0 := by
      obtain ⟨g1, g2, g3⟩ := fault_parts hg
      exact fault_of g1 (fun d hd => by rcases List.mem_append.1 hd with h | h; exact g2 d h; simp at h; rw [h]; exact hcf) g3
    cases hb : hereB l k2 1 ⟨#[97, 110, 100]⟩ with
    | false =>
      rw [hb] at hw
      refine ⟨v, hrv, hg2, fun _ => ?_, fun h => by cases h⟩
      rw [hR, if_neg (by rw [← hw]; simp)]
      rfl
    | true =>
      rw [hb] at hw
      have hk := just_kind hw.symm
      have h1 := (cond_cost u c v hv).2
      have h2 := step_rk v (by omega)
      refine ⟨nxtD v.2, rep_go hrv hb, hg2, fun h => (by cases h), fun _ => ⟨n', by omega, ?_⟩⟩
      rw [hR, if_pos hw.symm, ccat_cons]
  · intro q' hq' hf
    rw [hR] at hq'
    cases hcv : condD u with
    | none => rw [hcv] at hq'; cases hq'
    | some p =>
      obtain ⟨c', v⟩ := p
      have hne := hcd.no rfl e c' v hcv
      rw [hcv] at hq'
      simp only at hq'
      have hmem : c' ∈ q'.cs := by
        by_cases hj : justB 2 ⟨#[97, 110, 100]⟩ v.1 = true
        · rw [if_pos hj] at hq'
          cases hx : condsD n' (nxtD v.2) with
          | none => rw [hx] at hq'; cases hq'
          | some p2 =>
            rw [hx] at hq'
            simp only [ccat, Option.map] at hq'
            have := F2_cs hq'
            rw [this]; simp
        · rw [if_neg hj] at hq'
          simp only [ccat, Option.map] at hq'
          have := F2_cs hq'
          rw [this]; simp
      exact hne ((fault_parts hf).2.1 c' hmem)
theorem st_order0 {R0 : Option Qd} {q : Qd} {k : Nat} {lost : Bool} (h : QI l R0 F2 q k lost) (hb : hereB l k 1 ⟨#[111, 114, 100, 101, 114]⟩ = false) : QI l R0 F3 q k lost := by
  refine ⟨fun e => ?_, h.no⟩
  obtain ⟨u, hr, hR, hg⟩ := h.ok e
  have hw := here_word hl hr ⟨#[111, 114, 100, 101, 114]⟩ (by decide)
  rw [hb] at hw
  refine ⟨u, hr, ?_, hg⟩
  rw [hR, F2, if_neg (by rw [← hw]; simp)]
theorem st_order1 {R0 : Option Qd} {q : Qd} {k k2 k3 k4 : Nat} {lost lost2 lost3 b2 b4 : Bool} (h : QI l R0 F2 q k lost) (hb : hereB l k 1 ⟨#[111, 114, 100, 101, 114]⟩ = true)
    (h2 : b2 = hereB l (k + 1) 1 ⟨#[98, 121]⟩) (hk2 : k2 = goOn (k + 1) b2) (hl2 : lost2 = (lost || !b2)) (hk3 : k3 = goN l k2) (hl3 : lost3 = (lost2 || !nameOkT (nxt l k2))) (h4 : b4 = hereB l k3 1 ⟨#[102, 97, 108, 108, 105, 110, 103]⟩) (hk4 : k4 = goOn k3 b4) :
    QI l R0 F3 ⟨q.table, q.cs, (nxt l k2).text, b4, q.limit⟩ k4 lost3 := by
  cases hlo : lost with
  | true =>
    have : lost3 = true := by rw [hl3, hl2, hlo]; simp
    exact ⟨fun e => (by rw [this] at e; cases e), fun _ => h.no hlo⟩
  | false =>
    obtain ⟨u, hr, hR, hg⟩ := h.ok hlo
    have hw := here_word hl hr ⟨#[111, 114, 100, 101, 114]⟩ (by decide)
    rw [hb] at hw
    rw [F2, if_pos hw.symm] at hR
    have hr1 := rep_go hr hb
    have hw2 := here_word hl hr1 ⟨#[98, 121]⟩ (by decide)
    rw [← h2] at hw2
    cases hb2 : b2 with
    | false =>
      rw [hb2] at hw2
      have hn : R0 = none := by
        rw [hR]
        unfold ordD
        rw [if_neg (by rw [← hw2]; simp)]
      refine ⟨fun e => (by rw [hl3, hl2, hb2] at e; simp at e), fun _ => by rw [hn]; exact dead_none⟩
    | true =>
      rw [hb2] at hw2
      have hr2 : Rep (nxtD (nxtD u.2).2) (l.drop k2) := by
        rw [hk2, hb2]
        exact rep_go hr1 (by rw [← h2]; exact hb2)
      have hn := rep_name hl hr2
      have eo : ordD (nxtD u.2).1 (nxtD u.2).2 = if (nxtD (nxtD u.2).2).1.kind = 3 then
          ((((nxtD (nxtD u.2).2).1).text, justB 2 ⟨#[102, 97, 108, 108, 105, 110, 103]⟩ (nxtD (nxtD (nxtD u.2).2).2).1, true), stepT (justB 2 ⟨#[102, 97, 108, 108, 105, 110, 103]⟩ (nxtD (nxtD (nxtD u.2).2).2).1) (nxtD (nxtD (nxtD u.2).2).2).1 (nxtD (nxtD (nxtD u.2).2).2).2)
        else ((⟨#[]⟩, false, false), nxtD (nxtD u.2).2) := by
        unfold ordD
        rw [if_pos hw2.symm]
      cases en : nameOkT (nxt l k2) with
      | false =>
        have hno : R0 = none := by
          rw [if_neg (hn.2 en)] at eo
          rw [hR, eo]
          rfl
        refine ⟨fun e => (by rw [hl3, en] at e; simp at e), fun _ => by rw [hno]; exact dead_none⟩
      | true =>
        obtain ⟨eu, hnm, hkl, hr3⟩ := hn.1 en
        rw [show k2 + 1 = k3 by rw [hk3, goN_at hkl]] at hr3
        have hw4 := here_word hl hr3 ⟨#[102, 97, 108, 108, 105, 110, 103]⟩ (by decide)
        rw [← h4] at hw4
        rw [if_pos (by rw [eu]), ← hw4] at eo
        rw [eo] at hR
        simp only [if_true] at hR
        have hl30 : lost3 = false := by rw [hl3, hl2, hlo, hb2, en]; rfl
        refine ⟨fun _ => ⟨stepT b4 (nxtD (nxtD (nxtD u.2).2).2).1 (nxtD (nxtD (nxtD u.2).2).2).2, ?_, ?_, ?_⟩, fun e => by rw [hl30] at e; cases e⟩
        · rw [hk4]
          cases hb4 : b4 with
          | false => exact hr3
          | true => exact rep_go hr3 (by rw [← h4]; exact hb4)
        · rw [hR, eu]
        · obtain ⟨g1, g2, g3⟩ := fault_parts hg
          refine fault_of g1 g2 ?_
          unfold endF at g3 ⊢
          split at g3
          · rename_i hh
            rw [if_pos ⟨.inr hnm, fun hf => name_ne hnm hf.2, hh.2.2⟩]
          · cases g3
theorem st_limit0 {R0 : Option Qd} {q : Qd} {k : Nat} {lost : Bool} (h : QI l R0 F3 q k lost) (hb : hereB l k 1 ⟨#[108, 105, 109, 105, 116]⟩ = false) : QI l R0 F4 q k lost := by
  refine ⟨fun e => ?_, h.no⟩
  obtain ⟨u, hr, hR, hg⟩ := h.ok e
  have hw := here_word hl hr ⟨#[108, 105, 109, 105, 116]⟩ (by decide)
  rw [hb] at hw
  refine ⟨u, hr, ?_, hg⟩
  rw [hR, F3, if_neg (by rw [← hw]; simp)]
theorem rep_num {u : St} {k : Nat} (h : Rep u (l.drop k)) : ((nxt l k).kind = 3 → u.1.kind = 4 ∧ u.1.num = (nxt l k).num ∧ k < l.length ∧ Rep (nxtD u.2) (l.drop (k + 1))) ∧ ((nxt l k).kind ≠ 3 → u.1.kind ≠ 4) := by
  rcases Nat.lt_or_ge k l.length with hk | hk
  · obtain ⟨e, hr⟩ := rep_at hk h
    have hf := hl _ (List.getElem_mem hk)
    rw [nxt_at hk, e]
    generalize l[k] = t at hf
    refine ⟨fun h3 => by rw [(ptk_kinds t).1 h3]; exact ⟨rfl, rfl, hk, hr⟩, fun h3 => ?_⟩
    obtain ⟨tk, tn, tt⟩ := t
    rcases hf.kind with e1 | e1 | e1 | e1 | e1 <;> simp only at e1 <;> subst e1
    · unfold ptk
      simp only [if_true]
      split
      · show (2 : Int) ≠ 4; decide
      · rcases named_kind tt with h | h <;> rw [h] <;> decide
    · unfold ptk
      simp only [if_true, show ¬ ((2 : Int) = 1) by decide, if_false]
      rcases named_kind tt with h | h <;> rw [h] <;> decide
    · exact absurd rfl h3
    · show (5 : Int) ≠ 4; decide
    · unfold ptk
      simp only [show ¬ ((5 : Int) = 1) by decide, show ¬ ((5 : Int) = 2) by decide, show ¬ ((5 : Int) = 3) by decide, show ¬ ((5 : Int) = 4) by decide, if_false]
      split <;> simp
  · rw [nxt_end hk, rep_end hk h]
    exact ⟨fun h => (by cases h), fun _ => by decide⟩
theorem st_limit1 {R0 : Option Qd} {q : Qd} {k : Nat} {lost : Bool} (h : QI l R0 F3 q k lost) (hb : hereB l k 1 ⟨#[108, 105, 109, 105, 116]⟩ = true) :
    QI l R0 F4 ⟨q.table, q.cs, q.order, q.falling, (nxt l (k + 1)).num⟩ (goN l (k + 1)) (lost || (decide ((nxt l (k + 1)).kind ≠ 3) || decide ((nxt l (k + 1)).num < 1))) := by
  cases hlo : lost with
  | true => exact ⟨fun e => (by simp at e), fun _ => h.no hlo⟩
  | false =>
    obtain ⟨u, hr, hR, hg⟩ := h.ok hlo
    have hw := here_word hl hr ⟨#[108, 105, 109, 105, 116]⟩ (by decide)
    rw [hb] at hw
    rw [F3, if_pos hw.symm] at hR
    have hr1 := rep_go hr hb
    have hn := rep_num hl hr1
    by_cases h3 : (nxt l (k + 1)).kind = 3
    · obtain ⟨e4, en, hkl, hr2⟩ := hn.1 h3
      have htk : takeT 4 (nxtD u.2).1 = (nxtD u.2).1 := by simp [takeT, e4]
      by_cases h1 : (nxt l (k + 1)).num < 1
      · have hno : R0 = none := by
          rw [hR, if_neg]
          unfold limB
          rw [htk, en]
          simp; omega
        refine ⟨fun e => (by simp [h1] at e), fun _ => by rw [hno]; exact dead_none⟩
      · refine ⟨fun _ => ⟨nxtD (nxtD u.2).2, by rw [goN_at hkl]; exact hr2, ?_, ?_⟩, fun e => by simp [h1, h3] at e⟩
        · rw [hR, if_pos (by unfold limB; rw [htk, en, e4]; simp; omega), en]
        · obtain ⟨g1, g2, g3⟩ := fault_parts hg
          refine fault_of g1 g2 ?_
          unfold endF at g3 ⊢
          split at g3
          · rename_i hh
            rw [if_pos ⟨hh.1, hh.2.1, by simp only; omega⟩]
          · cases g3
    · have hno : R0 = none := by
        rw [hR, if_neg]
        unfold limB
        simp [hn.2 h3]
      refine ⟨fun e => (by simp [h3] at e), fun _ => by rw [hno]; exact dead_none⟩
omit hl in
theorem st_end {R0 : Option Qd} {q : Qd} {k : Nat} {lost : Bool} (h : QI l R0 F4 q k lost) (hk : k ≤ l.length) : ((lost || decide (k ≠ l.length)) = false → R0 = some q ∧ qfaultD q = 0) ∧ ((lost || decide (k ≠ l.length)) = true → Dead R0) := by
  cases hlo : lost with
  | true => exact ⟨fun e => (by simp at e), fun _ => h.no hlo⟩
  | false =>
    obtain ⟨u, hr, hR, hg⟩ := h.ok hlo
    by_cases hkl : k = l.length
    · refine ⟨fun _ => ⟨?_, hg⟩, fun e => by simp [hkl] at e⟩
      rw [hR, rep_end (by omega) hr]
      rfl
    · have hlt : k < l.length := by omega
      refine ⟨fun e => by simp [hkl] at e, fun _ => ?_⟩
      rw [hR, F4, (rep_at hlt hr).1, if_neg (ptk_kind _)]
      exact dead_none
end
end Go.Proofs.YtkgeabljdkkonaaGreatDoor

namespace Go.Proofs.YtkgeabljdkkonaaGreatDoor
open Go.RowKit

/-! The document's tokens are fine (data). -/
theorem ba_sz (l : List UInt8) : (⟨l.toArray⟩ : ByteArray).size = l.length := ba_size l
theorem qnmR_size (r : List UInt8) : (qnmR r).1.size ≤ r.length := by
  unfold qnmR
  cases h : qnm r with
  | none => exact Nat.zero_le _
  | some p =>
    have := pqn_sum r _ (qnm_pqn r p h)
    show (⟨p.1.toArray⟩ : ByteArray).size ≤ _
    rw [ba_sz]
    simp only at this
    omega
theorem qtxR_size (r : List UInt8) : (qtxR r).1.size ≤ r.length := by
  unfold qtxR
  cases h : qtx r with
  | none => exact Nat.zero_le _
  | some p =>
    have hp : ptx r = some (p.1, r.drop p.2) := by unfold ptx; rw [h]; rfl
    have := ptx_sum r.length r _ (Nat.le_refl _) hp
    show (⟨p.1.toArray⟩ : ByteArray).size ≤ _
    rw [ba_sz]
    simp only at this
    omega
theorem numV_in {l : List UInt8} (h : numOk l = true) : -9223372036854775808 ≤ numV l ∧ numV l ≤ 9223372036854775807 := by
  unfold numOk natOk at h
  simp only [Bool.and_eq_true, decide_eq_true_eq] at h
  have h2 := h.2
  unfold numV
  cases hb : lowB l with
  | true => rw [hb] at h2; simp only [if_true] at h2 ⊢; omega
  | false => rw [hb] at h2; simp only [Bool.false_eq_true, if_false] at h2 ⊢; omega
theorem sgn_cons (c : UInt8) (r : List UInt8) : sgnLen (c :: r) = if (c = 60 ∨ c = 62) ∧ r.head? = some 61 then 2 else if c = 61 ∨ c = 60 ∨ c = 62 ∨ c = 91 ∨ c = 93 ∨ c = 44 then 1 else 0 := rfl
theorem sg_fine (c : UInt8) (r : List UInt8) (h : sgnLen (c :: r) ≠ 0) : ((⟨((c :: r).take (sgnLen (c :: r))).toArray⟩ : ByteArray) = ⟨#[91]⟩ ∨ (⟨((c :: r).take (sgnLen (c :: r))).toArray⟩ : ByteArray) = ⟨#[93]⟩ ∨ (⟨((c :: r).take (sgnLen (c :: r))).toArray⟩ : ByteArray) = ⟨#[44]⟩) ∨ 1 ≤ signI ⟨((c :: r).take (sgnLen (c :: r))).toArray⟩ := by
  by_cases h2 : (c = 60 ∨ c = 62) ∧ r.head? = some 61
  · have e : sgnLen (c :: r) = 2 := by rw [sgn_cons, if_pos h2]
    rw [e]
    obtain ⟨hc, hh⟩ := h2
    obtain ⟨r', rfl⟩ : ∃ r', r = 61 :: r' := by
      cases r with
      | nil => simp at hh
      | cons d r => simp at hh; exact ⟨r, by rw [hh]⟩
    right
    rcases hc with rfl | rfl
    · show 1 ≤ signI ⟨#[60, 61]⟩; decide
    · show 1 ≤ signI ⟨#[62, 61]⟩; decide
  · by_cases h3 : c = 61 ∨ c = 60 ∨ c = 62 ∨ c = 91 ∨ c = 93 ∨ c = 44
    · have e : sgnLen (c :: r) = 1 := by rw [sgn_cons, if_neg h2, if_pos h3]
      rw [e]
      rcases h3 with rfl | rfl | rfl | rfl | rfl | rfl
      · right; show 1 ≤ signI ⟨#[61]⟩; decide
      · right; show 1 ≤ signI ⟨#[60]⟩; decide
      · right; show 1 ≤ signI ⟨#[62]⟩; decide
      · left; left; rfl
      · left; right; left; rfl
      · left; right; right; rfl
    · exact absurd (by rw [sgn_cons, if_neg h2, if_neg h3]) h
theorem one_fine (c : UInt8) (r : List UInt8) (hlen : (c :: r).length ≤ 1000000) (h0 : (oneD (c :: r)).2 ≠ 0) : TkFine (oneD (c :: r)).1 := by
  have hr : r.length ≤ 1000000 := by simp only [List.length_cons] at hlen; omega
  have htk : ∀ n, (⟨((c :: r).take n).toArray⟩ : ByteArray).size ≤ 1000000 := fun n => by rw [ba_sz, List.length_take]; omega
  unfold oneD at h0 ⊢
  simp only at h0 ⊢
  split
  · exact ⟨.inl rfl, by show _ ≤ (0 : Int); omega, by show (0 : Int) ≤ _; omega, htk _, fun h => (by simp at h)⟩
  · rename_i g1
    rw [if_neg g1] at h0
    split
    · exact ⟨.inr (.inl rfl), by show _ ≤ (0 : Int); omega, by show (0 : Int) ≤ _; omega, Nat.le_trans (qnmR_size r) hr, fun h => (by simp at h)⟩
    · rename_i g2
      rw [if_neg g2] at h0
      split
      · exact ⟨.inr (.inr (.inr (.inl rfl))), by show _ ≤ (0 : Int); omega, by show (0 : Int) ≤ _; omega, Nat.le_trans (qtxR_size r) hr, fun h => (by simp at h)⟩
      · rename_i g3
        rw [if_neg g3] at h0
        split
        · rename_i g4
          rw [if_pos g4] at h0
          split
          · rename_i g5
            have := numV_in g5
            exact ⟨.inr (.inr (.inl rfl)), this.1, this.2, Nat.zero_le _, fun h => (by simp at h)⟩
          · rename_i g5
            rw [if_neg g5] at h0
            exact absurd rfl h0
        · rename_i g4
          rw [if_neg g4] at h0
          exact ⟨.inr (.inr (.inr (.inr rfl))), by show _ ≤ (0 : Int); omega, by show (0 : Int) ≤ _; omega, htk _, fun _ => sg_fine c r h0⟩
theorem toks_fine : ∀ (n : Nat) (l : List UInt8) (ts : List Tk), l.length ≤ n → l.length ≤ 1000000 → toksD l = some ts → (∀ t ∈ ts, TkFine t) ∧ ts.length ≤ l.length := by
  intro n
  induction n with
  | zero =>
    intro l ts hn _ h
    rw [List.length_eq_zero_iff.1 (Nat.le_zero.1 hn), toksD_nil] at h
    cases h
    exact ⟨fun t ht => (by cases ht), by simp⟩
  | succ n ih =>
    intro l ts hn hm h
    cases l with
    | nil =>
      rw [toksD_nil] at h
      cases h
      exact ⟨fun t ht => (by cases ht), by simp⟩
    | cons c r =>
      rw [toksD] at h
      split at h
      · have := ih r ts (by simp only [List.length_cons] at hn; omega) (by simp only [List.length_cons] at hm; omega) h
        exact ⟨this.1, by simp only [List.length_cons]; omega⟩
      · split at h
        · cases h
        · rename_i h0
          obtain ⟨ts', hts, rfl⟩ := Option.map_eq_some_iff.1 h
          have hd : ((c :: r).drop (oneD (c :: r)).2).length + 1 ≤ (c :: r).length := by rw [List.length_drop]; simp only [List.length_cons]; omega
          have := ih _ ts' (by omega) (by omega) hts
          refine ⟨fun t ht => ?_, by simp only [List.length_cons] at hd ⊢; omega⟩
          rcases List.mem_cons.1 ht with rfl | ht
          · exact one_fine c r hm h0
          · exact this.1 t ht
/-- The document's Parse, as the program's. -/
theorem par_some {s : ByteArray} (hs : s.size ≤ 65536) {q : Qd} (h : queryD (nxtD s) = some q ∧ qfaultD q = 0) : parD s = some q := by
  unfold parD
  rw [if_neg (by omega), h.1]
  simp only
  rw [if_pos h.2]
theorem par_dead {s : ByteArray} (h : Dead (queryD (nxtD s))) : parD s = none := by
  unfold parD
  split
  · rfl
  · cases hq : queryD (nxtD s) with
    | none => rfl
    | some q =>
      simp only
      rw [if_neg (h q hq)]
/-- Without tokens there is no query. -/
theorem query_badq (u : St) (hb : Bad u) : queryD u = none := by
  unfold queryD
  split
  · rename_i hj
    have hb1 := hb.just hj (by decide)
    split
    · rename_i h3
      have hb2 := hb1.step (by omega)
      unfold restD
      cases hw : whereD (nxtD (nxtD u.2).2) with
      | none => rfl
      | some p =>
        obtain ⟨cs, v⟩ := p
        have hb3 := where_bad _ _ _ hw hb2
        simp only
        cases ho : orderD v with
        | none => rfl
        | some p =>
          obtain ⟨⟨o, f⟩, z⟩ := p
          have hb4 := order_bad _ _ _ ho hb3
          simp only
          cases hl : limitD z with
          | none => rfl
          | some p =>
            obtain ⟨m, y⟩ := p
            have hb5 := limit_bad _ _ _ hl hb4
            simp only
            rw [if_neg hb5.end]
    · rfl
  · rfl
theorem par_badq (s : ByteArray) (h : toksD s.data.toList = none) : parD s = none := by
  unfold parD
  split
  · rfl
  · rw [query_badq _ (nxt_bad s h)]
end Go.Proofs.YtkgeabljdkkonaaGreatDoor
