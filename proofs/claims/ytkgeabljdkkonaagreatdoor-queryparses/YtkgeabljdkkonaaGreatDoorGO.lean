import Derived.Test.YtkgeabljdkkonaaGreatDoorQRd2
import Derived.Test.YtkgeabljdkkonaaGreatDoorGN
namespace Go.Proofs.YtkgeabljdkkonaaGreatDoor
open Go.RowKit

/-- May this token be a name? -/
def nameOkT (t : Tk) : Bool := ((decide (t.kind = 1) && !resB t.text) || decide (t.kind = 2)) && isNameD t.text
theorem nxt_text {l : List Tk} (h : ∀ t ∈ l, t.text.size ≤ 1000000) (k : Nat) : (nxt l k).text.size ≤ 1000000 := by
  unfold nxt
  cases hk : l[k]? with
  | none => exact Nat.zero_le _
  | some t => exact h t (List.mem_of_getElem? hk)
set_option maxHeartbeats 4000000 in
set_option maxRecDepth 100000 in
theorem rname_any (b : Nat) (a : Option Addr) (c : Nat) (l : List Tk) (k : Nat) (lost : Bool) (w : World) (h : RdS w b a c l k lost) (ht : ∀ t ∈ l, t.text.size ≤ 1000000) :
    Calls Tryz.prog 28 #[.pointer (some ⟨b, 0, none⟩)] w fun e w' => e = .returned (.string (nxt l k).text) ∧ RdS w' b a c l (goN l k) (lost || !nameOkT (nxt l k)) ∧ Solo b w w' := by
  have HNX := hide (next_any b a c l k lost w h)
  have htx := nxt_text ht k
  generalize nxt l k = t at HNX htx ⊢
  obtain ⟨ok, hok⟩ : ∃ ok, ok = nameOkT t := ⟨_, rfl⟩
  rw [← hok]
  obtain ⟨tk, tn, tt⟩ := t
  simp only [tkV] at HNX htx ⊢
  simp only [nameOkT] at hok
  have HOK := hide hok
  clear h ht hok
  go_enter Tryz.func28, Tryz.ntmps28
  go_wp2_with fail
  refine HNX.out.mono ?_
  rintro e w5 ⟨rfl, h5, hs5⟩
  clear HNX
  have q1 := below_new w5 (.cells #[.int .i64 tk, .int .i64 tn, .string tt] 70)
  have x1 := RowAt.new w5 #[.int .i64 tk, .int .i64 tn, .string tt] 70
  obtain ⟨W1, hW1⟩ : ∃ W1, w5.alloc (.cells #[.int .i64 tk, .int .i64 tn, .string tt] 70) = W1 := ⟨_, rfl⟩
  rw [hW1] at q1 x1
  have HW := hide hW1
  have HX := hide x1
  have H1 := hide (h5.below q1)
  have HS1 := hide (hs5.trans (Solo.of_below q1))
  have HRS := hide (res_any tt W1)
  have HNM := hide (fun W => isname_any tt W (by omega))
  have d0 := x1.cell 0 (by simp)
  have d2 := x1.cell 2 (by simp)
  have f2 := H1.out.row.free 2
  have c2 := H1.out.row.cell 2 (by simp)
  simp only [List.getElem_toArray, List.getElem_cons_zero, List.getElem_cons_succ] at d0 d2 c2
  have hnb : w5.heap.size ≠ b := by have := h5.row.lt; omega
  have d2s : (W1.setCell ⟨b, 2, none⟩ (.bool true)).cell? ⟨w5.heap.size, 2, none⟩ = some (.string tt) := (Solo.set b 2 W1 (.bool true)).cell d2 hnb
  rw [← hW1] at d0 d2 c2 f2 d2s
  clear h5 hs5 q1 x1 hW1
  by_cases k1 : tk = 1
  · subst k1
    rw [decide_eq_true rfl, Bool.true_and, show decide ((1 : Int) = 2) = false by decide, Bool.or_false] at HOK
    go_wp2_with fail
    rw [HW.out] at d0 d2 c2 f2 d2s ⊢
    refine HRS.out.mono ?_
    rintro e w6 ⟨rfl, hb6⟩
    clear HRS
    have e0 := cell_below hb6 d0
    have e2 := cell_below hb6 d2
    have e2s : (w6.setCell ⟨b, 2, none⟩ (.bool true)).cell? ⟨w5.heap.size, 2, none⟩ = some (.string tt) := (Solo.set b 2 w6 (.bool true)).cell e2 hnb
    have H6 := hide (H1.out.below hb6)
    have HS6 := hide (HS1.out.trans (Solo.of_below hb6))
    have f6 := H6.out.row.free 2
    have c6 := H6.out.row.cell 2 (by simp)
    simp only [List.getElem_toArray, List.getElem_cons_zero, List.getElem_cons_succ] at c6
    clear d0 d2 c2 f2 hb6 d2s
    cases hrb : resB tt with
    | true =>
      have HE : Hid (ok = false) := by show _ = _; rw [HOK.out, hrb]; rfl
      clear HOK HNM hrb
      go_wp2
      go_ret
      exact ⟨rfl, by rw [HE.out, Bool.not_false, Bool.or_true]; first | exact H6.out.lose | (rw [HW.out]; exact H6.out.lose), by first | exact HS6.out.trans (Solo.set b 2 _ _) | (rw [HW.out]; exact HS6.out.trans (Solo.set b 2 _ _))⟩
    | false =>
      have HOK2 : Hid (ok = isNameD tt) := by show _ = _; rw [HOK.out, hrb]; rfl
      clear HOK hrb
      generalize isNameD tt = nm at HNM HOK2
      go_wp2_with fail
      refine (HNM.out _).mono ?_
      rintro e w7 ⟨rfl, hw7⟩
      subst hw7
      clear HNM
      cases nm with
      | true =>
        have HE : Hid (ok = true) := by show _ = _; rw [HOK2.out]
        clear HOK2
        go_wp2
        go_ret
        exact ⟨rfl, by rw [HE.out, Bool.not_true, Bool.or_false]; first | exact H6.out | (rw [HW.out]; exact H6.out), by first | exact HS6.out | (rw [HW.out]; exact HS6.out)⟩
      | false =>
        have HE : Hid (ok = false) := by show _ = _; rw [HOK2.out]
        clear HOK2
        go_wp2
        go_ret
        exact ⟨rfl, by rw [HE.out, Bool.not_false, Bool.or_true]; first | exact H6.out.lose | (rw [HW.out]; exact H6.out.lose), by first | exact HS6.out.trans (Solo.set b 2 _ _) | (rw [HW.out]; exact HS6.out.trans (Solo.set b 2 _ _))⟩
  · have b1 : (tk == 1) = false := by simp [k1]
    rw [decide_eq_false k1, Bool.false_and, Bool.false_or] at HOK
    clear HRS
    by_cases k2' : tk = 2
    · subst k2'
      rw [decide_eq_true rfl, Bool.true_and] at HOK
      have HOK2 := hide HOK.out
      clear HOK
      generalize isNameD tt = nm at HNM HOK2
      go_wp2_with fail
      refine (HNM.out _).mono ?_
      rintro e w7 ⟨rfl, hw7⟩
      subst hw7
      clear HNM
      cases nm with
      | true =>
        have HE : Hid (ok = true) := by show _ = _; rw [HOK2.out]
        clear HOK2
        go_wp2
        go_ret
        exact ⟨rfl, by rw [HE.out, Bool.not_true, Bool.or_false]; first | exact H1.out | (rw [HW.out]; exact H1.out), by first | exact HS1.out | (rw [HW.out]; exact HS1.out)⟩
      | false =>
        have HE : Hid (ok = false) := by show _ = _; rw [HOK2.out]
        clear HOK2
        go_wp2
        go_ret
        exact ⟨rfl, by rw [HE.out, Bool.not_false, Bool.or_true]; first | exact H1.out.lose | (rw [HW.out]; exact H1.out.lose), by first | exact HS1.out.trans (Solo.set b 2 _ _) | (rw [HW.out]; exact HS1.out.trans (Solo.set b 2 _ _))⟩
    · have b2 : (tk == 2) = false := by simp [k2']
      have b3 : (tk != 2) = true := by rw [bne, b2]; rfl
      have HE : Hid (ok = false) := by show _ = _; rw [HOK.out, decide_eq_false k2']; rfl
      clear HOK HNM
      go_wp2
      go_ret
      exact ⟨rfl, by rw [HE.out, Bool.not_false, Bool.or_true]; first | exact H1.out.lose | (rw [HW.out]; exact H1.out.lose), by first | exact HS1.out.trans (Solo.set b 2 _ _) | (rw [HW.out]; exact HS1.out.trans (Solo.set b 2 _ _))⟩
end Go.Proofs.YtkgeabljdkkonaaGreatDoor

namespace Go.Proofs.YtkgeabljdkkonaaGreatDoor
open Go.RowKit

/-! The document's reader, held against the program's (data). -/
/-- Tokens such as a text has. -/
structure TkFine (t : Tk) : Prop where
  kind : t.kind = 1 ∨ t.kind = 2 ∨ t.kind = 3 ∨ t.kind = 4 ∨ t.kind = 5
  n1 : -9223372036854775808 ≤ t.num
  n2 : t.num ≤ 9223372036854775807
  sz : t.text.size ≤ 1000000
  sg : t.kind = 5 → (t.text = ⟨#[91]⟩ ∨ t.text = ⟨#[93]⟩ ∨ t.text = ⟨#[44]⟩) ∨ 1 ≤ signI t.text
/-- How much the tokens ahead of k weigh. -/
def tws (l : List Tk) (k : Nat) : Nat := ((l.take k).map fun t => t.text.size + 1).sum
theorem tws_succ {l : List Tk} {k : Nat} (h : k < l.length) : tws l (k + 1) = tws l k + (l[k].text.size + 1) := by
  unfold tws
  rw [List.take_succ_eq_append_getElem h, List.map_append, List.sum_append]
  simp
theorem tws_mono (l : List Tk) {j k : Nat} (h : j ≤ k) : tws l j ≤ tws l k := by
  induction k with
  | zero => obtain rfl : j = 0 := by omega
            exact Nat.le_refl _
  | succ k ih =>
    rcases Nat.lt_or_ge j (k + 1) with h1 | h1
    · refine Nat.le_trans (ih (by omega)) ?_
      rcases Nat.lt_or_ge k l.length with h2 | h2
      · rw [tws_succ h2]; omega
      · unfold tws; rw [List.take_of_length_le h2, List.take_of_length_le (by omega)]; exact Nat.le_refl _
    · obtain rfl : j = k + 1 := by omega
      exact Nat.le_refl _
theorem rep_at {u : St} {l : List Tk} {k : Nat} (hk : k < l.length) (h : Rep u (l.drop k)) : u.1 = ptk l[k] ∧ Rep (nxtD u.2) (l.drop (k + 1)) := by
  rw [List.drop_eq_getElem_cons hk] at h
  exact ⟨rep_head h, rep_step h⟩
theorem rep_end {u : St} {l : List Tk} {k : Nat} (hk : l.length ≤ k) (h : Rep u (l.drop k)) : u = (pt0, ⟨#[]⟩) := by
  rw [List.drop_eq_nil_of_le hk] at h
  exact h
theorem named_three (s : ByteArray) (x : ByteArray) (k : Int) (hk : k = 2 ∨ k = 7) : justB k x (namedD s) = false := by
  unfold justB
  rcases named_kind s with h | h <;> rw [h] <;> rcases hk with rfl | rfl <;> simp
theorem here_word {u : St} {l : List Tk} {k : Nat} (hl : ∀ t ∈ l, TkFine t) (h : Rep u (l.drop k)) (x : ByteArray) (hx : resB x = true) : hereB l k 1 x = justB 2 x u.1 := by
  rcases Nat.lt_or_ge k l.length with hk | hk
  · have e := (rep_at hk h).1
    have hf := hl _ (List.getElem_mem hk)
    unfold hereB
    rw [List.getElem?_eq_getElem hk, e]
    generalize l[k] = t at hf
    obtain ⟨tk, tn, tt⟩ := t
    simp only
    rcases hf.kind with e1 | e1 | e1 | e1 | e1 <;> simp only at e1 <;> subst e1
    · unfold ptk
      simp only [if_true]
      by_cases hr : resB tt = true
      · rw [if_pos hr]; simp [justB]
      · rw [if_neg hr, named_three _ _ _ (.inl rfl)]
        have : ¬ tt = x := fun e2 => hr (by rw [e2]; exact hx)
        simp [this]
    · unfold ptk
      simp only [show ¬ ((2 : Int) = 1) by decide, if_false, if_true]
      rw [named_three _ _ _ (.inl rfl)]; simp
    · simp [ptk, justB]
    · simp [ptk, justB]
    · unfold ptk
      simp only [show ¬ ((5 : Int) = 1) by decide, show ¬ ((5 : Int) = 2) by decide, show ¬ ((5 : Int) = 3) by decide, show ¬ ((5 : Int) = 4) by decide, if_false]
      split <;> simp [justB]
  · rw [rep_end hk h]
    unfold hereB
    rw [List.getElem?_eq_none hk]
    simp [justB, pt0]
theorem here_mark {u : St} {l : List Tk} {k : Nat} (hl : ∀ t ∈ l, TkFine t) (h : Rep u (l.drop k)) (x : ByteArray) (hx : x = ⟨#[91]⟩ ∨ x = ⟨#[93]⟩ ∨ x = ⟨#[44]⟩) : hereB l k 5 x = isM x u := by
  unfold isM
  rcases Nat.lt_or_ge k l.length with hk | hk
  · have e := (rep_at hk h).1
    have hf := hl _ (List.getElem_mem hk)
    unfold hereB
    rw [List.getElem?_eq_getElem hk, e]
    generalize l[k] = t at hf
    obtain ⟨tk, tn, tt⟩ := t
    simp only
    rcases hf.kind with e1 | e1 | e1 | e1 | e1 <;> simp only at e1 <;> subst e1
    · unfold ptk
      simp only [if_true]
      split
      · simp [justB]
      · rw [named_three _ _ _ (.inr rfl)]; simp
    · unfold ptk
      simp only [show ¬ ((2 : Int) = 1) by decide, if_false, if_true]
      rw [named_three _ _ _ (.inr rfl)]; simp
    · simp [ptk, justB]
    · simp [ptk, justB]
    · unfold ptk
      simp only [show ¬ ((5 : Int) = 1) by decide, show ¬ ((5 : Int) = 2) by decide, show ¬ ((5 : Int) = 3) by decide, show ¬ ((5 : Int) = 4) by decide, if_false]
      by_cases hb : tt = ⟨#[91]⟩ ∨ tt = ⟨#[93]⟩ ∨ tt = ⟨#[44]⟩
      · rw [if_pos hb]; simp [justB]
      · rw [if_neg hb]
        have : ¬ tt = x := fun e2 => hb (by rw [e2]; exact hx)
        simp [justB, this]
  · rw [rep_end hk h]
    unfold hereB
    rw [List.getElem?_eq_none hk]
    simp [justB, pt0]
theorem here_lt {l : List Tk} {k : Nat} {kd : Int} {x : ByteArray} (h : hereB l k kd x = true) : ∃ hk : k < l.length, l[k].kind = kd ∧ l[k].text = x := by
  unfold hereB at h
  rcases Nat.lt_or_ge k l.length with hk | hk
  · rw [List.getElem?_eq_getElem hk] at h
    simp only [Bool.and_eq_true, decide_eq_true_eq] at h
    exact ⟨hk, h⟩
  · rw [List.getElem?_eq_none hk] at h; cases h
theorem rep_go {u : St} {l : List Tk} {k : Nat} {kd : Int} {x : ByteArray} (h : Rep u (l.drop k)) (hh : hereB l k kd x = true) : Rep (nxtD u.2) (l.drop (k + 1)) := by
  obtain ⟨hk, _⟩ := here_lt hh
  exact (rep_at hk h).2
theorem nxt_at {l : List Tk} {k : Nat} (hk : k < l.length) : nxt l k = l[k] := by
  unfold nxt; rw [List.getElem?_eq_getElem hk]; rfl
theorem nxt_end {l : List Tk} {k : Nat} (hk : l.length ≤ k) : nxt l k = tk0 := by
  unfold nxt; rw [List.getElem?_eq_none hk]; rfl
/-- A name: the program's token is one just if the document's may be. -/
theorem rep_name {u : St} {l : List Tk} {k : Nat} (hl : ∀ t ∈ l, TkFine t) (h : Rep u (l.drop k)) : (nameOkT (nxt l k) = true → u.1 = ⟨3, (nxt l k).text, 0⟩ ∧ isNameD (nxt l k).text = true ∧ k < l.length ∧ Rep (nxtD u.2) (l.drop (k + 1))) ∧ (nameOkT (nxt l k) = false → u.1.kind ≠ 3) := by
  rcases Nat.lt_or_ge k l.length with hk | hk
  · obtain ⟨e, hr⟩ := rep_at hk h
    have hf := hl _ (List.getElem_mem hk)
    rw [nxt_at hk, e]
    generalize l[k] = t at hf
    obtain ⟨tk, tn, tt⟩ := t
    have hn : ∀ s, namedD s = if isNameD s = true then ⟨3, s, 0⟩ else ptBad := fun s => rfl
    rcases hf.kind with e1 | e1 | e1 | e1 | e1 <;> simp only at e1 <;> subst e1
    · unfold ptk nameOkT
      simp only [if_true]
      by_cases hrs : resB tt = true
      · rw [if_pos hrs]; simp [hrs]
      · rw [if_neg hrs, hn]
        by_cases hi : isNameD tt = true
        · rw [if_pos hi]; simp [hrs, hi, hk, hr]
        · rw [if_neg hi]; simp [hi, ptBad]
    · unfold ptk nameOkT
      simp only [show ¬ ((2 : Int) = 1) by decide, if_false, if_true]
      rw [hn]
      by_cases hi : isNameD tt = true
      · rw [if_pos hi]; simp [hi, hk, hr]
      · rw [if_neg hi]; simp [hi, ptBad]
    · simp [ptk, nameOkT]
    · simp [ptk, nameOkT]
    · unfold ptk nameOkT
      simp only [show ¬ ((5 : Int) = 1) by decide, show ¬ ((5 : Int) = 2) by decide, show ¬ ((5 : Int) = 3) by decide, show ¬ ((5 : Int) = 4) by decide, if_false]
      split <;> simp
  · rw [nxt_end hk, rep_end hk h]
    simp [nameOkT, tk0, pt0]
end Go.Proofs.YtkgeabljdkkonaaGreatDoor

namespace Go.Proofs.YtkgeabljdkkonaaGreatDoor
open Go.RowKit

/-! What the document's reader reads of an item, against the program's (data). -/
structure ItRel (l : List Tk) (k : Nat) (lost : Bool) (u : St) (r : Nat) (x : It) (k' : Nat) (lost' : Bool) : Prop where
  le : k ≤ k'
  keep : lost = true → lost' = true
  ok : lost' = false → k < k' ∧ ∃ v, itemD r u = some (x, v) ∧ Rep v (l.drop k')
  no : lost = false → lost' = true → itemD r u = none
  cnt : x.cnt + tws l k ≤ tws l k' + 1
  cnt' : lost' = false → x.cnt + tws l k ≤ tws l k'
structure LsRel (l : List Tk) (k : Nat) (lost : Bool) (u : St) (r : Nat) (q : List It) (k' : Nat) (lost' : Bool) : Prop where
  le : k ≤ k'
  keep : lost = true → lost' = true
  ok : lost' = false → k < k' ∧ ∃ v, listD (itemD r) u = some (q, v) ∧ Rep v (l.drop k')
  no : lost = false → lost' = true → listD (itemD r) u = none
  cnt : cntL q + tws l k ≤ tws l k' + 1
  cnt' : lost' = false → cntL q + tws l k ≤ tws l k'
theorem goN_le (l : List Tk) (k : Nat) : k ≤ goN l k := by unfold goN; split <;> omega
theorem goN_at {l : List Tk} {k : Nat} (h : k < l.length) : goN l k = k + 1 := if_pos h
theorem kind_lt {l : List Tk} {k : Nat} (h : (nxt l k).kind ≠ 0) : k < l.length := by
  rcases Nat.lt_or_ge k l.length with hk | hk
  · exact hk
  · rw [nxt_end hk] at h; exact absurd rfl h
theorem ptk_kinds (t : Tk) : (t.kind = 3 → ptk t = ⟨4, ⟨#[]⟩, t.num⟩) ∧ (t.kind = 4 → ptk t = ⟨5, t.text, 0⟩) ∧ (t.kind = 5 → t.text = ⟨#[91]⟩ → ptk t = ⟨7, t.text, 0⟩) := by
  refine ⟨fun h => ?_, fun h => ?_, fun h h2 => ?_⟩ <;> unfold ptk <;> rw [h]
  · rfl
  · rfl
  · simp [h2]
section
variable {l : List Tk} {k : Nat} {lost : Bool} {u : St} {r : Nat}
/-- One token that is an item. -/
theorem ItRel.tok (hR : lost = false → Rep u (l.drop k)) (hk : k < l.length) (x : It) (hx : x.cnt ≤ l[k].text.size + 1) (hd : u.1 = ptk l[k] → itemD r u = some (x, nxtD u.2)) : ItRel l k lost u r x (k + 1) lost := by
  have hw := tws_succ hk
  refine ⟨by omega, fun h => h, fun h => ⟨by omega, ?_⟩, fun h1 h2 => ?_, by omega, fun _ => by omega⟩
  · obtain ⟨e, hr⟩ := rep_at hk (hR h)
    exact ⟨_, hd e, hr⟩
  · rw [h1] at h2; cases h2
theorem ItRel.num (hR : lost = false → Rep u (l.drop k)) (h : (nxt l k).kind = 3) : ItRel l k lost u r (.mk 3 (nxt l k).num ⟨#[]⟩ []) (goN l k) lost := by
  have hk := kind_lt (l := l) (k := k) (by rw [h]; decide)
  rw [nxt_at hk] at h ⊢
  rw [goN_at hk]
  refine .tok hR hk _ (by show 1 + 0 + 0 ≤ _; omega) (fun e => ?_)
  rw [item_form, e, (ptk_kinds l[k]).1 h]
  rfl
theorem ItRel.text (hR : lost = false → Rep u (l.drop k)) (h : (nxt l k).kind = 4) : ItRel l k lost u r (.mk 4 0 (nxt l k).text []) (goN l k) lost := by
  have hk := kind_lt (l := l) (k := k) (by rw [h]; decide)
  rw [nxt_at hk] at h ⊢
  rw [goN_at hk]
  refine .tok hR hk _ (by show 1 + l[k].text.size + 0 ≤ _; omega) (fun e => ?_)
  rw [item_form, e, (ptk_kinds l[k]).2.1 h]
  rfl
theorem iow_res {x : ByteArray} {y : It} (h : iowD x = some y) : resB x = true := by
  unfold iowD at h
  split at h
  · rename_i e; rw [e]; decide
  split at h
  · rename_i e; rw [e]; decide
  split at h
  · rename_i e; rw [e]; decide
  · cases h
theorem ItRel.word (hR : lost = false → Rep u (l.drop k)) (h : (nxt l k).kind = 1) {x : It} (hx : iowD (nxt l k).text = some x) : ItRel l k lost u r x (goN l k) lost := by
  have hk := kind_lt (l := l) (k := k) (by rw [h]; decide)
  rw [nxt_at hk] at h hx
  rw [goN_at hk]
  refine .tok hR hk _ (by rw [iow_cnt hx]; omega) (fun e => ?_)
  have e2 : ptk l[k] = ⟨2, l[k].text, 0⟩ := by
    unfold ptk
    rw [if_pos h, if_pos (iow_res hx)]
  rw [item_form, e, e2]
  simp only [show ¬ ((2 : Int) = 4) by decide, show ¬ ((2 : Int) = 5) by decide, if_false, if_true, hx]
  rfl
theorem ItRel.list (hR : lost = false → Rep u (l.drop k)) (h : (nxt l k).kind = 5) (ht : (nxt l k).text = ⟨#[91]⟩) {q : List It} {k' : Nat} {lost' : Bool} (hq : LsRel l (goN l k) lost (nxtD u.2) r q k' lost') : ItRel l k lost u (r + 1) (.mk 5 0 ⟨#[]⟩ q) k' lost' := by
  have hk := kind_lt (l := l) (k := k) (by rw [h]; decide)
  rw [nxt_at hk] at h ht
  rw [goN_at hk] at hq
  have hw := tws_succ hk
  have hs : l[k].text.size = 1 := by rw [ht]; rfl
  have e1 : ∀ _ : lost = false, itemD (r + 1) u = (listD (itemD r) (nxtD u.2)).map fun p => (.mk 5 0 ⟨#[]⟩ p.1, p.2) := fun hl => by
    obtain ⟨e, _⟩ := rep_at hk (hR hl)
    rw [item_form, e, (ptk_kinds l[k]).2.2 h ht, ht]
    simp only [show ¬ ((7 : Int) = 4) by decide, show ¬ ((7 : Int) = 5) by decide, show ¬ ((7 : Int) = 2) by decide, if_false]
    rw [if_pos ⟨by unfold isM justB; rw [e, (ptk_kinds l[k]).2.2 h ht, ht]; rfl, by omega⟩, Nat.add_sub_cancel]
  have hcnt : (It.mk 5 0 ⟨#[]⟩ q).cnt = 1 + 0 + cntL q := rfl
  have c1 := hq.cnt
  refine ⟨by have := hq.le; omega, hq.keep, fun hl' => ?_, fun hl hl' => ?_, by rw [hcnt]; omega, fun hl' => by have := hq.cnt' hl'; rw [hcnt]; omega⟩
  · have hl : lost = false := by
      cases hh : lost with
      | false => rfl
      | true => rw [hq.keep hh] at hl'; cases hl'
    obtain ⟨h1, v, h2, h3⟩ := hq.ok hl'
    exact ⟨by omega, v, by rw [e1 hl, h2]; rfl, h3⟩
  · rw [e1 hl, hq.no hl hl']; rfl
theorem ItRel.none (hl : ∀ t ∈ l, TkFine t) (hR : lost = false → Rep u (l.drop k)) (h3 : (nxt l k).kind ≠ 3) (h4 : (nxt l k).kind ≠ 4) (h1 : (nxt l k).kind = 1 → iowD (nxt l k).text = Option.none) (h5 : (nxt l k).kind = 5 → (nxt l k).text = ⟨#[91]⟩ → r = 0) : ItRel l k lost u r (.mk 0 0 ⟨#[]⟩ []) (goN l k) true := by
  have hm := tws_mono l (goN_le l k)
  refine ⟨goN_le l k, fun _ => rfl, fun h => (by cases h), fun hlost _ => ?_, by show 1 + 0 + 0 + _ ≤ _; omega, fun h => (by cases h)⟩
  have hr := hR hlost
  rw [item_form]
  rcases Nat.lt_or_ge k l.length with hk | hk
  · rw [nxt_at hk] at h1 h3 h4 h5
    have hf := hl _ (List.getElem_mem hk)
    obtain ⟨e, _⟩ := rep_at hk hr
    unfold isM
    rw [e]
    clear hr e hR hm
    generalize l[k] = t at *
    obtain ⟨tk, tn, tt⟩ := t
    simp only at h1 h3 h4 h5
    have hnd : ∀ s, (namedD s).kind = 1 ∨ (namedD s).kind = 3 := named_kind
    rcases hf.kind with e1 | e1 | e1 | e1 | e1 <;> simp only at e1 <;> subst e1
    · unfold ptk
      simp only [if_true]
      by_cases hrs : resB tt = true
      · rw [if_pos hrs]
        simp [h1 rfl]
      · rw [if_neg hrs, named_three _ _ _ (.inr rfl)]
        rcases hnd tt with h | h <;> rw [h] <;> simp
    · unfold ptk
      simp only [show ¬ ((2 : Int) = 1) by decide, if_false, if_true]
      rw [named_three _ _ _ (.inr rfl)]
      rcases hnd tt with h | h <;> rw [h] <;> simp
    · exact absurd rfl h3
    · exact absurd rfl h4
    · unfold ptk
      simp only [show ¬ ((5 : Int) = 1) by decide, show ¬ ((5 : Int) = 2) by decide, show ¬ ((5 : Int) = 3) by decide, show ¬ ((5 : Int) = 4) by decide, if_false]
      split
      · by_cases ht : tt = ⟨#[91]⟩
        · rw [h5 rfl ht]; simp [justB]
        · simp [justB, ht]
      · simp [justB]
  · rw [rep_end hk hr]
    simp [pt0, isM, justB]
end
end Go.Proofs.YtkgeabljdkkonaaGreatDoor
