import Derived.Test.YtddhjnfcbpookaaDoorQRef2
namespace Go.Proofs.YtddhjnfcbpookaaDoor
open Go.RowKit

/-! The fault of a query. -/
def firstN {α : Type} (f : α → Nat) : List α → Nat
  | [] => 0
  | x :: r => if f x = 0 then firstN f r else f x
theorem firstN_all {α : Type} {f : α → Nat} : ∀ (l : List α), (∀ x ∈ l, f x = 0) → firstN f l = 0
  | [], _ => rfl
  | x :: r, h => by rw [firstN, if_pos (h x (by simp))]; exact firstN_all r fun y hy => h y (by simp [hy])
theorem firstN_at {α : Type} {f : α → Nat} : ∀ (l : List α) (k : Nat) (hk : k < l.length), (∀ j (h : j < l.length), j < k → f l[j] = 0) → f l[k] ≠ 0 → firstN f l = f l[k]
  | x :: r, 0, _, _, h => by
    have h : f x ≠ 0 := h
    rw [firstN, if_neg h]; rfl
  | x :: r, k + 1, hk, h0, h => by
    have hz : f x = 0 := h0 0 (by simp) (by omega)
    rw [firstN, if_pos hz]
    exact firstN_at r k (by simpa using hk) (fun j hj hjk => h0 (j + 1) (by simpa using hj) (by omega)) h
theorem firstN_take {α : Type} {f : α → Nat} (l : List α) (h : ∀ j (h : j < l.length), f l[j] = 0) : firstN f l = 0 := firstN_all l fun x hx => by
  obtain ⟨j, hj, rfl⟩ := List.getElem_of_mem hx
  exact h j hj
def emptyB (s : ByteArray) : Bool := decide (s = ⟨#[]⟩)
def condF (c : Cd) : Nat := if isNameD c.field = true ∧ 1 ≤ c.sign ∧ c.sign ≤ 5 then packF [c.item] else 1
def endF (q : Qd) : Nat := if (q.order = ⟨#[]⟩ ∨ isNameD q.order = true) ∧ ¬ (q.falling = true ∧ q.order = ⟨#[]⟩) ∧ 0 ≤ q.limit then 0 else 1
def qfaultD (q : Qd) : Nat := if isNameD q.table = true then (if firstN condF q.cs = 0 then endF q else firstN condF q.cs) else 1
theorem cnt_mem {l : List Cd} {c : Cd} (h : c ∈ l) : c.field.size + c.item.cnt ≤ cntC l := by
  induction l with
  | nil => simp at h
  | cons d l ih =>
    rw [cntC]
    rcases List.mem_cons.1 h with rfl | h
    · omega
    · have := ih h; omega
theorem enc_one {c : Cd} {l : List Cd} (h : c ∈ l) (hs : cntC l ≤ 16777216) : (encL [c.item]).length ≤ 100000000000000 := by
  have h1 := enc_le _ [c.item] (Nat.le_refl _)
  rw [cnt_one] at h1
  have := cnt_mem h
  omega
theorem eq_empty (s : ByteArray) : (s.toList == (⟨#[]⟩ : ByteArray).toList) = decide (s = ⟨#[]⟩) := by
  by_cases h : s = ⟨#[]⟩
  · subst h; rw [str_eq]; simp
  · rw [str_ne h, decide_eq_false h]
set_option maxHeartbeats 4000000 in
set_option maxRecDepth 100000 in
theorem qfault_any (q : Qd) (cv : Value) (w : World) (hc : CsAt w anyB cv q.cs) (hsz : cntC q.cs ≤ 16777216) (ht : q.table.size ≤ 140737488355328) (ho : q.order.size ≤ 140737488355328) :
    Calls Tryd.prog 22 #[.agg (qV q cv)] w fun e w' => e = .returned (.int .i64 (qfaultD q : Nat)) ∧ Below w.heap.size w w' := by
  obtain ⟨r, hr⟩ : ∃ r, r = qfaultD q := ⟨_, rfl⟩
  rw [← hr]
  have HR := hide hr
  obtain ⟨t, l, o, f, m⟩ := q
  simp only [qV] at hc hsz ht ho ⊢
  obtain ⟨ca, cc, hcv⟩ := hc.form
  subst hcv
  have hlen := hc.len
  have q1 := below_new w (.cells #[.string t, .slice ca l.length cc, .string o, .bool f, .int .i64 m] 31)
  have x1 := RowAt.new w #[.string t, .slice ca l.length cc, .string o, .bool f, .int .i64 m] 31
  generalize hW1 : w.alloc (.cells #[.string t, .slice ca l.length cc, .string o, .bool f, .int .i64 m] 31) = W1 at q1 x1
  have HW := hide hW1
  have HX := hide x1
  have HC := hide (hc.keep q1)
  have HB := hide q1
  obtain ⟨c0, c1, c2, c3, c4⟩ := x1.q5
  have HNT := hide (isname_any t W1 ht)
  have HNO := hide (fun W => isname_any o W ho)
  have HSZ : Hid (cntC l ≤ 16777216) := hsz
  rw [← hW1] at c0
  clear hc q1 x1 hW1 hr ht ho hsz
  go_enter Tryd.func22, Tryd.ntmps22
  go_wp2_with fail
  rw [HW.out] at c0 ⊢
  refine HNT.out.mono ?_
  rintro e w' ⟨rfl, rfl⟩
  cases hnt : isNameD t with
  | false =>
    have HE : Hid (r = 1) := by show _ = _; rw [HR.out]; simp [qfaultD, hnt]
    clear hnt
    go_wp2
    go_ret
    exact ⟨by rw [HE.out]; rfl, HB.out⟩
  | true =>
    have HNTT := hide hnt
    clear hnt HNT c0
    go_wp2_with fail
    go_loopw [3, 4, 5, 6, 7] (fun _ v _ _ _ wr => ∃ k : Nat, v = .int .i64 (k : Int) ∧ k ≤ l.length ∧ Hid (∀ j (h : j < l.length), j < k → condF l[j] = 0) ∧ Below W1.heap.size W1 wr) (fun _ v _ _ _ _ => l.length - (intOf v).toNat)
    case atStart => exact ⟨0, rfl, Nat.zero_le _, fun j _ h => by omega, Below.refl _ _⟩
    case round =>
      obtain ⟨k, rfl, hk, hall, hbl⟩ := hrel
      clear c1 c2 c3 c4
      obtain ⟨c0, c1, c2, c3, c4⟩ := (HX.out.below hbl).q5
      have HBL := hide hbl
      by_cases hlt : k < l.length
      · have hltI : (k : Int) < (l.length : Int) := by omega
        have e0 : (0 : Int) ≤ (k : Int) := by omega
        obtain ⟨g, off, u, hca, -, hok, s0, s1, s2, s3, s4, s5, hin⟩ := (HC.out.keep hbl).get k hlt
        have hmem : l[k] ∈ l := List.getElem_mem hlt
        have HENC := hide (enc_one hmem HSZ.out)
        have HST : Hid (condF l[k] ≠ 0 → r = condF l[k]) := fun h => by
          have h1 := firstN_at l k hlt hall.out h
          rw [HR.out]
          simp only [qfaultD, HNTT.out, h1]
          simp [h]
        have HAL : Hid (condF l[k] = 0 → ∀ j (h : j < l.length), j < k + 1 → condF l[j] = 0) := fun h0 j h hj => by
          by_cases e : j = k
          · subst e; exact h0
          · exact hall.out j h (by omega)
        have HJ : Hid (k + 1 ≤ l.length) := by show _ ≤ _; omega
        obtain ⟨x, hx⟩ : ∃ x, x = l[k]'hlt := ⟨_, rfl⟩
        rw [← hx] at s0 s1 s2 s3 s4 hin HENC HST HAL hok
        subst hca
        have HOK := hide hok
        have HNF := hide (fun W => isname_any x.field W (by have := hok.f; omega))
        obtain ⟨ua, uc, hu⟩ := hin.form
        subst hu
        have HIN := hide hin
        clear hin hok hx hmem hall hbl
        have qv := below_new wr (.cells #[.string x.field, .int .i64 x.sign, .int .i64 x.item.kind, .int .i64 x.item.num, .string x.item.text, .slice ua x.item.list.length uc] 61)
        have yv := RowAt.new wr #[.string x.field, .int .i64 x.sign, .int .i64 x.item.kind, .int .i64 x.item.num, .string x.item.text, .slice ua x.item.list.length uc] 61
        obtain ⟨V1, hV1⟩ : ∃ V1, wr.alloc (.cells #[.string x.field, .int .i64 x.sign, .int .i64 x.item.kind, .int .i64 x.item.num, .string x.item.text, .slice ua x.item.list.length uc] 61) = V1 := ⟨_, rfl⟩
        rw [hV1] at qv yv
        obtain ⟨v0, v1, v2, v3, v4, v5⟩ := yv.q6
        have HV1 := hide hV1
        have qp := below_new V1 (.cells #[.int .i64 x.item.kind, .int .i64 x.item.num, .string x.item.text, .slice ua x.item.list.length uc] 59)
        have yp := RowAt.new V1 #[.int .i64 x.item.kind, .int .i64 x.item.num, .string x.item.text, .slice ua x.item.list.length uc] 59
        have HPK := hide (rpack_any [x.item] (.slice (some ⟨V1.heap.size, 0, none⟩) 1 1) (V1.alloc (.cells #[.int .i64 x.item.kind, .int .i64 x.item.num, .string x.item.text, .slice ua x.item.list.length uc] 59)) (its_one yp trivial HOK.out.it ((HIN.out.keep qv).keep qp)) (fun _ => HENC.out))
        have HQV := hide qv
        have HQP := hide qp
        clear qv yv qp yp hV1 HENC HIN HOK
        go_wp2_with fail
        rw [HV1.out]
        refine (HNF.out V1).mono ?_
        rintro e w'' ⟨rfl, rfl⟩
        by_cases hn : isNameD x.field = true
        · rw [hn]
          by_cases h1 : x.sign < 1
          · have HE : Hid (r = 1) := by
              show _ = _
              have e1 : condF x = 1 := by unfold condF; rw [if_neg (by omega)]
              rw [HST.out (by omega), e1]
            have HEB := hide (Below.next HB.out (Below.next HBL.out HQV.out))
            clear hn HST HAL HPK HQP HNF
            go_wp2
            go_ret
            exact ⟨by rw [HE.out]; rfl, HEB.out⟩
          · by_cases h5 : 5 < x.sign
            · have HE : Hid (r = 1) := by
                show _ = _
                have e1 : condF x = 1 := by unfold condF; rw [if_neg (by omega)]
                rw [HST.out (by omega), e1]
              have HEB := hide (Below.next HB.out (Below.next HBL.out HQV.out))
              clear hn HST HAL HPK HQP HNF
              go_wp2
              go_ret
              exact ⟨by rw [HE.out]; rfl, HEB.out⟩
            · have e1 : condF x = packF [x.item] := by unfold condF; rw [if_pos ⟨hn, by omega, by omega⟩]
              obtain ⟨pf, hpf⟩ : ∃ pf, pf = packF [x.item] := ⟨_, rfl⟩
              rw [← hpf] at e1 HPK
              rw [e1] at HST HAL
              generalize packT [x.item] = pt at HPK
              clear hn hpf e1 HNF
              go_wp2_with fail
              refine HPK.out.mono ?_
              rintro e w4 ⟨rfl, hb4⟩
              have HB4 := hide (Below.next (Below.next HQV.out HQP.out) hb4)
              clear hb4 HPK HQP HQV v0 v1 v2 v3 v4 v5
              by_cases h0 : pf = 0
              · subst h0
                have HA := hide (HAL.out rfl)
                clear HST HAL s0 s1 s2 s3 s4 s5
                go_wp2
                go_roundw
                case rel => exact ⟨k + 1, by go_num, HJ.out, HA.out, Below.next HBL.out HB4.out⟩
                case measure => simp [intOf]; omega
              · have h0I : ((pf : Int) != 0) = true := by simp; omega
                have h0J : ¬ ((pf : Int) = 0) := by omega
                have HE : Hid (r = pf) := HST.out h0
                have HEB := hide (Below.next HB.out (Below.next HBL.out HB4.out))
                clear HST HAL s0 s1 s2 s3 s4 s5
                go_wp2
                go_ret
                exact ⟨by rw [HE.out]; rfl, HEB.out⟩
        · have hnf : isNameD x.field = false := by simpa using hn
          rw [hnf]
          have HE : Hid (r = 1) := by
            show _ = _
            have e1 : condF x = 1 := by unfold condF; rw [if_neg (by simp [hnf])]
            rw [HST.out (by omega), e1]
          have HEB := hide (Below.next HB.out (Below.next HBL.out HQV.out))
          clear hn hnf HST HAL HPK HQP HNF
          go_wp2
          go_ret
          exact ⟨by rw [HE.out]; rfl, HEB.out⟩
      · have hltI : ¬ (k : Int) < (l.length : Int) := by omega
        have HE : Hid (r = endF ⟨t, l, o, f, m⟩) := by
          show _ = _
          have h1 := firstN_take (f := condF) l fun j h => hall.out j h (by omega)
          rw [HR.out, qfaultD, if_pos HNTT.out]
          show (if firstN condF l = 0 then _ else _) = _
          rw [if_pos h1]
        have HEB := hide (Below.next HB.out hbl)
        have HNO2 := hide (HNO.out wr)
        clear hall hlt hbl HNO HC HX HBL
        by_cases hoe : o = ⟨#[]⟩
        · subst hoe
          have hq : ((⟨#[]⟩ : ByteArray).toList == (⟨#[]⟩ : ByteArray).toList) = true := str_eq _
          cases f with
          | true =>
            have HF : Hid (r = 1) := by show _ = _; rw [HE.out]; simp [endF]
            go_wp2
            go_ret
            exact ⟨by rw [HF.out]; rfl, HEB.out⟩
          | false =>
            by_cases hm : m < 0
            · have HF : Hid (r = 1) := by show _ = _; rw [HE.out]; simp [endF]; omega
              go_wp2
              go_ret
              exact ⟨by rw [HF.out]; rfl, HEB.out⟩
            · have HF : Hid (r = 0) := by show _ = _; rw [HE.out]; simp [endF]; omega
              go_wp2
              go_ret
              exact ⟨by rw [HF.out]; rfl, HEB.out⟩
        · have hq : (o.toList == (⟨#[]⟩ : ByteArray).toList) = false := str_ne hoe
          have hq2 : o.toList.isEmpty = false := by
            have := eq_empty o
            rw [hq] at this
            cases hz : o.toList with
            | nil => rw [hz] at hq; simp at hq
            | cons _ _ => rfl
          go_wp2_with fail
          refine HNO2.out.mono ?_
          rintro e w'' ⟨rfl, rfl⟩
          cases hno : isNameD o with
          | false =>
            have HF : Hid (r = 1) := by show _ = _; rw [HE.out]; simp [endF, hno, hoe]
            clear hno
            go_wp2
            go_ret
            exact ⟨by rw [HF.out]; rfl, HEB.out⟩
          | true =>
            by_cases hm : m < 0
            · have HF : Hid (r = 1) := by show _ = _; rw [HE.out]; simp [endF]; omega
              clear hno
              cases f with
              | true =>
                go_wp2
                go_ret
                exact ⟨by rw [HF.out]; rfl, HEB.out⟩
              | false =>
                go_wp2
                go_ret
                exact ⟨by rw [HF.out]; rfl, HEB.out⟩
            · have HF : Hid (r = 0) := by show _ = _; rw [HE.out]; simp [endF, hno, hoe]; omega
              clear hno
              cases f with
              | true =>
                go_wp2
                go_ret
                exact ⟨by rw [HF.out]; rfl, HEB.out⟩
              | false =>
                go_wp2
                go_ret
                exact ⟨by rw [HF.out]; rfl, HEB.out⟩
end Go.Proofs.YtddhjnfcbpookaaDoor
