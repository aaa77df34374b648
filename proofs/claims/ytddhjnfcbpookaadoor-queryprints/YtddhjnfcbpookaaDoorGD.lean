import Derived.Test.YtddhjnfcbpookaaDoorQItem2
namespace Go.Proofs.YtddhjnfcbpookaaDoor
open Go.RowKit

/-! The document's Print. -/
def signL (s : Int) : List UInt8 := if s = 1 then [61] else if s = 2 then [60] else if s = 3 then [60, 61] else if s = 4 then [62] else [62, 61]
def condL (c : Cd) : List UInt8 := nameL c.field ++ [32] ++ signL c.sign ++ [32] ++ itemL c.item
def whereL : List UInt8 := [32, 119, 104, 101, 114, 101, 32]
def andL : List UInt8 := [32, 97, 110, 100, 32]
def condT : List Cd → List UInt8
  | [] => []
  | c :: l => andL ++ condL c ++ condT l
def condsL : List Cd → List UInt8
  | [] => []
  | c :: l => whereL ++ condL c ++ condT l
def orderL (q : Qd) : List UInt8 := if q.order = ⟨#[]⟩ then [] else [32, 111, 114, 100, 101, 114, 32, 98, 121, 32] ++ nameL q.order
def fallL (q : Qd) : List UInt8 := if q.falling = true then [32, 102, 97, 108, 108, 105, 110, 103] else []
def limitL (q : Qd) : List UInt8 := if 0 < q.limit then [32, 108, 105, 109, 105, 116, 32] ++ Lib.itoa q.limit else []
def textL (q : Qd) : List UInt8 := [102, 114, 111, 109, 32] ++ nameL q.table ++ condsL q.cs ++ orderL q ++ fallL q ++ limitL q
def printF (q : Qd) : Nat := if qfaultD q = 0 then (if 65536 < (textL q).length then 3 else 0) else qfaultD q
def printT (q : Qd) : ByteArray := if printF q = 0 then ⟨(textL q).toArray⟩ else ⟨#[]⟩
theorem condsL_snoc : ∀ (l : List Cd) (c : Cd), condsL (l ++ [c]) = condsL l ++ (if l = [] then whereL else andL) ++ condL c
  | [], c => by simp [condsL, condT]
  | d :: l, c => by
    have ht : ∀ (l : List Cd), condT (l ++ [c]) = condT l ++ (andL ++ condL c) := by
      intro l
      induction l with
      | nil => simp [condT]
      | cons z l ih => simp only [List.cons_append, condT, ih]; simp
    simp only [List.cons_append, condsL, ht]
    simp
theorem nameL_len (s : ByteArray) (h : s.size ≤ 32) : (nameL s).length ≤ 66 := by
  unfold nameL
  split
  · rw [q_len]; omega
  · have := qescL_len s.data.toList
    rw [q_len] at this
    simp only [List.length_cons, List.length_append, List.length_nil]; omega
theorem signL_len (s : Int) : (signL s).length ≤ 2 := by
  unfold signL
  split
  · simp
  split
  · simp
  split
  · simp
  split <;> simp
theorem isName_size {s : ByteArray} (h : isNameD s = true) : s.size ≤ 32 := by
  unfold isNameD at h
  rw [Bool.and_eq_true, decide_eq_true_eq] at h
  exact h.2.2
theorem condsL_len (l : List Cd) (h : ∀ c ∈ l, c.field.size ≤ 32 ∧ (itemL c.item).length ≤ 27 * c.item.cnt ∧ 1 ≤ c.item.cnt) : (condsL l).length ≤ 110 * cntC l := by
  have hc : ∀ c, c.field.size ≤ 32 → (itemL c.item).length ≤ 27 * c.item.cnt → (condL c).length ≤ 70 + 27 * c.item.cnt := fun c h1 h2 => by
    have := nameL_len c.field h1
    have := signL_len c.sign
    unfold condL
    simp only [List.length_append, List.length_cons, List.length_nil]; omega
  have ht : ∀ (l : List Cd), (∀ c ∈ l, c.field.size ≤ 32 ∧ (itemL c.item).length ≤ 27 * c.item.cnt ∧ 1 ≤ c.item.cnt) → (condT l).length ≤ 110 * cntC l := by
    intro l
    induction l with
    | nil => intro _; simp [condT]
    | cons z l ih =>
      intro h
      obtain ⟨a, b, d⟩ := h z (by simp)
      have h2 := ih fun y hy => h y (by simp [hy])
      have := hc z a b
      rw [condT, cntC]
      simp only [List.length_append, andL, List.length_cons, List.length_nil]; omega
  cases l with
  | nil => simp [condsL]
  | cons z l =>
    obtain ⟨a, b, d⟩ := h z (by simp)
    have h2 := ht l fun y hy => h y (by simp [hy])
    have := hc z a b
    rw [condsL, cntC]
    simp only [List.length_append, whereL, List.length_cons, List.length_nil]; omega
/-- The signs, in a row of the call's own. -/
def signR : Array Value := #[.string ⟨#[61]⟩, .string ⟨#[60]⟩, .string ⟨#[60, 61]⟩, .string ⟨#[62]⟩, .string ⟨#[62, 61]⟩]
theorem sign_cell {w : World} {b : Nat} {t : TypeId} (h : RowAt w b signR t) (s : Nat) (h1 : 1 ≤ s) (h5 : s ≤ 5) : w.cell? ⟨b, s - 1, none⟩ = some (.string ⟨(signL (s : Int)).toArray⟩) := by
  have : s = 1 ∨ s = 2 ∨ s = 3 ∨ s = 4 ∨ s = 5 := by omega
  rcases this with rfl | rfl | rfl | rfl | rfl
  · exact h.cell 0 (by simp [signR])
  · exact h.cell 1 (by simp [signR])
  · exact h.cell 2 (by simp [signR])
  · exact h.cell 3 (by simp [signR])
  · exact h.cell 4 (by simp [signR])
end Go.Proofs.YtddhjnfcbpookaaDoor

namespace Go.Proofs.YtddhjnfcbpookaaDoor
open Go.RowKit

theorem firstN_zero {α : Type} {f : α → Nat} : ∀ (l : List α), firstN f l = 0 → ∀ x ∈ l, f x = 0
  | [], _, x, hx => by simp at hx
  | y :: l, h, x, hx => by
    rw [firstN] at h
    split at h
    · rename_i h0
      rcases List.mem_cons.1 hx with rfl | hx
      · exact h0
      · exact firstN_zero l h x hx
    · rename_i h0
      exact absurd h h0
structure FineQ (t : ByteArray) (l : List Cd) (o : ByteArray) (m : Int) : Prop where
  tn : t.size ≤ 32
  on : o.size ≤ 32
  m0 : 0 ≤ m
  cs : ∀ c ∈ l, c.field.size ≤ 32 ∧ 1 ≤ c.sign ∧ c.sign ≤ 5
theorem fine_of {q : Qd} (h : qfaultD q = 0) : FineQ q.table q.cs q.order q.limit := by
  unfold qfaultD at h
  by_cases h1 : isNameD q.table = true
  · rw [if_pos h1] at h
    by_cases h2 : firstN condF q.cs = 0
    · rw [if_pos h2] at h
      have h3 : (q.order = ⟨#[]⟩ ∨ isNameD q.order = true) ∧ ¬ (q.falling = true ∧ q.order = ⟨#[]⟩) ∧ 0 ≤ q.limit := by
        unfold endF at h
        split at h
        · assumption
        · cases h
      refine ⟨isName_size h1, ?_, h3.2.2, fun c hc => ?_⟩
      · rcases h3.1 with e | e
        · rw [e]; decide
        · exact isName_size e
      · have hz := firstN_zero _ h2 c hc
        unfold condF at hz
        split at hz
        · rename_i h4
          exact ⟨isName_size h4.1, h4.2⟩
        · cases hz
    · rw [if_neg h2] at h
      exact absurd h h2
  · rw [if_neg h1] at h
    cases h
theorem cntC_take (l : List Cd) (k : Nat) : cntC (l.take k) ≤ cntC l := by
  have h : cntC (l.take k ++ l.drop k) = cntC l := by rw [List.take_append_drop]
  rw [cntC_append] at h
  omega
theorem conds_len {w : World} {v : Value} {l : List Cd} {t o : ByteArray} {m : Int} (h : CsAt w anyB v l) (hf : FineQ t l o m) (hs : cntC l ≤ 16777216) (k : Nat) : (condsL (l.take k)).length ≤ 1900000000 := by
  have h1 := condsL_len (l.take k) fun c hc => by
    have hm := List.mem_of_mem_take hc
    obtain ⟨i, hi, rfl⟩ := List.getElem_of_mem hm
    obtain ⟨a, cc, rfl⟩ := h.form
    obtain ⟨g, off, u, -, -, hok, -, -, -, -, -, -, hin⟩ := h.get i hi
    have h2 := item_len _ hok.it (its_len hin)
    have h3 := It.cnt_eq l[i].item
    exact ⟨(hf.cs _ hm).1, by omega, by omega⟩
  have h2 := cntC_take l k
  omega
theorem one_len {w : World} {v : Value} {l : List Cd} (h : CsAt w anyB v l) (hs : cntC l ≤ 16777216) (k : Nat) (hk : k < l.length) : (itemL (l[k]'hk).item).length ≤ 500000000 ∧ (l[k]'hk).item.cnt ≤ 16777216 := by
  obtain ⟨a, cc, rfl⟩ := h.form
  obtain ⟨g, off, u, -, -, hok, -, -, -, -, -, -, hin⟩ := h.get k hk
  have h2 := item_len _ hok.it (its_len hin)
  have h3 := cnt_mem (List.getElem_mem hk)
  omega
def fromL : List UInt8 := [102, 114, 111, 109, 32]
def headL (t : ByteArray) (l : List Cd) : List UInt8 := fromL ++ nameL t ++ condsL l
theorem headL_snoc (t : ByteArray) (l : List Cd) (k : Nat) (h : k < l.length) : (⟨(headL t (l.take (k + 1))).toArray⟩ : ByteArray) = ⟨(headL t (l.take k)).toArray⟩ ++ ⟨(if k = 0 then whereL else andL).toArray⟩ ++ ⟨(nameL (l[k]'h).field).toArray⟩ ++ ⟨#[32]⟩ ++ ⟨(signL (l[k]'h).sign).toArray⟩ ++ ⟨#[32]⟩ ++ ⟨(itemL (l[k]'h).item).toArray⟩ := by
  have e : (if l.take k = [] then whereL else andL) = if k = 0 then whereL else andL := by
    by_cases hk : k = 0
    · subst hk; simp
    · rw [if_neg hk, if_neg]
      intro e
      have := congrArg List.length e
      rw [List.length_take, List.length_nil] at this; omega
  unfold headL
  rw [List.take_succ_eq_append_getElem h, condsL_snoc, e, condL, show (⟨#[32]⟩ : ByteArray) = ⟨[(32 : UInt8)].toArray⟩ from rfl]
  simp only [ba_app, List.append_assoc]
set_option maxHeartbeats 8000000 in
set_option maxRecDepth 100000 in
theorem print_any (q : Qd) (cv : Value) (w : World) (hc : CsAt w anyB cv q.cs) (hsz : cntC q.cs ≤ 16777216) (ht : q.table.size ≤ 140737488355328) (ho : q.order.size ≤ 140737488355328) (hm1 : -9223372036854775808 ≤ q.limit) (hm2 : q.limit ≤ 9223372036854775807) (hI : ItoAt w) :
    Calls Tryd.prog 15 #[.agg (qV q cv)] w fun e w' => e = .returned (.tuple #[.string (printT q), .int .i64 (printF q : Nat)]) ∧ Below w.heap.size w w' := by
  obtain ⟨rt, hrt⟩ : ∃ rt, rt = printT q := ⟨_, rfl⟩
  obtain ⟨rf, hrf⟩ : ∃ rf, rf = printF q := ⟨_, rfl⟩
  rw [← hrt, ← hrf]
  have HRT := hide hrt
  have HRF := hide hrf
  obtain ⟨qf, hqf⟩ : ∃ qf, qf = qfaultD q := ⟨_, rfl⟩
  have HQF := hide hqf
  have HFQ : Hid (qfaultD q = 0 → FineQ q.table q.cs q.order q.limit) := fine_of
  have q1 := below_new w (.cells (qV q cv) 31)
  have x1 := RowAt.new w (qV q cv) 31
  have HFA := hide (qfault_any q cv (w.alloc (.cells (qV q cv) 31)) (hc.keep q1) hsz ht ho)
  rw [← hqf] at HFA HFQ
  have HP0 : Hid (qf ≠ 0 → rt = ⟨#[]⟩ ∧ rf = qf) := fun h => by
    have e : printF q = qf := by unfold printF; rw [← HQF.out, if_neg h]
    exact ⟨by rw [HRT.out, printT, if_neg (by rw [e]; exact h)], by rw [HRF.out, e]⟩
  have HP1 : Hid (qf = 0 → 65536 < (textL q).length → rt = ⟨#[]⟩ ∧ rf = 3) := fun h h2 => by
    have e : printF q = 3 := by unfold printF; rw [← HQF.out, if_pos h, if_pos h2]
    exact ⟨by rw [HRT.out, printT, if_neg (by omega)], by rw [HRF.out, e]⟩
  have HP2 : Hid (qf = 0 → ¬ 65536 < (textL q).length → rt = ⟨(textL q).toArray⟩ ∧ rf = 0) := fun h h2 => by
    have e : printF q = 0 := by unfold printF; rw [← HQF.out, if_pos h, if_neg h2]
    exact ⟨by rw [HRT.out, printT, if_pos e], by rw [HRF.out, e]⟩
  clear hrt hrf hqf HRT HRF HQF
  obtain ⟨t, l, o, f, m⟩ := q
  simp only [qV] at hc hsz ht ho hm1 hm2 q1 x1 HFA HFQ ⊢
  obtain ⟨ca, cc, hcv⟩ := hc.form
  subst hcv
  have hlen := hc.len
  generalize hW1 : w.alloc (.cells #[.string t, .slice ca l.length cc, .string o, .bool f, .int .i64 m] 31) = W1 at q1 x1 HFA
  have HW := hide hW1
  have HX := hide x1
  have HC := hide (hc.keep q1)
  have HB := hide q1
  have HI := hide (hI.keep q1)
  obtain ⟨c0, c1, c2, c3, c4⟩ := x1.q5
  have HSZ : Hid (cntC l ≤ 16777216) := hsz
  rw [← hW1] at c0 c1 c2 c3 c4
  clear hc q1 x1 hW1 ht ho hsz hI
  go_enter Tryd.func15, Tryd.ntmps15
  go_wp2_with fail
  rw [HW.out] at c0 c1 c2 c3 c4 ⊢
  refine HFA.out.mono ?_
  rintro e w1 ⟨rfl, hb1⟩
  have HB1 := hide hb1
  clear hb1 HFA c0 c1 c2 c3 c4
  by_cases h0 : qf = 0
  · have HF := hide (HFQ.out h0)
    have HQ1 := hide (HP1.out h0)
    have HQ2 := hide (HP2.out h0)
    clear HFQ HP0 HP1 HP2
    subst h0
    have q2 := below_new w1 (.cells signR 9)
    have x2 := RowAt.new w1 signR 9
    have x3 := (HX.out.below HB1.out).below q2
    unfold signR at q2 x2 x3
    obtain ⟨W2, hW2⟩ : ∃ W2, w1.alloc (.cells #[.string ⟨#[61]⟩, .string ⟨#[60]⟩, .string ⟨#[60, 61]⟩, .string ⟨#[62]⟩, .string ⟨#[62, 61]⟩] 9) = W2 := ⟨_, rfl⟩
    rw [hW2] at q2 x2 x3
    have HNT := hide (nameText_any t W2 (by have := HF.out.tn; omega))
    have HX2 : Hid (RowAt W2 w1.heap.size signR 9) := x2
    obtain ⟨c0, c1, c2, c3, c4⟩ := x3.q5
    rw [← hW2] at c0
    have HW2 := hide hW2
    have HX3 := hide x3
    have HB2 := hide (Below.next HB1.out q2)
    clear c1 c2 c3 c4 q2 x2 x3 hW2
    obtain ⟨tb, htb⟩ : ∃ tb : ByteArray, tb = ⟨(nameL t).toArray⟩ := ⟨_, rfl⟩
    rw [← htb] at HNT
    have htbs : tb.size ≤ 66 := by rw [htb]; exact nameL_len t HF.out.tn
    have HTB : Hid ((⟨#[102, 114, 111, 109, 32]⟩ : ByteArray) ++ tb = ⟨(headL t (l.take 0)).toArray⟩) := by
      show _ = _
      rw [htb, show (⟨#[102, 114, 111, 109, 32]⟩ : ByteArray) = ⟨fromL.toArray⟩ from rfl, ba_app]
      simp [headL, condsL]
    clear htb
    go_wp2_with fail
    rw [HW2.out] at c0 ⊢
    refine HNT.out.mono ?_
    rintro e w3 ⟨rfl, hb3⟩
    have HB3 := hide (Below.next HB2.out hb3)
    have HX4 := hide (HX3.out.below hb3)
    have HS4 := hide (HX2.out.below hb3)
    have HC4 := hide (HC.out.keep HB3.out)
    have HI4 := hide (HI.out.keep HB3.out)
    have HSB : Hid (w1.heap.size < w3.heap.size) := HS4.out.lt
    have HE4 := hide (Below.next HB.out HB3.out)
    generalize w1.heap.size = sb at *
    clear hb3 HNT c0 HW2 HX2 HX3 HB2 HB3 HB1 HX HC HI HB HW
    go_wp2_with fail
    go_loopw [6, 7, 8] (fun sv iv _ wr => ∃ (k : Nat) (b : ByteArray), sv = .string b ∧ iv = .int .i64 (k : Int) ∧ k ≤ l.length ∧ Hid (b = ⟨(headL t (l.take k)).toArray⟩) ∧ Below w3.heap.size w3 wr) (fun _ iv _ _ => l.length - (intOf iv).toNat)
    case atStart => exact ⟨0, (⟨#[102, 114, 111, 109, 32]⟩ : ByteArray) ++ tb, rfl, rfl, Nat.zero_le _, HTB.out, Below.refl _ _⟩
    case round =>
      obtain ⟨k, b, rfl, rfl, hk, hb, hbl⟩ := hrel
      have HBL := hide hbl
      obtain ⟨c0, c1, c2, c3, c4⟩ := (HX4.out.below hbl).q5
      have hbs : b.size ≤ 1900000100 := by
        have h1 := conds_len HC4.out HF.out HSZ.out k
        have h2 := nameL_len t HF.out.tn
        have h4 : b.size = (headL t (l.take k)).length := by rw [hb.out]; rfl
        rw [h4, headL]
        simp only [List.length_append, fromL, List.length_cons, List.length_nil]; omega
      by_cases hlt : k < l.length
      · have hltI : (k : Int) < (l.length : Int) := by omega
        have e0 : (0 : Int) ≤ (k : Int) := by omega
        obtain ⟨g, off, u, hca, -, hok, s0, s1, s2, s3, s4, s5, hin⟩ := (HC4.out.keep hbl).get k hlt
        obtain ⟨hil, hcnt⟩ := one_len HC4.out HSZ.out k hlt
        obtain ⟨hf1, hf2, hf3⟩ := HF.out.cs _ (List.getElem_mem hlt)
        have HNX : Hid (b = b) := rfl
        have hsn := headL_snoc t l k hlt
        rw [← hb.out] at hsn
        obtain ⟨x, hx⟩ : ∃ x, x = l[k]'hlt := ⟨_, rfl⟩
        rw [← hx] at s0 s1 s2 s3 s4 hin hok hil hcnt hf1 hf2 hf3 hsn
        have HJ : Hid (k + 1 ≤ l.length) := by show _ ≤ _; omega
        subst hca
        obtain ⟨ua, uc, hu⟩ := hin.form
        subst hu
        have qv := below_new wr (.cells #[.string x.field, .int .i64 x.sign, .int .i64 x.item.kind, .int .i64 x.item.num, .string x.item.text, .slice ua x.item.list.length uc] 61)
        have yv := RowAt.new wr #[.string x.field, .int .i64 x.sign, .int .i64 x.item.kind, .int .i64 x.item.num, .string x.item.text, .slice ua x.item.list.length uc] 61
        obtain ⟨V1, hV1⟩ : ∃ V1, wr.alloc (.cells #[.string x.field, .int .i64 x.sign, .int .i64 x.item.kind, .int .i64 x.item.num, .string x.item.text, .slice ua x.item.list.length uc] 61) = V1 := ⟨_, rfl⟩
        rw [hV1] at qv yv
        obtain ⟨v0, v1, v2, v3, v4, v5⟩ := yv.q6
        have HV1 := hide hV1
        have hbv := Below.next hbl qv
        have HBV := hide hbv
        obtain ⟨S, hS⟩ : ∃ S : Nat, x.sign = (S : Int) := ⟨x.sign.toNat, by omega⟩
        have sg := sign_cell (HS4.out.below hbv) S (by omega) (by omega)
        rw [← hS] at sg
        obtain ⟨nb, hnb⟩ : ∃ nb : ByteArray, nb = ⟨(nameL x.field).toArray⟩ := ⟨_, rfl⟩
        obtain ⟨ib, hib⟩ : ∃ ib : ByteArray, ib = ⟨(itemL x.item).toArray⟩ := ⟨_, rfl⟩
        obtain ⟨gb, hgb⟩ : ∃ gb : ByteArray, gb = ⟨(signL x.sign).toArray⟩ := ⟨_, rfl⟩
        obtain ⟨b1, hb1⟩ : ∃ b1 : ByteArray, b1 = b ++ ⟨(if k = 0 then whereL else andL).toArray⟩ := ⟨_, rfl⟩
        have HNC := hide (fun W => nameText_any x.field W (by omega))
        have HIC := hide (fun W (hW : Below V1.heap.size V1 W) => item_any _ x.item (.slice ua x.item.list.length uc) W (Nat.le_refl _) hok.it ((hin.keep qv).keep hW) hcnt ((HI4.out.keep hbv).keep hW))
        have hnbs : nb.size ≤ 66 := by rw [hnb]; exact nameL_len _ hf1
        have hibs : ib.size ≤ 500000000 := by rw [hib]; exact hil
        have hgbs : gb.size ≤ 2 := by rw [hgb]; exact signL_len _
        have hb1s : b1.size ≤ 1900000200 := by
          rw [hb1, ByteArray.size_append]
          by_cases e : k = 0
          · rw [if_pos e]; simp only [whereL]; show _ + 7 ≤ _; omega
          · rw [if_neg e]; simp only [andL]; show _ + 5 ≤ _; omega
        rw [← hnb] at HNC hsn
        rw [← hib] at HIC hsn
        rw [← hgb] at sg hsn
        rw [← hb1] at hsn
        have z1 : (b1 ++ nb).size = b1.size + nb.size := ByteArray.size_append
        have z2 : (b1 ++ nb ++ ⟨#[32]⟩).size = b1.size + nb.size + 1 := by rw [ByteArray.size_append, z1]; rfl
        have z3 : (b1 ++ nb ++ ⟨#[32]⟩ ++ gb).size = b1.size + nb.size + 1 + gb.size := by rw [ByteArray.size_append, z2]
        have z4 : (b1 ++ nb ++ ⟨#[32]⟩ ++ gb ++ ⟨#[32]⟩).size = b1.size + nb.size + 1 + gb.size + 1 := by rw [ByteArray.size_append, z3]; rfl
        have HSN := hide hsn.symm
        have HB1E := hide hb1
        have HK0 : Hid ((k = 0 → b1 = b ++ ⟨#[32, 119, 104, 101, 114, 101, 32]⟩) ∧ (k ≠ 0 → b1 = b ++ ⟨#[32, 97, 110, 100, 32]⟩)) := ⟨fun e => by rw [HB1E.out, if_pos e]; rfl, fun e => by rw [HB1E.out, if_neg e]; rfl⟩
        have HQV := hide qv
        generalize x.sign = xs at *
        generalize x.field = xf at *
        generalize x.item.kind = xk at *
        generalize x.item.num = xn at *
        generalize x.item.text = xt at *
        generalize x.item.list.length = xl at *
        rw [← hV1] at v0 v1 v2 v3 v4 v5
        clear hsn hb1 hnb hib hgb hin hok hx hb hbl hbv qv yv hV1 hil hcnt hf1 HB1E HNX c0 c2 c3 c4
        subst hS
        go_upto_if 32 with fail
        go_cut [6] from 19 to 54 (fun v wx => v = .string b1 ∧ wx = V1)
        case first =>
          by_cases hk0 : k = 0
          · have hkI : ((k : Int) == 0) = true := by simp [hk0]
            have HE1 := hide (HK0.out.1 hk0)
            clear hk0 HK0 HSN
            go_wp2_with fail
            go_meet
            exact ⟨by rw [HE1.out], HV1.out⟩
          · have hkI : ((k : Int) == 0) = false := by simp [hk0]
            have HE1 := hide (HK0.out.2 hk0)
            clear hk0 HK0 HSN
            go_wp2_with fail
            go_meet
            exact ⟨by rw [HE1.out], HV1.out⟩
        case rest =>
          obtain ⟨rfl, hwc⟩ := hcut
          subst hwc
          rw [HV1.out] at v0 v1 v2 v3 v4 v5
          have j0 : (0 : Int) ≤ (S : Int) - 1 := by omega
          have j1 : (S : Int) - 1 < 5 := by omega
          have j2 : ((S : Int) - 1).toNat = S - 1 := by omega
          have jw : IntKind.i64.wrap ((S : Int) - 1) = (S : Int) - 1 := wrap_i64 _ (by omega) (by omega)
          have zz : (⟨#[32]⟩ : ByteArray).size = 1 := rfl
          have y1 : ¬ 9223372036854775807 < b1.size + nb.size := by omega
          have y2 : ¬ 9223372036854775807 < b1.size + nb.size + 1 := by omega
          have y3 : ¬ 9223372036854775807 < b1.size + nb.size + 1 + gb.size := by omega
          have y4 : ¬ 9223372036854775807 < b1.size + nb.size + 1 + gb.size + 1 := by omega
          have y5 : ¬ 9223372036854775807 < b1.size + nb.size + 1 + gb.size + 1 + ib.size := by omega
          have HG := hide (Below.refl wc.heap.size wc)
          clear HK0 s0 s1 s2 s3 s4 s5
          go_upto_region 13 with fail
          go_region_held3 (fun w' => w'.cell? ⟨wr.heap.size, 0, none⟩ = some (.string xf) ∧ w'.cell? ⟨wr.heap.size, 1, none⟩ = some (.int .i64 (S : Int)) ∧ w'.cell? ⟨wr.heap.size, 2, none⟩ = some (.int .i64 xk) ∧ w'.cell? ⟨wr.heap.size, 3, none⟩ = some (.int .i64 xn) ∧ w'.cell? ⟨wr.heap.size, 4, none⟩ = some (.string xt) ∧ w'.cell? ⟨wr.heap.size, 5, none⟩ = some (.slice ua xl uc) ∧ w'.cell? ⟨sb, S - 1, none⟩ = some (.string gb)) (go_keep)
            (first
              | (go_at_call 32; refine (HNC.out _).mono ?_; rintro e w6 ⟨rfl, hg⟩; have HGA : Hid (Below wc.heap.size wc w6) := Below.next HG.out ⟨hg.os, hg.tape, hg.output, hg.size, hg.block⟩; clear HG; have HG := HGA; have k0 := cell_below HG.out v0; have k1 := cell_below HG.out v1; have k2 := cell_below HG.out v2; have k3 := cell_below HG.out v3; have k4 := cell_below HG.out v4; have k5 := cell_below HG.out v5; have k6 := cell_below HG.out sg; clear hg)
              | (go_at_call 33; refine (HIC.out _ ?_).mono ?_; (first | exact HG.out | exact HG.out.drew | exact below_drewN' HG.out _); rintro e w7 ⟨rfl, hg⟩; have HGB : Hid (Below wc.heap.size wc w7) := Below.next HG.out ⟨hg.os, hg.tape, hg.output, hg.size, hg.block⟩; clear HG; have HG := HGB; have m0 := cell_below HG.out v0; have m1 := cell_below HG.out v1; have m2 := cell_below HG.out v2; have m3 := cell_below HG.out v3; have m4 := cell_below HG.out v4; have m5 := cell_below HG.out v5; have m6 := cell_below HG.out sg; clear hg))
          all_goals
            clear v0 v1 v2 v3 v4 v5 sg k0 k1 k2 k3 k4 k5 k6 m0 m1 m2 m3 m4 m5 m6 HNC HIC
            go_wp2_with fail
            go_roundw
            case rel => exact ⟨k + 1, b1 ++ nb ++ ⟨#[32]⟩ ++ gb ++ ⟨#[32]⟩ ++ ib, rfl, by go_num, HJ.out, HSN, Below.next HBV.out HG.out⟩
            case measure => simp [intOf]; omega
      · have hltI : ¬ (k : Int) < (l.length : Int) := by omega
        have HBE : Hid (b = ⟨(headL t l).toArray⟩) := by show _ = _; rw [hb.out, List.take_of_length_le (by omega)]
        have HON := hide (fun W => nameText_any o W (by have := HF.out.on; omega))
        obtain ⟨ob, hob⟩ : ∃ ob : ByteArray, ob = ⟨(nameL o).toArray⟩ := ⟨_, rfl⟩
        have hobs : ob.size ≤ 66 := by rw [hob]; exact nameL_len o HF.out.on
        rw [← hob] at HON
        obtain ⟨b2, hb2⟩ : ∃ b2 : ByteArray, b2 = b ++ ⟨(orderL ⟨t, l, o, f, m⟩).toArray⟩ := ⟨_, rfl⟩
        obtain ⟨b3, hb3⟩ : ∃ b3 : ByteArray, b3 = b2 ++ ⟨(fallL ⟨t, l, o, f, m⟩).toArray⟩ := ⟨_, rfl⟩
        obtain ⟨b4, hb4⟩ : ∃ b4 : ByteArray, b4 = b3 ++ ⟨(limitL ⟨t, l, o, f, m⟩).toArray⟩ := ⟨_, rfl⟩
        have HO1 : Hid (o = ⟨#[]⟩ → b2 = b) := fun e => by rw [hb2, orderL, if_pos e]; exact ByteArray.append_empty
        have HO2 : Hid (o ≠ ⟨#[]⟩ → b2 = b ++ ⟨#[32, 111, 114, 100, 101, 114, 32, 98, 121, 32]⟩ ++ ob) := fun e => by
          rw [hb2, orderL, if_neg e, hob, ← ba_app, ByteArray.append_assoc]
        have HF1 : Hid (f = false → b3 = b2) := fun e => by rw [hb3, fallL, if_neg (by simp [e])]; exact ByteArray.append_empty
        have HF2 : Hid (f = true → b3 = b2 ++ ⟨#[32, 102, 97, 108, 108, 105, 110, 103]⟩) := fun e => by rw [hb3, fallL, if_pos e]
        have HM1 : Hid (¬ 0 < m → b4 = b3) := fun e => by rw [hb4, limitL, if_neg e]; exact ByteArray.append_empty
        have HM2 : Hid (0 < m → b4 = b3 ++ ⟨#[32, 108, 105, 109, 105, 116, 32]⟩ ++ itoaB m) := fun e => by
          rw [hb4, limitL, if_pos e, ← ba_app, ByteArray.append_assoc]; rfl
        have HT : Hid (b4 = ⟨(textL ⟨t, l, o, f, m⟩).toArray⟩) := by
          show _ = _
          rw [hb4, hb3, hb2, HBE.out, ba_app, ba_app, ba_app]; rfl
        have hb2s : b2.size ≤ 1900000200 := by
          by_cases e : o = ⟨#[]⟩
          · rw [HO1.out e]; omega
          · rw [HO2.out e, ByteArray.size_append, ByteArray.size_append]; show b.size + 10 + ob.size ≤ _; omega
        have hb3s : b3.size ≤ 1900000300 := by
          by_cases e : f = true
          · rw [HF2.out e, ByteArray.size_append]; show b2.size + 8 ≤ _; omega
          · rw [HF1.out (by simpa using e)]; omega
        have his : (itoaB m).size ≤ 100 := by
          have h1 := Lib.itoa_length_le m hm1 hm2
          show (Lib.itoa m).length ≤ 100; omega
        have z1 : (b ++ ⟨#[32, 111, 114, 100, 101, 114, 32, 98, 121, 32]⟩ : ByteArray).size = b.size + 10 := by rw [ByteArray.size_append]; rfl
        have z2 : (b3 ++ ⟨#[32, 108, 105, 109, 105, 116, 32]⟩ : ByteArray).size = b3.size + 7 := by rw [ByteArray.size_append]; rfl
        obtain ⟨bo, hbo⟩ : ∃ bo, bo = decide (o = ⟨#[]⟩) := ⟨_, rfl⟩
        have HBO := hide hbo
        have hq : (o.toList == (⟨#[]⟩ : ByteArray).toList) = bo := by rw [hbo]; exact eq_empty o
        have hq2 : o.toList.isEmpty = bo := by
          rw [← hq]
          cases o.toList <;> simp
        have hq3 : (o.toList != (⟨#[]⟩ : ByteArray).toList) = !bo := by simp only [bne, hq]
        clear hbo
        clear hb hob hb2 hb3 hb4 HBE HTB hlt hk c0 c3 c4 HC4 HSZ HF hbl
        go_upto_if 57 with fail
        clear c1 hltI
        go_cut [6] (fun v wx => v = .string b2 ∧ Below wr.heap.size wr wx)
        case first =>
          cases bo with
          | true =>
            have HE := hide (HO1.out (of_decide_eq_true HBO.out.symm))
            clear HO1 HO2 HF1 HF2 HM1 HM2 HQ1 HQ2 HT HON HI4
            go_wp2_with fail
            go_meet
            exact ⟨by rw [HE.out], Below.refl _ _⟩
          | false =>
            have HE := hide (HO2.out (of_decide_eq_false HBO.out.symm))
            clear HO1 HO2 HF1 HF2 HM1 HM2 HQ1 HQ2 HT HI4
            go_wp2_with fail
            refine (HON.out _).mono ?_
            rintro e w5 ⟨rfl, hb5⟩
            have HB5 := hide hb5
            clear hb5 HON
            go_wp2_with fail
            go_meet
            exact ⟨by rw [HE.out], HB5.out⟩
        case rest =>
          obtain ⟨rfl, hb5⟩ := hcut
          have hb6 := Below.next HBL.out hb5
          have HB6 := hide hb6
          obtain ⟨c0, c1, c2', c3, c4⟩ := (HX4.out.below hb6).q5
          clear HO1 HO2 hb5 hb6 HON c0 c1 c2 c2' hobs z1 hbs hq hq2 hq3 HBO
          go_upto_if 65 with fail
          go_cut [6] (fun v wx => v = .string b3 ∧ wx = wc)
          case first =>
            cases f with
            | true =>
              have HE := hide (HF2.out rfl)
              clear HF1 HF2 HM1 HM2 HQ1 HQ2 HT HI4
              go_wp2_with fail
              go_meet
              exact ⟨by rw [HE.out], rfl⟩
            | false =>
              have HE := hide (HF1.out rfl)
              clear HF1 HF2 HM1 HM2 HQ1 HQ2 HT HI4
              go_wp2_with fail
              go_meet
              exact ⟨by rw [HE.out], rfl⟩
          case rest =>
            obtain ⟨rfl, hwc⟩ := hcut
            subst hwc
            clear HF1 HF2 c3 hb2s
            obtain ⟨bm, hbm⟩ : ∃ bm, bm = decide (0 < m) := ⟨_, rfl⟩
            have HBM := hide hbm
            have hd : decide (0 < m) = bm := hbm.symm
            clear hbm
            go_upto_if 70 with fail
            go_cut [6] (fun v wx => v = .string b4 ∧ Below wc.heap.size wc wx)
            case first =>
              cases bm with
              | true =>
                have HE := hide (HM2.out (of_decide_eq_true hd))
                have HIT := hide (HI4.out wc m HB6.out hm1 hm2)
                clear HM1 HM2 HQ1 HQ2 HT HI4
                go_wp2_with fail
                refine HIT.out.mono ?_
                rintro e w8 ⟨rfl, hb8⟩
                have HB8 := hide hb8
                clear hb8 HIT
                go_wp2_with fail
                go_meet
                exact ⟨by rw [HE.out], HB8.out⟩
              | false =>
                have HE := hide (HM1.out (of_decide_eq_false hd))
                clear HM1 HM2 HQ1 HQ2 HT HI4
                go_wp2_with fail
                go_meet
                exact ⟨by rw [HE.out], Below.refl _ _⟩
            case rest =>
              obtain ⟨rfl, hb8⟩ := hcut
              have HE9 := hide (Below.next HE4.out (Below.next HB6.out hb8))
              have hz : b4.size = (textL ⟨t, l, o, f, m⟩).length := by rw [HT.out]; rfl
              clear HM1 HM2 HI4 hd HBM hb8 c4
              by_cases hl : 65536 < (textL ⟨t, l, o, f, m⟩).length
              · have hzI : (65536 : Int) < (b4.size : Int) := by omega
                obtain ⟨rfl, rfl⟩ := HQ1.out hl
                clear HQ1 HQ2 HT hz hl
                go_wp2
                go_ret2
                exact ⟨rfl, HE9.out⟩
              · have hzI : ¬ (65536 : Int) < (b4.size : Int) := by omega
                obtain ⟨h1, rfl⟩ := HQ2.out hl
                have HR1 : Hid (rt = b4) := by show _ = _; rw [h1, HT.out]
                clear HQ1 HQ2 HT hz hl h1
                go_wp2
                go_ret2
                exact ⟨by rw [HR1.out]; rfl, HE9.out⟩
  · have h0I : ((qf : Int) != 0) = true := by simp; omega
    have h0J : ¬ ((qf : Int) = 0) := by omega
    obtain ⟨rfl, rfl⟩ := HP0.out h0
    have HE := hide (Below.next HB.out HB1.out)
    clear HP0 HP1 HP2 HFQ
    go_wp2
    go_ret2
    exact ⟨rfl, HE.out⟩
end Go.Proofs.YtddhjnfcbpookaaDoor
