import Derived.Test.YtageokjobbjddaaGreatDoorGRD
import Derived.Test.YtageokjobbjddaaGreatDoorOrd2
import Derived.Test.YtageokjobbjddaaGreatDoorGRE
namespace Go.Proofs.YtageokjobbjddaaGreatDoor
open Go.RowKit

def compF (a b : List It) : Nat := if packF a = 0 then packF b else packF a
def compV (a b : List It) : Int := if packF a = 0 ∧ packF b = 0 then cmpB (encL a) (encL b) else 0
theorem errOf_ne (aA aM : Addr) (f : Nat) (h : f ≠ 0) : ∃ aE, errOf aA aM f = .iface 166 (.pointer (some aE)) := by
  unfold errOf
  rw [if_neg h]
  split
  · exact ⟨aA, rfl⟩
  · exact ⟨aM, rfl⟩

end Go.Proofs.YtageokjobbjddaaGreatDoor

namespace Go.Proofs.YtageokjobbjddaaGreatDoor
open Go.RowKit

theorem less_cmp : ∀ (x y : List UInt8), Op.bytesLess x y = decide (cmpB x y = -1)
  | [], [] => by simp [Op.bytesLess, cmpB, Lib.compareBytes]
  | [], _ :: _ => by simp [Op.bytesLess, cmpB, Lib.compareBytes]
  | _ :: _, [] => by simp [Op.bytesLess, cmpB, Lib.compareBytes]
  | a :: x, b :: y => by
    have ih := less_cmp x y
    rw [cmpB_cons]
    simp only [Op.bytesLess, ih]
    by_cases h : a < b
    · simp [h]
    · by_cases h2 : b < a
      · have : (a == b) = false := by simp; intro e; rw [e] at h2; exact UInt8.lt_irrefl b h2
        simp [h, h2, this]
      · have : a = b := UInt8.le_antisymm (UInt8.not_lt.1 h2) (UInt8.not_lt.1 h)
        subst this
        simp [h]
theorem cmpB_values : ∀ (x y : List UInt8), cmpB x y = -1 ∨ cmpB x y = 0 ∨ cmpB x y = 1
  | [], [] => .inr (.inl rfl)
  | [], _ :: _ => .inl rfl
  | _ :: _, [] => .inr (.inr rfl)
  | a :: x, b :: y => by
    rw [cmpB_cons]
    split
    · exact .inl rfl
    · split
      · exact .inr (.inr rfl)
      · exact cmpB_values x y
theorem cmpFirst_take (f : It → It → Int) (a b : List It) (j : Nat) (ha : j < a.length) (hb : j < b.length) (h : cmpFirst f (a.take j) (b.take j) = 0) : cmpFirst f (a.take (j + 1)) (b.take (j + 1)) = f a[j] b[j] := by
  induction a generalizing b j with
  | nil => simp at ha
  | cons x r ih =>
    cases b with
    | nil => simp at hb
    | cons y q =>
      cases j with
      | zero => simp [cmpFirst, sgn_eq]; intro h; exact h.symm
      | succ j =>
        simp only [List.take_succ_cons, cmpFirst, List.getElem_cons_succ] at h ⊢
        split at h
        · rename_i h0
          rw [if_pos h0]; exact ih q j (by simpa using ha) (by simpa using hb) h
        · exact absurd h ‹_›
theorem cmpFirst_stop (f : It → It → Int) (a b : List It) (j : Nat) (ha : j < a.length) (hb : j < b.length) (h : cmpFirst f (a.take j) (b.take j) = 0) (hx : f a[j] b[j] ≠ 0) : cmpFirst f a b = f a[j] b[j] := by
  induction a generalizing b j with
  | nil => simp at ha
  | cons x r ih =>
    cases b with
    | nil => simp at hb
    | cons y q =>
      cases j with
      | zero => simp only [List.getElem_cons_zero] at hx ⊢; simp [cmpFirst, hx]
      | succ j =>
        simp only [List.take_succ_cons, cmpFirst, List.getElem_cons_succ] at h hx ⊢
        split at h
        · rename_i h0
          rw [if_pos h0]; exact ih q j (by simpa using ha) (by simpa using hb) h hx
        · exact absurd h ‹_›
theorem cmpFirst_end (f : It → It → Int) (a b : List It) (j : Nat) (hj : j = a.length ∨ j = b.length) (ha : j ≤ a.length) (hb : j ≤ b.length) (h : cmpFirst f (a.take j) (b.take j) = 0) : cmpFirst f a b = sgn a.length b.length := by
  induction a generalizing b j with
  | nil => cases b <;> rfl
  | cons x r ih =>
    cases b with
    | nil => rfl
    | cons y q =>
      cases j with
      | zero => simp at hj
      | succ j =>
        simp only [List.take_succ_cons, cmpFirst] at h ⊢
        split at h
        · rename_i h0
          rw [if_pos h0, ih q j (by simpa using hj) (by simpa using ha) (by simpa using hb) h]
          exact sgn_congr (by simp) (by simp)
        · exact absurd h ‹_›

theorem fault_each {l : List It} {rec : List It → Nat} (h : (if 16 < l.length then 3 else firstF (oneF rec) l) = 0) : ∀ x ∈ l, oneF rec x = 0 := by
  split at h
  · cases h
  · exact firstF_zero h
end Go.Proofs.YtageokjobbjddaaGreatDoor

namespace Go.Proofs.YtageokjobbjddaaGreatDoor
open Go.RowKit

/-! The document's Match. -/
theorem ItsAt.get {w : World} {F : Nat → Prop} {a : Option Addr} {n cap : Nat} {l : List It} (h : ItsAt w F (.slice a n cap) l) (i : Nat) (hi : i < l.length) : ∃ g off u, a = some ⟨g, off, none⟩ ∧ (l[i]'hi).Ok ∧ w.cell? ⟨g, off + i * 4, none⟩ = some (.int .i64 (l[i]'hi).kind) ∧ w.cell? ⟨g, off + i * 4 + 1, none⟩ = some (.int .i64 (l[i]'hi).num) ∧ w.cell? ⟨g, off + i * 4 + 2, none⟩ = some (.string (l[i]'hi).text) ∧ w.cell? ⟨g, off + i * 4 + 3, none⟩ = some u ∧ ItsAt w F u (l[i]'hi).list := by
  cases h with
  | mk a g off cap l vs hlen ha hok h0 h1 h2 h3 hin =>
    obtain ⟨rfl, -⟩ := ha (by omega)
    exact ⟨g, off, vs i, rfl, hok i hi, h0 i hi, h1 i hi, h2 i hi, h3 i hi, hin i hi⟩
def signB (s n : Int) : Bool := if s = 1 then (n == 0) else if s = 2 then decide (n < 0) else if s = 3 then decide (n ≤ 0) else if s = 4 then decide (0 < n) else decide (0 ≤ n)
def standsB (x : It) (c : Cd) : Bool := decide (x.kind = c.item.kind) && signB c.sign (cmpOne (cmpR 3) x c.item)
theorem pack_one {x : It} (h : packF [x] = 0) : oneF (faultR 3) x = 0 := by
  have h1 : faultR 4 [x] = 0 := by
    unfold packF at h
    by_cases e : faultR 4 [x] = 0
    · exact e
    · rw [if_neg e] at h; exact absurd h e
  exact fault_each (rec := faultR 3) h1 x (by simp)
end Go.Proofs.YtageokjobbjddaaGreatDoor

namespace Go.Proofs.YtageokjobbjddaaGreatDoor
open Go.RowKit

/-! Which fields are bound. -/
def bindsB (fs : List Fd) (n : Nat) (kind : Int) (c : Cd) : Bool := decide (c.sign = 1 ∧ fieldI fs c.field = (n : Int) ∧ (c.item.kind = 1 ∨ c.item.kind = kind))
def boundB (fs : List Fd) (cs : List Cd) (n : Int) : Bool := if h : 0 ≤ n ∧ n.toNat < fs.length then cs.any (bindsB fs n.toNat (fs[n.toNat]'h.2).2) else false
/-- A table's row: its name, fields and indexes. -/
abbrev tV (tn : ByteArray) (fv iv : Value) : Array Value := #[.string tn, fv, iv]
end Go.Proofs.YtageokjobbjddaaGreatDoor

namespace Go.Proofs.YtageokjobbjddaaGreatDoor
open Go.RowKit

def mcondF (fs : List Fd) (c : Cd) : Nat := if fieldI fs c.field < 0 then 6 else if 1 ≤ c.sign ∧ c.sign ≤ 5 then packF [c.item] else 1
def rowF (items : List It) : Nat := firstN (fun x => packF [x]) items
def holdB (fs : List Fd) (items : List It) (c : Cd) : Bool := standsB (items.getD (fieldI fs c.field).toNat default) c
def matchD (fs : List Fd) (items : List It) (cs : List Cd) : Bool × Nat :=
  if items.length = fs.length then (if firstN (mcondF fs) cs = 0 then (if rowF items = 0 then (cs.all (holdB fs items), 0) else (false, rowF items)) else (false, firstN (mcondF fs) cs)) else (false, 1)
theorem cntL_mem {l : List It} {x : It} (h : x ∈ l) : x.cnt ≤ cntL l := by
  induction l with
  | nil => simp at h
  | cons d l ih =>
    have e : cntL (d :: l) = cntL [d] + cntL l := by rw [← cntL_append]; rfl
    rw [e, cnt_one]
    rcases List.mem_cons.1 h with rfl | h
    · omega
    · have := ih h; omega
theorem enc_item {x : It} {l : List It} (h : x ∈ l) (hs : cntL l ≤ 16777216) : (encL [x]).length ≤ 100000000000000 := by
  have h1 := enc_le _ [x] (Nat.le_refl _)
  rw [cnt_one] at h1
  have := cntL_mem h
  omega
theorem fieldI_lt (l : List Fd) (name : ByteArray) : fieldI l name < (l.length : Int) := by
  unfold fieldI
  cases h : l.findIdx? (fun f => decide (f.1 = name)) with
  | none => simp only; omega
  | some i =>
    have := (List.findIdx?_eq_some_iff_getElem.1 h).1
    simp only; omega
end Go.Proofs.YtageokjobbjddaaGreatDoor

namespace Go.Proofs.YtageokjobbjddaaGreatDoor
open Go.RowKit

theorem ba_app (x y : List UInt8) : (⟨x.toArray⟩ : ByteArray) ++ ⟨y.toArray⟩ = ⟨(x ++ y).toArray⟩ := by
  apply ByteArray.ext
  rw [ByteArray.data_append]
  simp
theorem itemL_eq (x : It) : itemL x = if x.kind = 2 then (if x.num = 1 then [116, 114, 117, 101] else [102, 97, 108, 115, 101]) else if x.kind = 3 then Lib.itoa x.num else if x.kind = 4 then quotedL x.text else if x.kind = 5 then 91 :: (listL x.list ++ [93]) else [110, 117, 108, 108] := by
  cases x
  rw [itemL]
  rfl
theorem listL_len : ∀ (l : List It), (∀ y ∈ l, (itemL y).length + 2 ≤ 27 * y.cnt) → (listL l).length ≤ 27 * cntL l
  | [], _ => by simp [listL]
  | x :: l, h => by
    have hx := h x (by simp)
    have ht : ∀ (l : List It), (∀ y ∈ l, (itemL y).length + 2 ≤ 27 * y.cnt) → (tailL l).length ≤ 27 * cntL l := by
      intro l
      induction l with
      | nil => intro _; simp [tailL]
      | cons z l ih =>
        intro h
        have h1 := h z (by simp)
        have h2 := ih fun y hy => h y (by simp [hy])
        have e : cntL (z :: l) = cntL [z] + cntL l := by rw [← cntL_append]; rfl
        rw [e, cnt_one, tailL]
        simp only [List.length_cons, List.length_append]
        omega
    have h2 := ht l fun y hy => h y (by simp [hy])
    have e : cntL (x :: l) = cntL [x] + cntL l := by rw [← cntL_append]; rfl
    rw [e, cnt_one, listL, List.length_append]
    omega
theorem item_len (x : It) (hok : x.Ok) (h : ∀ y ∈ x.list, (itemL y).length + 2 ≤ 27 * y.cnt) : (itemL x).length + 2 ≤ 27 * x.cnt := by
  have hl := listL_len x.list h
  have hc := It.cnt_eq x
  have hi := Lib.itoa_length_le x.num hok.n1 hok.n2
  have hq : (quotedL x.text).length ≤ 4 * x.text.size + 2 := by
    have := quoL_len x.text.data.toList
    rw [q_len] at this
    unfold quotedL
    simp only [List.length_cons, List.length_append, List.length_nil]; omega
  rw [itemL_eq]
  split
  · split <;> (simp only [List.length_cons, List.length_nil]; omega)
  split
  · omega
  split
  · omega
  split
  · simp only [List.length_cons, List.length_append, List.length_nil]; omega
  · simp only [List.length_cons, List.length_nil]; omega
theorem its_len {w : World} {F : Nat → Prop} {v : Value} {l : List It} (h : ItsAt w F v l) : ∀ y ∈ l, (itemL y).length + 2 ≤ 27 * y.cnt := by
  induction h with
  | mk a g off cap l vs hlen ha hok h0 h1 h2 h3 hin ih =>
    intro y hy
    obtain ⟨i, hi, rfl⟩ := List.getElem_of_mem hy
    exact item_len _ (hok i hi) (ih i hi)
theorem cnt_take (l : List It) (j : Nat) : cntL (l.take j) ≤ cntL l := cntL_take_le l j
end Go.Proofs.YtageokjobbjddaaGreatDoor

namespace Go.Proofs.YtageokjobbjddaaGreatDoor
open Go.RowKit

/-! The document's Print. -/
def signL (s : Int) : List UInt8 := if s = 1 then [61] else if s = 2 then [60] else if s = 3 then [60, 61] else if s = 4 then [62] else [62, 61]
def condL (c : Cd) : List UInt8 := nameL c.field ++ [32] ++ signL c.sign ++ [32] ++ itemL c.item
def whereL : List UInt8 := [32, 119, 104, 101, 114, 101, 32]
def andL : List UInt8 := [32, 97, 110, 100, 32]
def condT : List Cd → List UInt8
  | [] => []
  | c :: l => andL ++ condL c ++ condT l
def condsL : List Cd → List UInt8
  | [] => []
  | c :: l => whereL ++ condL c ++ condT l
def orderL (q : Qd) : List UInt8 := if q.order = ⟨#[]⟩ then [] else [32, 111, 114, 100, 101, 114, 32, 98, 121, 32] ++ nameL q.order
def fallL (q : Qd) : List UInt8 := if q.falling = true then [32, 102, 97, 108, 108, 105, 110, 103] else []
def limitL (q : Qd) : List UInt8 := if 0 < q.limit then [32, 108, 105, 109, 105, 116, 32] ++ Lib.itoa q.limit else []
def textL (q : Qd) : List UInt8 := [102, 114, 111, 109, 32] ++ nameL q.table ++ condsL q.cs ++ orderL q ++ fallL q ++ limitL q
def printF (q : Qd) : Nat := if qfaultD q = 0 then (if 65536 < (textL q).length then 3 else 0) else qfaultD q
def printT (q : Qd) : ByteArray := if printF q = 0 then ⟨(textL q).toArray⟩ else ⟨#[]⟩
theorem condsL_snoc : ∀ (l : List Cd) (c : Cd), condsL (l ++ [c]) = condsL l ++ (if l = [] then whereL else andL) ++ condL c
  | [], c => by simp [condsL, condT]
  | d :: l, c => by
    have ht : ∀ (l : List Cd), condT (l ++ [c]) = condT l ++ (andL ++ condL c) := by
      intro l
      induction l with
      | nil => simp [condT]
      | cons z l ih => simp only [List.cons_append, condT, ih]; simp
    simp only [List.cons_append, condsL, ht]
    simp
theorem nameL_len (s : ByteArray) (h : s.size ≤ 32) : (nameL s).length ≤ 66 := by
  unfold nameL
  split
  · rw [q_len]; omega
  · have := qescL_len s.data.toList
    rw [q_len] at this
    simp only [List.length_cons, List.length_append, List.length_nil]; omega
theorem signL_len (s : Int) : (signL s).length ≤ 2 := by
  unfold signL
  split
  · simp
  split
  · simp
  split
  · simp
  split <;> simp
theorem isName_size {s : ByteArray} (h : isNameD s = true) : s.size ≤ 32 := by
  unfold isNameD at h
  rw [Bool.and_eq_true, decide_eq_true_eq] at h
  exact h.2.2
theorem condsL_len (l : List Cd) (h : ∀ c ∈ l, c.field.size ≤ 32 ∧ (itemL c.item).length ≤ 27 * c.item.cnt ∧ 1 ≤ c.item.cnt) : (condsL l).length ≤ 110 * cntC l := by
  have hc : ∀ c, c.field.size ≤ 32 → (itemL c.item).length ≤ 27 * c.item.cnt → (condL c).length ≤ 70 + 27 * c.item.cnt := fun c h1 h2 => by
    have := nameL_len c.field h1
    have := signL_len c.sign
    unfold condL
    simp only [List.length_append, List.length_cons, List.length_nil]; omega
  have ht : ∀ (l : List Cd), (∀ c ∈ l, c.field.size ≤ 32 ∧ (itemL c.item).length ≤ 27 * c.item.cnt ∧ 1 ≤ c.item.cnt) → (condT l).length ≤ 110 * cntC l := by
    intro l
    induction l with
    | nil => intro _; simp [condT]
    | cons z l ih =>
      intro h
      obtain ⟨a, b, d⟩ := h z (by simp)
      have h2 := ih fun y hy => h y (by simp [hy])
      have := hc z a b
      rw [condT, cntC]
      simp only [List.length_append, andL, List.length_cons, List.length_nil]; omega
  cases l with
  | nil => simp [condsL]
  | cons z l =>
    obtain ⟨a, b, d⟩ := h z (by simp)
    have h2 := ht l fun y hy => h y (by simp [hy])
    have := hc z a b
    rw [condsL, cntC]
    simp only [List.length_append, whereL, List.length_cons, List.length_nil]; omega
/-- The signs, in a row of the call's own. -/
def signR : Array Value := #[.string ⟨#[61]⟩, .string ⟨#[60]⟩, .string ⟨#[60, 61]⟩, .string ⟨#[62]⟩, .string ⟨#[62, 61]⟩]
theorem sign_cell {w : World} {b : Nat} {t : TypeId} (h : RowAt w b signR t) (s : Nat) (h1 : 1 ≤ s) (h5 : s ≤ 5) : w.cell? ⟨b, s - 1, none⟩ = some (.string ⟨(signL (s : Int)).toArray⟩) := by
  have : s = 1 ∨ s = 2 ∨ s = 3 ∨ s = 4 ∨ s = 5 := by omega
  rcases this with rfl | rfl | rfl | rfl | rfl
  · exact h.cell 0 (by simp [signR])
  · exact h.cell 1 (by simp [signR])
  · exact h.cell 2 (by simp [signR])
  · exact h.cell 3 (by simp [signR])
  · exact h.cell 4 (by simp [signR])
end Go.Proofs.YtageokjobbjddaaGreatDoor

namespace Go.Proofs.YtageokjobbjddaaGreatDoor
open Go.RowKit

theorem firstN_zero {α : Type} {f : α → Nat} : ∀ (l : List α), firstN f l = 0 → ∀ x ∈ l, f x = 0
  | [], _, x, hx => by simp at hx
  | y :: l, h, x, hx => by
    rw [firstN] at h
    split at h
    · rename_i h0
      rcases List.mem_cons.1 hx with rfl | hx
      · exact h0
      · exact firstN_zero l h x hx
    · rename_i h0
      exact absurd h h0
structure FineQ (t : ByteArray) (l : List Cd) (o : ByteArray) (m : Int) : Prop where
  tn : t.size ≤ 32
  on : o.size ≤ 32
  m0 : 0 ≤ m
  cs : ∀ c ∈ l, c.field.size ≤ 32 ∧ 1 ≤ c.sign ∧ c.sign ≤ 5
theorem fine_of {q : Qd} (h : qfaultD q = 0) : FineQ q.table q.cs q.order q.limit := by
  unfold qfaultD at h
  by_cases h1 : isNameD q.table = true
  · rw [if_pos h1] at h
    by_cases h2 : firstN condF q.cs = 0
    · rw [if_pos h2] at h
      have h3 : (q.order = ⟨#[]⟩ ∨ isNameD q.order = true) ∧ ¬ (q.falling = true ∧ q.order = ⟨#[]⟩) ∧ 0 ≤ q.limit := by
        unfold endF at h
        split at h
        · assumption
        · cases h
      refine ⟨isName_size h1, ?_, h3.2.2, fun c hc => ?_⟩
      · rcases h3.1 with e | e
        · rw [e]; decide
        · exact isName_size e
      · have hz := firstN_zero _ h2 c hc
        unfold condF at hz
        split at hz
        · rename_i h4
          exact ⟨isName_size h4.1, h4.2⟩
        · cases hz
    · rw [if_neg h2] at h
      exact absurd h h2
  · rw [if_neg h1] at h
    cases h
theorem cntC_take (l : List Cd) (k : Nat) : cntC (l.take k) ≤ cntC l := by
  have h : cntC (l.take k ++ l.drop k) = cntC l := by rw [List.take_append_drop]
  rw [cntC_append] at h
  omega
theorem conds_len {w : World} {v : Value} {l : List Cd} {t o : ByteArray} {m : Int} (h : CsAt w anyB v l) (hf : FineQ t l o m) (hs : cntC l ≤ 16777216) (k : Nat) : (condsL (l.take k)).length ≤ 1900000000 := by
  have h1 := condsL_len (l.take k) fun c hc => by
    have hm := List.mem_of_mem_take hc
    obtain ⟨i, hi, rfl⟩ := List.getElem_of_mem hm
    obtain ⟨a, cc, rfl⟩ := h.form
    obtain ⟨g, off, u, -, -, hok, -, -, -, -, -, -, hin⟩ := h.get i hi
    have h2 := item_len _ hok.it (its_len hin)
    have h3 := It.cnt_eq l[i].item
    exact ⟨(hf.cs _ hm).1, by omega, by omega⟩
  have h2 := cntC_take l k
  omega
theorem one_len {w : World} {v : Value} {l : List Cd} (h : CsAt w anyB v l) (hs : cntC l ≤ 16777216) (k : Nat) (hk : k < l.length) : (itemL (l[k]'hk).item).length ≤ 500000000 ∧ (l[k]'hk).item.cnt ≤ 16777216 := by
  obtain ⟨a, cc, rfl⟩ := h.form
  obtain ⟨g, off, u, -, -, hok, -, -, -, -, -, -, hin⟩ := h.get k hk
  have h2 := item_len _ hok.it (its_len hin)
  have h3 := cnt_mem (List.getElem_mem hk)
  omega
def fromL : List UInt8 := [102, 114, 111, 109, 32]
def headL (t : ByteArray) (l : List Cd) : List UInt8 := fromL ++ nameL t ++ condsL l
theorem headL_snoc (t : ByteArray) (l : List Cd) (k : Nat) (h : k < l.length) : (⟨(headL t (l.take (k + 1))).toArray⟩ : ByteArray) = ⟨(headL t (l.take k)).toArray⟩ ++ ⟨(if k = 0 then whereL else andL).toArray⟩ ++ ⟨(nameL (l[k]'h).field).toArray⟩ ++ ⟨#[32]⟩ ++ ⟨(signL (l[k]'h).sign).toArray⟩ ++ ⟨#[32]⟩ ++ ⟨(itemL (l[k]'h).item).toArray⟩ := by
  have e : (if l.take k = [] then whereL else andL) = if k = 0 then whereL else andL := by
    by_cases hk : k = 0
    · subst hk; simp
    · rw [if_neg hk, if_neg]
      intro e
      have := congrArg List.length e
      rw [List.length_take, List.length_nil] at this; omega
  unfold headL
  rw [List.take_succ_eq_append_getElem h, condsL_snoc, e, condL, show (⟨#[32]⟩ : ByteArray) = ⟨[(32 : UInt8)].toArray⟩ from rfl]
  simp only [ba_app, List.append_assoc]
end Go.Proofs.YtageokjobbjddaaGreatDoor
