import Derived.Test.YtnggkkfncaidnaaGreatDoorAppItem
import Derived.Test.YtnggkkfncaidnaaGreatDoorFault
import Derived.Test.YtnggkkfncaidnaaGreatDoorPack
import Derived.Test.YtnggkkfncaidnaaGreatDoorGRB
import Derived.Test.YtnggkkfncaidnaaGreatDoorGRC
namespace Go.Proofs.YtnggkkfncaidnaaGreatDoor
open Go.RowKit

end Go.Proofs.YtnggkkfncaidnaaGreatDoor

namespace Go.Proofs.YtnggkkfncaidnaaGreatDoor
open Go.RowKit

theorem cells_news {w : World} {base g n c : Nat} {o : List UInt8} (h : w.ownsRow base 5 1 (.slice (some ⟨g, 0, none⟩) n c) o.length (u8s o)) : ∀ j u, (u8s o)[j]? = some u → w.cell? ((⟨g, 0, none⟩ : Addr).add j) = some u := fun j u hu => by
  have hj : j < o.length := by
    rcases Nat.lt_or_ge j o.length with h' | h'
    · exact h'
    · rw [List.getElem?_eq_none (by rw [u8s_length]; exact h')] at hu; cases hu
  have hn : n = o.length := by
    rcases h.2 with ⟨h', _⟩ | ⟨_, _, _, h', _⟩
    · cases h'
    · cases h'; rfl
  subst hn
  have := h.cellAt j (by omega)
  rw [hu] at this
  rw [show (⟨g, 0, none⟩ : Addr).add j = ⟨g, j, none⟩ by unfold Addr.add; split <;> simp_all]
  exact this
theorem pushed0 {base : Nat} {wr w1 : World} {o es : List UInt8} {v v' : Value} (hb : base ≤ wr.heap.size) (hown : wr.ownsRow base 5 1 v o.length (u8s o))
    (hown' : w1.ownsRow base 5 1 v' (o.length + es.length) (u8s o ++ u8s es)) (hgrow : wr.grownBy w1 v.ownBlock) : w1.ownsRow base 5 1 v' (o ++ es).length (u8s (o ++ es)) ∧ Below base wr w1 := by
  refine ⟨by rw [u8s_append, List.length_append]; exact hown', ?_⟩
  exact (Below.refl base wr).grown hgrow hb (fun k hk => (hown.lt k hk).1)
theorem own_lit (w : World) (base : Nat) (c : UInt8) (H : Nat) (hb : base ≤ H) (hH : w.heap.size = H) : (w.alloc (.cells #[.int .u8 (c.toNat : Int)] 5)).ownsRow base 5 1 (.slice (some ⟨H, 0, none⟩) 1 1) [c].length (u8s [c]) := by
  subst hH
  exact ⟨rfl, .inr ⟨w.heap.size, 1, _, rfl, hb, heap_alloc_new w _, Nat.le_refl _, by unfold maxLen; decide, rfl, rfl⟩⟩

theorem enc_pos (x : It) : 0 < x.enc.length := by rw [x.enc_eq]; simp
theorem encL_pos (l : List It) (h : l ≠ []) : 0 < (encL l).length := by
  cases l with
  | nil => exact absurd rfl h
  | cons x r => simp only [encL, List.length_append]; have := enc_pos x; omega

end Go.Proofs.YtnggkkfncaidnaaGreatDoor

namespace Go.Proofs.YtnggkkfncaidnaaGreatDoor
open Go.RowKit

theorem ret_i64 {a b : Int} (h : a = b) : Ending.returned (.int .i64 a) = .returned (.int .i64 b) := by rw [h]
end Go.Proofs.YtnggkkfncaidnaaGreatDoor

namespace Go.Proofs.YtnggkkfncaidnaaGreatDoor
open Go.RowKit

theorem faultR_kinds (r : Nat) : ∀ l, faultR r l = 0 ∨ faultR r l = 1 ∨ faultR r l = 3 := by
  have first : ∀ (f : It → Nat), (∀ x, f x = 0 ∨ f x = 1 ∨ f x = 3) → ∀ l, firstF f l = 0 ∨ firstF f l = 1 ∨ firstF f l = 3 := by
    intro f hf l
    induction l with
    | nil => exact .inl rfl
    | cons x r ih =>
      simp only [firstF]
      split
      · exact ih
      · exact hf x
  have one : ∀ (rec : List It → Nat), (∀ l, rec l = 0 ∨ rec l = 1 ∨ rec l = 3) → ∀ x, oneF rec x = 0 ∨ oneF rec x = 1 ∨ oneF rec x = 3 := by
    intro rec hr x
    unfold oneF
    split
    · exact .inr (.inl rfl)
    · split
      · exact hr _
      · exact .inl rfl
  induction r with
  | zero =>
    intro l
    simp only [faultR]
    split
    · exact .inr (.inr rfl)
    · exact first _ (one _ fun _ => .inr (.inr rfl)) l
  | succ r ih =>
    intro l
    simp only [faultR]
    split
    · exact .inr (.inr rfl)
    · exact first _ (one _ ih) l
theorem packF_kinds (l : List It) : packF l = 0 ∨ packF l = 1 ∨ packF l = 3 := by
  unfold packF
  split
  · split
    · exact .inr (.inr rfl)
    · exact .inl rfl
  · exact faultR_kinds 4 l

/-- A list that may be, but for its text, has a text that a machine can hold if its parts were counted. -/
theorem enc_le (k : Nat) : ∀ l : List It, SizeOf.sizeOf l ≤ k → (encL l).length ≤ 12 * cntL l := by
  induction k with
  | zero => intro l h; cases l <;> simp at h
  | succ k ih =>
    intro l
    induction l with
    | nil => intro _; simp [encL]
    | cons x r ihr =>
      intro h
      have h1 : SizeOf.sizeOf (x :: r) = 1 + SizeOf.sizeOf x + SizeOf.sizeOf r := rfl
      have h2 := It.list_lt x
      have hx := ih x.list (by omega)
      have hr := ihr (by omega)
      simp only [encL, cntL, List.length_append, It.cnt_eq, It.enc_eq, List.length_cons]
      have hesc : (encT x.text.data.toList).length ≤ 2 * x.text.size + 2 := by
        have : ∀ t : List UInt8, (escL t).length ≤ 2 * t.length := by
          intro t
          induction t with
          | nil => simp [escL]
          | cons c r ih =>
            have e : escL (c :: r) = (if c = 0 then [0, 255] else [c]) ++ escL r := by simp [escL]
            rw [e, List.length_append, List.length_cons]
            split <;> simp <;> omega
        have h := this x.text.data.toList
        unfold encT
        rw [List.length_append]
        simp only [List.length_cons, List.length_nil]
        have e : x.text.data.toList.length = x.text.size := by simp
        omega
      have hb : (bodyOf x.kind x.num x.text.data.toList (encL x.list)).length ≤ 8 + (2 * x.text.size + 2) + ((encL x.list).length + 1) := by
        unfold bodyOf
        split
        · simp only [List.length_cons, List.length_nil]; omega
        · split
          · simp [num8, be8]; omega
          · split
            · omega
            · split
              · rw [List.length_append]; simp only [List.length_cons, List.length_nil]; omega
              · simp
      omega

end Go.Proofs.YtnggkkfncaidnaaGreatDoor

namespace Go.Proofs.YtnggkkfncaidnaaGreatDoor
open Go.RowKit

/-! The document's own side: names, fields, the fault of a query. -/
theorem q_snoc (s : ByteArray) (k : Nat) (h : k < s.size) : s.data.toList.take (k + 1) = s.data.toList.take k ++ [s[k]] := by
  rw [List.take_succ_eq_append_getElem (by simpa using h)]; rfl
theorem q_len (s : ByteArray) : s.data.toList.length = s.size := by simp
def nameB (c : UInt8) : Bool := decide (33 ≤ c.toNat ∧ c.toNat ≤ 126)
def isNameD (s : ByteArray) : Bool := s.data.toList.all nameB && decide (1 ≤ s.size ∧ s.size ≤ 32)
theorem all_stop {p : UInt8 → Bool} (s : ByteArray) (k : Nat) (h : k < s.size) (hp : p s[k] = false) : s.data.toList.all p = false := by
  rw [List.all_eq_false]
  exact ⟨s[k], by have := List.getElem_mem (l := s.data.toList) (n := k) (by simpa using h); exact this, by simp [hp]⟩
end Go.Proofs.YtnggkkfncaidnaaGreatDoor

namespace Go.Proofs.YtnggkkfncaidnaaGreatDoor
open Go.RowKit

/-- A field as plain data: its name, its kind. -/
abbrev Fd := ByteArray × Int
/-- The slice value v reads as the fields l. -/
def FsAt (w : World) (v : Value) (l : List Fd) : Prop :=
  ∃ (a : Option Addr) (g off cap : Nat), v = .slice a l.length cap ∧ l.length ≤ 17592186044416 ∧ (0 < l.length → a = some ⟨g, off, none⟩) ∧
    ∀ i (h : i < l.length), w.cell? ⟨g, off + i * 2, none⟩ = some (.string l[i].1) ∧ w.cell? ⟨g, off + i * 2 + 1, none⟩ = some (.int .i64 l[i].2)
theorem FsAt.form {w : World} {v : Value} {l : List Fd} (h : FsAt w v l) : ∃ a c, v = .slice a l.length c := by
  obtain ⟨a, g, off, cap, h, _⟩ := h
  exact ⟨a, cap, h⟩
theorem FsAt.len {w : World} {v : Value} {l : List Fd} (h : FsAt w v l) : l.length ≤ 17592186044416 := by
  obtain ⟨a, g, off, cap, _, h, _⟩ := h
  exact h
theorem FsAt.keep {w w' : World} {v : Value} {l : List Fd} (h : FsAt w v l) (hb : Below w.heap.size w w') : FsAt w' v l := by
  obtain ⟨a, g, off, cap, h1, h2, h3, h4⟩ := h
  exact ⟨a, g, off, cap, h1, h2, h3, fun i hi => ⟨cell_below hb (h4 i hi).1, cell_below hb (h4 i hi).2⟩⟩
theorem FsAt.get {w : World} {a : Option Addr} {n cap : Nat} {l : List Fd} (h : FsAt w (.slice a n cap) l) (i : Nat) (hi : i < l.length) : ∃ g off, a = some ⟨g, off, none⟩ ∧ w.cell? ⟨g, off + i * 2, none⟩ = some (.string l[i].1) ∧ w.cell? ⟨g, off + i * 2 + 1, none⟩ = some (.int .i64 l[i].2) := by
  obtain ⟨a', g, off, cap', h1, h2, h3, h4⟩ := h
  cases h1
  obtain rfl := h3 (by omega)
  exact ⟨g, off, rfl, h4 i hi⟩
/-- The number of the first field of that name; -1: there is none. -/
def fieldI (l : List Fd) (name : ByteArray) : Int :=
  match l.findIdx? (fun f => decide (f.1 = name)) with
  | some i => i
  | none => -1
theorem fieldI_at (l : List Fd) (name : ByteArray) (k : Nat) (hk : k < l.length) (h0 : ∀ j (h : j < l.length), j < k → l[j].1 ≠ name) (h : l[k].1 = name) : fieldI l name = (k : Int) := by
  have : l.findIdx? (fun f => decide (f.1 = name)) = some k := by
    rw [List.findIdx?_eq_some_iff_getElem]
    exact ⟨hk, by simp [h], fun j hj => by simp [h0 j (by omega) hj]⟩
  unfold fieldI
  rw [this]
theorem fieldI_none (l : List Fd) (name : ByteArray) (h0 : ∀ j (h : j < l.length), l[j].1 ≠ name) : fieldI l name = -1 := by
  have : l.findIdx? (fun f => decide (f.1 = name)) = none := by
    rw [List.findIdx?_eq_none_iff]
    intro x hx
    obtain ⟨j, hj, rfl⟩ := List.getElem_of_mem hx
    simp [h0 j hj]
  unfold fieldI
  rw [this]
theorem str_ne {a b : ByteArray} (h : a ≠ b) : (a.toList == b.toList) = false := by
  cases hb : (a.toList == b.toList) with
  | false => rfl
  | true => exact absurd ((string_eq_iff a b).1 hb) h
theorem str_eq (a : ByteArray) : (a.toList == a.toList) = true := (string_eq_iff a a).2 rfl
end Go.Proofs.YtnggkkfncaidnaaGreatDoor

namespace Go.Proofs.YtnggkkfncaidnaaGreatDoor
open Go.RowKit

/-! The fault of a query. -/
def firstN {α : Type} (f : α → Nat) : List α → Nat
  | [] => 0
  | x :: r => if f x = 0 then firstN f r else f x
theorem firstN_all {α : Type} {f : α → Nat} : ∀ (l : List α), (∀ x ∈ l, f x = 0) → firstN f l = 0
  | [], _ => rfl
  | x :: r, h => by rw [firstN, if_pos (h x (by simp))]; exact firstN_all r fun y hy => h y (by simp [hy])
theorem firstN_at {α : Type} {f : α → Nat} : ∀ (l : List α) (k : Nat) (hk : k < l.length), (∀ j (h : j < l.length), j < k → f l[j] = 0) → f l[k] ≠ 0 → firstN f l = f l[k]
  | x :: r, 0, _, _, h => by
    have h : f x ≠ 0 := h
    rw [firstN, if_neg h]; rfl
  | x :: r, k + 1, hk, h0, h => by
    have hz : f x = 0 := h0 0 (by simp) (by omega)
    rw [firstN, if_pos hz]
    exact firstN_at r k (by simpa using hk) (fun j hj hjk => h0 (j + 1) (by simpa using hj) (by omega)) h
theorem firstN_take {α : Type} {f : α → Nat} (l : List α) (h : ∀ j (h : j < l.length), f l[j] = 0) : firstN f l = 0 := firstN_all l fun x hx => by
  obtain ⟨j, hj, rfl⟩ := List.getElem_of_mem hx
  exact h j hj
def emptyB (s : ByteArray) : Bool := decide (s = ⟨#[]⟩)
def condF (c : Cd) : Nat := if isNameD c.field = true ∧ 1 ≤ c.sign ∧ c.sign ≤ 5 then packF [c.item] else 1
def endF (q : Qd) : Nat := if (q.order = ⟨#[]⟩ ∨ isNameD q.order = true) ∧ ¬ (q.falling = true ∧ q.order = ⟨#[]⟩) ∧ 0 ≤ q.limit then 0 else 1
def qfaultD (q : Qd) : Nat := if isNameD q.table = true then (if firstN condF q.cs = 0 then endF q else firstN condF q.cs) else 1
theorem cnt_mem {l : List Cd} {c : Cd} (h : c ∈ l) : c.field.size + c.item.cnt ≤ cntC l := by
  induction l with
  | nil => simp at h
  | cons d l ih =>
    rw [cntC]
    rcases List.mem_cons.1 h with rfl | h
    · omega
    · have := ih h; omega
theorem enc_one {c : Cd} {l : List Cd} (h : c ∈ l) (hs : cntC l ≤ 16777216) : (encL [c.item]).length ≤ 100000000000000 := by
  have h1 := enc_le _ [c.item] (Nat.le_refl _)
  rw [cnt_one] at h1
  have := cnt_mem h
  omega
theorem eq_empty (s : ByteArray) : (s.toList == (⟨#[]⟩ : ByteArray).toList) = decide (s = ⟨#[]⟩) := by
  by_cases h : s = ⟨#[]⟩
  · subst h; rw [str_eq]; simp
  · rw [str_ne h, decide_eq_false h]
end Go.Proofs.YtnggkkfncaidnaaGreatDoor
