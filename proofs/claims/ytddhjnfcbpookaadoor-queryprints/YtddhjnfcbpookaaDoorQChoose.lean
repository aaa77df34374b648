import Derived.Test.YtddhjnfcbpookaaDoorQBound
namespace Go.Proofs.YtddhjnfcbpookaaDoor
open Go.RowKit

/-! The document's Choose. -/
def InsAt (w : World) (v : Value) (l : List Int) : Prop :=
  ∃ (a : Option Addr) (g off cap : Nat), v = .slice a l.length cap ∧ l.length ≤ 17592186044416 ∧ (0 < l.length → a = some ⟨g, off, none⟩) ∧ ∀ i (h : i < l.length), w.cell? ⟨g, off + i, none⟩ = some (.int .i64 l[i])
def IxsAt (w : World) (v : Value) (l : List (List Int)) : Prop :=
  ∃ (a : Option Addr) (g off cap : Nat) (vs : Nat → Value), v = .slice a l.length cap ∧ l.length ≤ 17592186044416 ∧ (0 < l.length → a = some ⟨g, off, none⟩) ∧ ∀ i (h : i < l.length), w.cell? ⟨g, off + i, none⟩ = some (vs i) ∧ InsAt w (vs i) l[i]
theorem InsAt.keep {w w' : World} {v : Value} {l : List Int} (h : InsAt w v l) (hb : Below w.heap.size w w') : InsAt w' v l := by
  obtain ⟨a, g, off, cap, h1, h2, h3, h4⟩ := h
  exact ⟨a, g, off, cap, h1, h2, h3, fun i hi => cell_below hb (h4 i hi)⟩
theorem IxsAt.keep {w w' : World} {v : Value} {l : List (List Int)} (h : IxsAt w v l) (hb : Below w.heap.size w w') : IxsAt w' v l := by
  obtain ⟨a, g, off, cap, vs, h1, h2, h3, h4⟩ := h
  exact ⟨a, g, off, cap, vs, h1, h2, h3, fun i hi => ⟨cell_below hb (h4 i hi).1, (h4 i hi).2.keep hb⟩⟩
theorem IxsAt.form {w : World} {v : Value} {l : List (List Int)} (h : IxsAt w v l) : ∃ a c, v = .slice a l.length c := by
  obtain ⟨a, g, off, cap, vs, h, _⟩ := h
  exact ⟨a, cap, h⟩
theorem IxsAt.len {w : World} {v : Value} {l : List (List Int)} (h : IxsAt w v l) : l.length ≤ 17592186044416 := by
  obtain ⟨a, g, off, cap, vs, _, h, _⟩ := h
  exact h
theorem InsAt.form {w : World} {v : Value} {l : List Int} (h : InsAt w v l) : ∃ a c, v = .slice a l.length c := by
  obtain ⟨a, g, off, cap, h, _⟩ := h
  exact ⟨a, cap, h⟩
theorem IxsAt.get {w : World} {a : Option Addr} {n cap : Nat} {l : List (List Int)} (h : IxsAt w (.slice a n cap) l) (i : Nat) (hi : i < l.length) : ∃ g off u, a = some ⟨g, off, none⟩ ∧ w.cell? ⟨g, off + i, none⟩ = some u ∧ InsAt w u (l[i]'hi) := by
  obtain ⟨a', g, off, cap', vs, h1, h2, h3, h4⟩ := h
  cases h1
  obtain rfl := h3 (by omega)
  exact ⟨g, off, vs i, rfl, h4 i hi⟩
theorem InsAt.get {w : World} {a : Option Addr} {n cap : Nat} {l : List Int} (h : InsAt w (.slice a n cap) l) (i : Nat) (hi : i < l.length) : ∃ g off, a = some ⟨g, off, none⟩ ∧ w.cell? ⟨g, off + i, none⟩ = some (.int .i64 (l[i]'hi)) := by
  obtain ⟨a', g, off, cap', h1, h2, h3, h4⟩ := h
  cases h1
  obtain rfl := h3 (by omega)
  exact ⟨g, off, rfl, h4 i hi⟩
def lead (fs : List Fd) (cs : List Cd) (ix : List Int) : Nat := (ix.takeWhile (boundB fs cs)).length
def bestP (fs : List Fd) (cs : List Cd) : List (List Int) → Nat → Int × Int → Int × Int
  | [], _, p => p
  | ix :: r, i, p => bestP fs cs r (i + 1) (if p.2 < (lead fs cs ix : Int) then ((i : Int), (lead fs cs ix : Int)) else p)
def lostB (fs : List Fd) (q : Qd) : Bool := q.cs.any (fun c => decide (fieldI fs c.field < 0)) || (decide (q.order ≠ ⟨#[]⟩) && decide (fieldI fs q.order < 0))
def chooseD (tn : ByteArray) (fs : List Fd) (ixs : List (List Int)) (q : Qd) : (Int × Int) × Nat :=
  if q.table = tn then (if qfaultD q = 0 then (if lostB fs q = true then ((0, 0), 6) else (bestP fs q.cs ixs 0 (-1, 0), 0)) else ((0, 0), qfaultD q)) else ((0, 0), 1)
theorem lead_stop (fs : List Fd) (cs : List Cd) (ix : List Int) (k : Nat) (hk : k ≤ ix.length) (h0 : ∀ j (h : j < ix.length), j < k → boundB fs cs ix[j] = true) (h : ∀ h : k < ix.length, boundB fs cs ix[k] = false) : lead fs cs ix = k := by
  unfold lead
  have h1 : (ix.take k).all (boundB fs cs) = true := by
    rw [List.all_eq_true]
    intro x hx
    obtain ⟨j, hj, rfl⟩ := List.getElem_of_mem hx
    rw [List.length_take] at hj
    rw [List.getElem_take]
    exact h0 j (by omega) (by omega)
  have h2 : ix.takeWhile (boundB fs cs) = ix.take k := by
    rw [← List.take_append_drop k ix, List.takeWhile_append_of_pos (by simpa using h1)]
    by_cases hl : k < ix.length
    · rw [List.drop_eq_getElem_cons hl, List.takeWhile_cons, h hl]
      simp
    · rw [List.drop_eq_nil_of_le (by omega)]
      simp [List.take_take]
  rw [h2, List.length_take]
  omega
theorem bestP_drop (fs : List Fd) (cs : List Cd) (l : List (List Int)) (i : Nat) (hi : i < l.length) (p : Int × Int) : bestP fs cs (l.drop i) i p = bestP fs cs (l.drop (i + 1)) (i + 1) (if p.2 < (lead fs cs (l[i]'hi) : Int) then ((i : Int), (lead fs cs (l[i]'hi) : Int)) else p) := by
  rw [List.drop_eq_getElem_cons hi, bestP]
end Go.Proofs.YtddhjnfcbpookaaDoor
