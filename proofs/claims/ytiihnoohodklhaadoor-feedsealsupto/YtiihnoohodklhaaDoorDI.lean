import Derived.Test.YtiihnoohodklhaaDoorDF
import Derived.Test.YtiihnoohodklhaaDoorDRng
import Derived.Deep.DeepCutAuto
import Derived.Deep.CutBlock
import Derived.Deep.RegionHeld3
import Derived.Test.YtiihnoohodklhaaDoorPClone
namespace Go.Proofs.YtiihnoohodklhaaDoor
open Go.RowKit
attribute [local go_sem ↓] Go.wp_at_zero Go.wp_at_succ
/-- Where the element of number p lies. -/
def adr (st : Nat) (a : Option Addr) (p : Nat) : Option Addr := match a with
  | some ⟨g, o, _⟩ => some ⟨g, o + p * st, none⟩
  | none => none
/-- Where a list begins behind its first p elements. -/
def AtP (st : Nat) (a : Option Addr) (n p : Nat) (a' : Option Addr) : Prop := (p < n → a' = adr st a p) ∧ (a' = none → a = none)
theorem AtP.zero {st : Nat} {a : Option Addr} {n : Nat} (h : 0 < n → ∃ g o, a = some ⟨g, o, none⟩) : AtP st a n 0 a := by
  refine ⟨fun hn => ?_, id⟩
  obtain ⟨g, o, rfl⟩ := h hn
  simp [adr]
theorem AtP.next {st g o n c p : Nat} (hc : n ≤ c) : AtP st (some ⟨g, o, none⟩) n (p + 1) (nxA st g (o + p * st) (c - p)) := by
  refine ⟨fun hn => ?_, fun h => ?_⟩
  · rw [nxA, if_neg (by omega)]
    simp only [adr]
    rw [Nat.add_mul, Nat.one_mul, Nat.add_assoc]
  · unfold nxA at h
    split at h <;> cases h
def ptrIf (st : Nat) (t : Bool) (a : Option Addr) (p : Nat) : Value := .pointer (if t then adr st a p else none)
theorem KeyR.drop {st : Nat} {w : World} {a : Option Addr} {n c : Nat} {ks : List ByteArray} {p : Nat} {a' : Option Addr} (h : KeyR st w (.slice a n c) ks) (hp : p ≤ n) (ha : AtP st a n p a') : KeyR st w (.slice a' (n - p) (c - p)) (ks.drop p) := by
  obtain ⟨b, cap, he, hle, hn, hc⟩ := h
  cases he
  refine ⟨a', c - p, by simp, by simp; omega, fun h => by have := hn (ha.2 h); omega, fun j hj => ?_⟩
  have hj' : p + j < ks.length := by simp at hj; omega
  obtain ⟨g, o, rfl, h1⟩ := hc (p + j) hj'
  refine ⟨g, o + p * st, ha.1 (by omega), ?_⟩
  rw [List.getElem_drop, Nat.add_assoc, ← Nat.add_mul]
  exact h1
theorem KeyR.len {st : Nat} {w : World} {a : Option Addr} {n c : Nat} {ks : List ByteArray} (h : KeyR st w (.slice a n c) ks) : n = ks.length ∧ ks.length ≤ c ∧ (0 < n → ∃ g o, a = some ⟨g, o, none⟩) := by
  obtain ⟨b, cap, he, hle, hn, hc⟩ := h
  cases he
  exact ⟨rfl, hle, fun h => by obtain ⟨g, o, rfl, _⟩ := hc 0 h; exact ⟨g, o, rfl⟩⟩
def lenAt (b : Nat) (W : World) : Nat := match W.cell? ⟨b, 0, none⟩ with
  | some (.slice _ n _) => n
  | _ => 0
def leftW (b b' : Nat) (W : World) : Nat := lenAt b W + lenAt b' W
theorem leftW_eq {b b' n n' c c' : Nat} {a a' : Option Addr} {W : World} (h : W.cell? ⟨b, 0, none⟩ = some (.slice a n c)) (h' : W.cell? ⟨b', 0, none⟩ = some (.slice a' n' c')) : leftW b b' W = n + n' := by
  simp [leftW, lenAt, h, h']
def turnA (ka kb : List ByteArray) (s : Nat × Nat) : Bool := turnK (ka.drop s.1) (kb.drop s.2)
def turnB (ka kb : List ByteArray) (s : Nat × Nat) : Bool := turnK (kb.drop s.2) (ka.drop s.1)
def nxS (ka kb : List ByteArray) (s : Nat × Nat) : Nat × Nat := (s.1 + (turnA ka kb s).toNat, s.2 + (turnB ka kb s).toNat)
def moreS (ka kb : List ByteArray) (s : Nat × Nat) : Prop := s.1 < ka.length ∨ s.2 < kb.length
def encsS (sx sy : Nat) (a1 a2 : Option Addr) (ka kb : List ByteArray) (s : Nat × Nat) : Array Value := #[ptrIf sx (turnA ka kb s) a1 s.1, ptrIf sy (turnB ka kb s) a2 s.2]
theorem turnK_some {ks ms : List ByteArray} (h : turnK ks ms = true) : 0 < ks.length := by cases ks <;> simp_all [turnK]
theorem turnK_one {ks ms : List ByteArray} (h : 0 < ks.length ∨ 0 < ms.length) : turnK ks ms = true ∨ turnK ms ks = true := by
  cases ks with
  | nil => cases ms <;> simp_all [turnK]
  | cons k ks => cases ms with
    | nil => simp [turnK]
    | cons m ms =>
      simp only [turnK]
      cases h1 : ltK m k with
      | false => simp
      | true => right; have : ltK k m = false := ltK_asymm h1; simp [this]
/-- A block of two cells. -/
def row2 (W : World) (b : Nat) (x y : Value) (t : TypeId) : Prop := W.heap[b]? = some (.cells #[x, y] t (0, 0))
theorem row2.bel {W W' : World} {b : Nat} {x y : Value} {t : TypeId} (h : row2 W b x y t) (hb : Below W.heap.size W W') : row2 W' b x y t := (hb.block b (Array.getElem?_eq_some_iff.1 h).1).trans h
theorem row2.c0 {W : World} {b : Nat} {x y : Value} {t : TypeId} (h : row2 W b x y t) : W.cell? ⟨b, 0, none⟩ = some x := by rw [cell_of_row W b 0 _ _ _ h]; rfl
theorem row2.c1 {W : World} {b : Nat} {x y : Value} {t : TypeId} (h : row2 W b x y t) : W.cell? ⟨b, 1, none⟩ = some y := by rw [cell_of_row W b 1 _ _ _ h]; rfl
theorem row2.new (W : World) (x y : Value) (t : TypeId) : row2 (W.alloc (.cells #[x, y] t)) W.heap.size x y t := World.alloc_heap_new W _
theorem row2.set0 {W : World} {b : Nat} {x y : Value} {t : TypeId} (h : row2 W b x y t) (v : Value) : row2 (W.setCell ⟨b, 0, none⟩ v) b v y t := by
  have := Go.heap_setCell_same W b 0 _ t v h
  exact this
theorem row2.set1 {W : World} {b : Nat} {x y : Value} {t : TypeId} (h : row2 W b x y t) (v : Value) : row2 (W.setCell ⟨b, 1, none⟩ v) b x v t := by
  have := Go.heap_setCell_same W b 1 _ t v h
  exact this
theorem row2.oth {W : World} {b : Nat} {x y : Value} {t : TypeId} (h : row2 W b x y t) {c : Nat} (hne : b ≠ c) (k : Nat) (v : Value) : row2 (W.setCell ⟨c, k, none⟩ v) b x y t := (Below.heap_setCell W _ v b hne).trans h
/-- The state of the iterator's loop. -/
structure ItS (sx sy : Nat) (kx ky : Value) (tx ty : TypeId) (w0 : World) (B b b' : Nat) (a1 : Option Addr) (n1 c1 : Nat) (a2 : Option Addr) (n2 c2 : Nat) (p q : Nat) (W : World) : Prop where
  p1 : p ≤ n1
  p2 : q ≤ n2
  r1 : ∃ a', row2 W b (.slice a' (n1 - p) (c1 - p)) kx tx ∧ AtP sx a1 n1 p a'
  r2 : ∃ a', row2 W b' (.slice a' (n2 - q) (c2 - q)) ky ty ∧ AtP sy a2 n2 q a'
  bel : Below w0.heap.size w0 W
  lo : B ≤ b
  lo' : B ≤ b'
  ne : b ≠ b'
end Go.Proofs.YtiihnoohodklhaaDoor

namespace Go.Proofs.YtiihnoohodklhaaDoor
open Go.RowKit
attribute [local go_sem ↓] Go.wp_at_zero Go.wp_at_succ

theorem list_eq (a b : ByteArray) : (a.toList == b.toList) = decide (a = b) := by
  by_cases h : a = b
  · subst h; simp
  · have h2 : ¬ a.toList = b.toList := fun e => h (by
      cases h1 : ltK a b with
      | true => exact absurd h1 (by unfold ltK; rw [e, bless_irrefl]; simp)
      | false =>
        cases h3 : ltK b a with
        | true => exact absurd h3 (by unfold ltK; rw [e, bless_irrefl]; simp)
        | false => exact ltK_total h1 h3)
    simp [h, h2]
/-- A change as a value. -/
def chA (k : ByteArray) (x : ChV) : Value := .agg #[.string k, .bool x.had, .bool x.has, .string x.old, .string x.new]
/-- A block that holds a change. -/
def Bx5 (w : World) (b : Nat) (k : ByteArray) (x : ChV) : Prop := w.heap[b]? = some (.cells #[.string k, .bool x.had, .bool x.has, .string x.old, .string x.new] 39 (0, 0))
theorem Bx5.bel {w w' : World} {b : Nat} {k : ByteArray} {x : ChV} (h : Bx5 w b k x) (hb : Below w.heap.size w w') : Bx5 w' b k x := (hb.block b (Array.getElem?_eq_some_iff.1 h).1).trans h
theorem Bx5.cells {w : World} {b : Nat} {k : ByteArray} {x : ChV} (h : Bx5 w b k x) : w.cell? ⟨b, 0, none⟩ = some (.string k) ∧ w.cell? ⟨b, 1, none⟩ = some (.bool x.had) ∧ w.cell? ⟨b, 2, none⟩ = some (.bool x.has) ∧ w.cell? ⟨b, 3, none⟩ = some (.string x.old) ∧ w.cell? ⟨b, 4, none⟩ = some (.string x.new) := by
  refine ⟨?_, ?_, ?_, ?_, ?_⟩ <;> (rw [cell_of_row w b _ _ _ _ h]; rfl)
theorem Bx5.frz {w : World} {b : Nat} {k : ByteArray} {x : ChV} (h : Bx5 w b k x) (o : Nat) : w.frozen? ⟨b, o, none⟩ = false := frozen_of_row _ _ _ _ _ h
theorem Bx5.set {w : World} {b : Nat} {k : ByteArray} {x : ChV} (h : Bx5 w b k x) : Bx5 (((w.setCell ⟨b, 0, none⟩ (.string k)).setCell ⟨b, 3, none⟩ (.string x.old)).setCell ⟨b, 4, none⟩ (.string x.new)) b k x :=
  Go.heap_setCell_same _ b 4 _ 39 _ (Go.heap_setCell_same _ b 3 _ 39 _ (Go.heap_setCell_same w b 0 _ 39 _ h))
end Go.Proofs.YtiihnoohodklhaaDoor
