import Derived.Test.YtiihnoohodklhaaDoorDCh
import Derived.Test.YtiihnoohodklhaaDoorPClone
import Derived.Test.YtiihnoohodklhaaDoorBX
import Derived.Deep.RegionHeld3
import Derived.Laws.EntriesVeiled
import Derived.Deep.DrawnRows
import Derived.Laws.ResultCell
namespace Go.Proofs.YtiihnoohodklhaaDoor
open Go.RowKit
attribute [local go_sem ↓] Go.wp_at_zero Go.wp_at_succ

theorem below_drewN2 {B : Nat} {a w : World} (h : Below B a w) (n : Nat) : Below B a (w.drewN n) := ⟨h.os, h.tape, h.output, h.size, h.block⟩
theorem cell_bel {w w' : World} {a : Addr} {v : Value} (hb : Below w.heap.size w w') (h : w.cell? a = some v) : w'.cell? a = some v := (hb.cell (p := a) (World.block_lt_of_cell? w _ h)).trans h
theorem box2 (w : World) (x y : Value) (t : TypeId) : (w.alloc (.cells #[x, y] t)).cell? ⟨w.heap.size, 0, none⟩ = some x ∧ (w.alloc (.cells #[x, y] t)).cell? ⟨w.heap.size, 1, none⟩ = some y := by
  have hb := boxed_new w #[x, y] t
  exact ⟨hb.2 0 (by simp), hb.2 1 (by simp)⟩

end Go.Proofs.YtiihnoohodklhaaDoor

namespace Go.Proofs.YtiihnoohodklhaaDoor
open Go.RowKit
attribute [local go_sem ↓] Go.wp_at_zero Go.wp_at_succ
def riseK : List ByteArray → Bool
  | [] => true
  | [_] => true
  | x :: y :: r => ltK x y && riseK (y :: r)
theorem riseK_map {α : Type} : ∀ l : KL α, riseK (l.map Prod.fst) = riseB l
  | [] => rfl
  | [_] => rfl
  | x :: y :: r => by
    have := riseK_map (y :: r)
    simp only [List.map_cons] at this ⊢
    simp [riseK, riseB, this]
theorem riseK_idx : ∀ l : List ByteArray, riseK l = true ↔ ∀ i (h : i + 1 < l.length), ltK l[i] l[i + 1] = true
  | [] => by simp [riseK]
  | [_] => by simp [riseK]
  | x :: y :: r => by
    have ih := riseK_idx (y :: r)
    simp only [riseK, Bool.and_eq_true]
    rw [ih]
    constructor
    · rintro ⟨h1, h2⟩ i hi
      cases i with
      | zero => exact h1
      | succ i => exact h2 i (by simpa using hi)
    · intro h
      exact ⟨h 0 (by simp), fun i hi => h (i + 1) (by simpa using hi)⟩
/-- A slice whose elements, of st cells each, begin with these keys. -/
def KeyR (st : Nat) (w : World) (v : Value) (ks : List ByteArray) : Prop := ∃ a cap, v = .slice a ks.length cap ∧ ks.length ≤ cap ∧ (a = none → cap = 0) ∧
  ∀ j (h : j < ks.length), ∃ g o, a = some ⟨g, o, none⟩ ∧ w.cell? ⟨g, o + j * st, none⟩ = some (.string ks[j])
theorem PrR.keys {w : World} {v : Value} {l : List Pr} (h : PrR w v l) : KeyR 2 w v (l.map Prod.fst) := by
  obtain ⟨a, cap, rfl, hle, hn, hc⟩ := h
  refine ⟨a, cap, by simp, by simpa using hle, hn, fun j hj => ?_⟩
  obtain ⟨g, o, ha, h1, _⟩ := hc j (by simpa using hj)
  exact ⟨g, o, ha, by simpa using h1⟩
theorem ChR.keys {w : World} {v : Value} {l : List Ch} (h : ChR w v l) : KeyR 5 w v (l.map Prod.fst) := by
  obtain ⟨a, cap, rfl, hle, hn, hc⟩ := h
  refine ⟨a, cap, by simp, by simpa using hle, hn, fun j hj => ?_⟩
  obtain ⟨g, o, ha, h1⟩ := hc j (by simpa using hj)
  exact ⟨g, o, ha, by simpa using h1.1⟩
theorem KeyR.below {st : Nat} {w w' : World} {v : Value} {ks : List ByteArray} (h : KeyR st w v ks) (hb : Below w.heap.size w w') : KeyR st w' v ks := by
  obtain ⟨a, cap, rfl, hle, hn, hc⟩ := h
  refine ⟨a, cap, rfl, hle, hn, fun j hj => ?_⟩
  obtain ⟨g, o, ha, h1⟩ := hc j hj
  exact ⟨g, o, ha, cell_bel hb h1⟩
end Go.Proofs.YtiihnoohodklhaaDoor

namespace Go.Proofs.YtiihnoohodklhaaDoor
open Go.RowKit
attribute [local go_sem ↓] Go.wp_at_zero Go.wp_at_succ
/-- Is it the turn of the first list, of what is left of both? -/
def turnK (ks ms : List ByteArray) : Bool := match ks, ms with
  | [], _ => false
  | _ :: _, [] => true
  | k :: _, m :: _ => !ltK m k
theorem leK_eq (k m : ByteArray) : (!ltK m k) = (Op.bytesLess k.toList m.toList || k.toList == m.toList) := by
  unfold ltK
  cases h1 : Op.bytesLess k.toList m.toList with
  | true =>
    have : Op.bytesLess m.toList k.toList = false := ltK_asymm h1
    simp [this]
  | false =>
    cases h2 : Op.bytesLess m.toList k.toList with
    | true =>
      have : k.toList ≠ m.toList := fun e => by rw [e, bless_irrefl] at h2; cases h2
      simp [this]
    | false =>
      have := bless_total _ _ h1 h2
      simp [this]
end Go.Proofs.YtiihnoohodklhaaDoor

namespace Go.Proofs.YtiihnoohodklhaaDoor
open Go.RowKit
attribute [local go_sem ↓] Go.wp_at_zero Go.wp_at_succ
/-- Where a list begins behind its first element. -/
def nxA (st g o c : Nat) : Option Addr := if c = 1 then some ⟨g, o, none⟩ else some ⟨g, o + st, none⟩
set_option maxRecDepth 20000 in
theorem slice_one_c (g o n c : Nat) (hn : 1 ≤ n) (w : World) : (Instr.sliceAt 23 (.slice (some ⟨g, o, none⟩) n c) (some (.int .i64 1)) none none).run Tryd.prog w = .ok (.slice (nxA 5 g o c) (n - 1) (c - 1)) w := by
  rw [run_sliceAt_slice (h := Tryd.underlying23), run_slice_l (ht := Tryd.underlying23) (h0 := by omega) (h1 := by omega)]
  have hz : (sizeOf (Tryd.prog.elem 23)).run Tryd.prog w = .ok 5 w := by kernel_rfl
  rw [hz]
  simp only [Result.andThen, sliced, nxA]
  by_cases h : c = 1
  · simp [h]
  · simp [h, add_plain']
end Go.Proofs.YtiihnoohodklhaaDoor
