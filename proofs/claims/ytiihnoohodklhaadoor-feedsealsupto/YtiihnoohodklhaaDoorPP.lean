import Derived.Test.YtiihnoohodklhaaDoorMT
import Derived.Test.YtiihnoohodklhaaDoorBX
import Derived.Lib.AppendZeros
namespace Go.Proofs.YtiihnoohodklhaaDoor
open Go.RowKit

/-- The cells of pairs. -/
def prs (l : List Pr) : List Value := l.flatMap fun p => [.string p.1, .string p.2]
theorem prs_cons (p : Pr) (l : List Pr) : prs (p :: l) = .string p.1 :: .string p.2 :: prs l := by simp [prs]
theorem prs_append (a b : List Pr) : prs (a ++ b) = prs a ++ prs b := by simp [prs]
theorem prs_length (l : List Pr) : (prs l).length = l.length * 2 := by
  induction l with
  | nil => rfl
  | cons p l ih => rw [prs_cons]; simp [ih]; omega
theorem prs_get (l : List Pr) : ∀ j (h : j < l.length), (prs l)[j * 2]? = some (.string l[j].1) ∧ (prs l)[j * 2 + 1]? = some (.string l[j].2) := by
  induction l with
  | nil => intro j h; simp at h
  | cons p l ih =>
    intro j h
    rw [prs_cons]
    cases j with
    | zero => exact ⟨rfl, rfl⟩
    | succ j =>
      have := ih j (by simpa using h)
      rw [show (j + 1) * 2 = j * 2 + 1 + 1 by omega]
      simpa using this
theorem prs_one (l : List Pr) : ∀ u ∈ prs l, u.oneCell' = true := by
  intro u hu
  simp only [prs, List.mem_flatMap] at hu
  obtain ⟨p, _, h⟩ := hu
  simp at h
  rcases h with rfl | rfl <;> rfl
/-- The texts of pairs are such as a machine's can be. -/
def OkL (l : List Pr) : Prop := ∀ p ∈ l, p.1.size ≤ 140737488355328 ∧ p.2.size ≤ 140737488355328
/-- The slice value v reads as the pairs l. -/
def PrR (w : World) (v : Value) (l : List Pr) : Prop := ∃ a cap, v = .slice a l.length cap ∧ l.length ≤ cap ∧ (a = none → cap = 0) ∧
  ∀ j (h : j < l.length), ∃ g o, a = some ⟨g, o, none⟩ ∧ w.cell? ⟨g, o + j * 2, none⟩ = some (.string l[j].1) ∧ w.cell? ⟨g, o + j * 2 + 1, none⟩ = some (.string l[j].2)
theorem PrR.below {w w' : World} {v : Value} {l : List Pr} (h : PrR w v l) (hb : Below w.heap.size w w') : PrR w' v l := by
  obtain ⟨a, cap, rfl, hle, hn, hc⟩ := h
  refine ⟨a, cap, rfl, hle, hn, fun j hj => ?_⟩
  obtain ⟨g, o, ha, h1, h2⟩ := hc j hj
  exact ⟨g, o, ha, (hb.cell (p := ⟨g, o + j * 2, none⟩) (World.block_lt_of_cell? w _ h1)).trans h1, (hb.cell (p := ⟨g, o + j * 2 + 1, none⟩) (World.block_lt_of_cell? w _ h2)).trans h2⟩
theorem PrR.form {w : World} {v : Value} {l : List Pr} (h : PrR w v l) : ∃ a c, v = .slice a l.length c := by
  obtain ⟨a, c, rfl, _⟩ := h; exact ⟨a, c, rfl⟩
theorem PrR.take {w : World} {a : Option Addr} {n m cap : Nat} {l : List Pr} (h : PrR w (.slice a n cap) l) (hm : m ≤ n) : PrR w (.slice a m cap) (l.take m) := by
  obtain ⟨a', cap', he, hle, hn, hc⟩ := h
  cases he
  refine ⟨a, cap, by rw [List.length_take, Nat.min_eq_left hm], by rw [List.length_take]; omega, hn, fun j hj => ?_⟩
  rw [List.length_take] at hj
  obtain ⟨g, o, ha, h1, h2⟩ := hc j (by omega)
  exact ⟨g, o, ha, by rw [List.getElem_take]; exact h1, by rw [List.getElem_take]; exact h2⟩
theorem PrR.nil (w : World) : PrR w (.slice none 0 0) [] := ⟨none, 0, rfl, Nat.le_refl _, fun _ => rfl, fun j h => by simp at h⟩

end Go.Proofs.YtiihnoohodklhaaDoor

namespace Go.Proofs.YtiihnoohodklhaaDoor
open Go.RowKit

theorem prR_lit (w : World) (p : Pr) (t : TypeId) : PrR (w.alloc (.cells #[.string p.1, .string p.2] t)) (.slice (some ⟨w.heap.size, 0, none⟩) 1 1) [p] := by
  have hb := boxed_new w #[.string p.1, .string p.2] t
  refine ⟨_, _, rfl, Nat.le_refl _, fun h => (by cases h), fun j hj => ⟨_, _, rfl, ?_, ?_⟩⟩
  · have : j = 0 := by simpa using hj
    subst this
    exact hb.2 0 (by simp)
  · have : j = 0 := by simpa using hj
    subst this
    exact hb.2 1 (by simp)
end Go.Proofs.YtiihnoohodklhaaDoor
