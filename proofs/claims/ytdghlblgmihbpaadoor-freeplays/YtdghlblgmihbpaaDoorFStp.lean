import Derived.Test.YtdghlblgmihbpaaDoorFBegun
namespace Go.Proofs.YtdghlblgmihbpaaDoor
open Go.RowKit

/-- A step: kind, on, n. -/
abbrev Stp := Int × Int × Int
/-- The slice value v reads as steps. -/
def StpR (w : World) (v : Value) (l : List Stp) : Prop := ∃ a cap, v = .slice a l.length cap ∧
  ∀ j (h : j < l.length), ∃ g o, a = some ⟨g, o, none⟩ ∧ w.cell? ⟨g, o + j * 3, none⟩ = some (.int .i64 l[j].1) ∧ w.cell? ⟨g, o + j * 3 + 1, none⟩ = some (.int .i64 l[j].2.1) ∧ w.cell? ⟨g, o + j * 3 + 2, none⟩ = some (.int .i64 l[j].2.2)
theorem StpR.below {w w' : World} {v : Value} {l : List Stp} (h : StpR w v l) (hb : Below w.heap.size w w') : StpR w' v l := by
  obtain ⟨a, cap, rfl, hc⟩ := h
  refine ⟨a, cap, rfl, fun j hj => ?_⟩
  obtain ⟨g, o, ha, h1, h2, h3⟩ := hc j hj
  exact ⟨g, o, ha, (hb.cell (p := ⟨g, o + j * 3, none⟩) (World.block_lt_of_cell? w _ h1)).trans h1, (hb.cell (p := ⟨g, o + j * 3 + 1, none⟩) (World.block_lt_of_cell? w _ h2)).trans h2, (hb.cell (p := ⟨g, o + j * 3 + 2, none⟩) (World.block_lt_of_cell? w _ h3)).trans h3⟩
theorem StpR.nil (w : World) : StpR w (.slice none 0 0) [] := ⟨none, 0, rfl, fun j h => by simp at h⟩
/-- What is taken behind steps. -/
def runD (P : Nat) (T : Nat → Bool) (l : List Stp) : Nat → Bool := l.foldl (fun T s => (actD P T s.1 s.2.2).1) T
theorem runD_snoc (P : Nat) (T : Nat → Bool) (l : List Stp) (s : Stp) : runD P T (l ++ [s]) = (actD P (runD P T l) s.1 s.2.2).1 := by simp [runD]
theorem runD_append (P : Nat) (T : Nat → Bool) (l m : List Stp) : runD P T (l ++ m) = runD P (runD P T l) m := by simp [runD]
theorem runD_ok {P : Nat} : ∀ {T : Nat → Bool} (l : List Stp), MapOk P T → MapOk P (runD P T l)
  | _, [], h => h
  | _, s :: l, h => runD_ok l (act_ok h s.1 s.2.2)
/-- The steps from a to b. -/
def seg (l : List Stp) (a b : Nat) : List Stp := (l.drop a).take (b - a)
theorem seg_nil (l : List Stp) (a : Nat) : seg l a a = [] := by simp [seg]
theorem seg_succ (l : List Stp) (a b : Nat) (h : a ≤ b) (hb : b < l.length) : seg l a (b + 1) = seg l a b ++ [l[b]] := by
  unfold seg
  rw [show b + 1 - a = (b - a) + 1 by omega, List.take_succ_eq_append_getElem (by simp; omega), List.getElem_drop]
  congr 2
  simp [show a + (b - a) = b by omega]
theorem Boxed.only {F : Nat → Prop} {b : Nat} {cs : List Value} {w w' : World} (h : Boxed b cs w) (ho : Only F w w') (hn : ¬ F b) : Boxed b cs w' :=
  ⟨Nat.lt_of_lt_of_le h.1 ho.size, fun j hj => ho.cell (h.2 j hj) hn⟩

end Go.Proofs.YtdghlblgmihbpaaDoor
