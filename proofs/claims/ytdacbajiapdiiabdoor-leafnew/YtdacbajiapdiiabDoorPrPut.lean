import Derived.Test.YtdacbajiapdiiabDoorPrs2
namespace Go.Proofs.YtdacbajiapdiiabDoor
open Go.RowKit

theorem prs_set (p : Pr) : ∀ (l : List Pr) (k : Nat), ((prs l).set (k * 2) (.string p.1)).set (k * 2 + 1) (.string p.2) = prs (l.set k p)
  | [], k => by simp [prs]
  | q :: l, 0 => by
    rw [List.set_cons_zero, prs_cons, prs_cons]
    rfl
  | q :: l, k + 1 => by
    rw [List.set_cons_succ, prs_cons, prs_cons, ← prs_set p l k, show (k + 1) * 2 = k * 2 + 1 + 1 by omega]
    simp only [List.set_cons_succ]
/-- What lies below B is as it was. -/
theorem PrO.under {w w' : World} {B base : Nat} {v : Value} {l : List Pr} (h : PrO w base v l) (hv : ∀ k, v.ownBlock = some k → k < B) (hb : Below B w w') : PrO w' base v l := by
  refine ⟨h.1, ?_⟩
  rcases h.2 with h' | ⟨g, cap, cur, h', h1, h2, hr⟩
  · exact .inl h'
  · refine .inr ⟨g, cap, cur, h', h1, ?_, hr⟩
    rw [hb.block g (hv g (by rw [h']; rfl))]; exact h2
/-- A store into another block. -/
theorem PrO.put {w : World} {base g j : Nat} {v : Value} {l : List Pr} (h : PrO w base v l) (hv : v.ownBlock ≠ some g) (u : Value) : PrO (w.setCell ⟨g, j, none⟩ u) base v l := by
  refine ⟨h.1, ?_⟩
  rcases h.2 with h' | ⟨g', cap, cur, h', h1, h2, hr⟩
  · exact .inl h'
  · refine .inr ⟨g', cap, cur, h', h1, ?_, hr⟩
    rw [Below.heap_setCell _ _ _ _ (fun e => hv (by have : g' = g := e; rw [h', this]; rfl))]; exact h2
theorem PrO.cnt {w : World} {base n cap : Nat} {a : Option Addr} {l : List Pr} (h : PrO w base (.slice a n cap) l) : n = l.length := by
  obtain ⟨a', c', he⟩ := h.form
  simp only [Value.slice.injEq] at he
  exact he.2.1
/-- A pair is stored. -/
theorem PrO.wrote {w : World} {base g n cap : Nat} {l : List Pr} (h : PrO w base (.slice (some ⟨g, 0, none⟩) n cap) l) (k : Nat) (p : Pr) :
    PrO ((w.setCell ⟨g, k * 2, none⟩ (.string p.1)).setCell ⟨g, k * 2 + 1, none⟩ (.string p.2)) base (.slice (some ⟨g, 0, none⟩) n cap) (l.set k p) := by
  obtain rfl := h.cnt
  unfold PrO at h
  have := (World.ownsRow.stored (World.ownsRow.stored h (k * 2) (.string p.1)).1 (k * 2 + 1) (.string p.2)).1
  rw [prs_set] at this
  unfold PrO; rw [List.length_set]; exact this
theorem Boxed.put {b g j : Nat} {cs : List Value} {w : World} (h : Boxed b cs w) (hne : b ≠ g) (u : Value) : Boxed b cs (w.setCell ⟨g, j, none⟩ u) :=
  ⟨by simpa [World.setCell] using h.1, fun i hi => (World.cell?_of_block (a := ⟨b, i, none⟩) (Below.heap_setCell _ _ _ _ (fun e => hne e))).trans (h.2 i hi)⟩
/-- The cells of an owned list, ahead of a store. -/
theorem PrO.spot {w : World} {base g n cap : Nat} {l : List Pr} (h : PrO w base (.slice (some ⟨g, 0, none⟩) n cap) l) (k : Nat) (hk : k < l.length) :
    (∃ u, w.cell? ⟨g, k * 2, none⟩ = some u) ∧ (∃ u, w.cell? ⟨g, k * 2 + 1, none⟩ = some u) ∧ w.frozen? ⟨g, k * 2, none⟩ = false ∧ w.frozen? ⟨g, k * 2 + 1, none⟩ = false := by
  obtain rfl := h.cnt
  unfold PrO at h
  have hq : ∀ j, j < l.length * 2 → ∃ u, w.cell? ⟨g, j, none⟩ = some u := fun j hj => by
    rw [World.ownsRow.cellAt h j hj]
    exact ⟨_, List.getElem?_eq_getElem (by rw [prs_length]; exact hj)⟩
  exact ⟨hq _ (by omega), hq _ (by omega), World.ownsRow.frozenAt h _, World.ownsRow.frozenAt h _⟩
theorem PrO.some {w : World} {base : Nat} {v : Value} {l : List Pr} (h : PrO w base v l) (hl : 0 < l.length) : ∃ g c, v = .slice (some ⟨g, 0, none⟩) l.length c ∧ base ≤ g ∧ g < w.heap.size ∧ l.length ≤ c := by
  rcases h.2 with ⟨_, h0⟩ | ⟨g, cap, cur, rfl, h1, h2, h3, _⟩
  · omega
  · exact ⟨g, cap, rfl, h1, (h.blk g rfl).2, h3⟩

/-- Each pair's key and value changed with one another. -/
def sw (l : List Pr) : List Pr := l.map fun p => (p.2, p.1)
theorem sw_len (l : List Pr) : (sw l).length = l.length := by simp [sw]
theorem sw_ok {l : List Pr} (h : OkL l) : OkL (sw l) := fun p hp => by
  simp only [sw, List.mem_map] at hp
  obtain ⟨q, hq, rfl⟩ := hp
  exact ⟨(h q hq).2, (h q hq).1⟩
/-- The list when k pairs are turned. -/
def stA (l : List Pr) (k : Nat) : List Pr := sw (l.take k) ++ l.drop k
theorem stA_len (l : List Pr) (k : Nat) : (stA l k).length = l.length := by
  unfold stA; rw [List.length_append, sw_len, List.length_take, List.length_drop]; omega
theorem stA_zero (l : List Pr) : stA l 0 = l := by simp [stA, sw]
theorem stA_all (l : List Pr) : stA l l.length = sw l := by simp [stA]
theorem sw_snoc (l : List Pr) (k : Nat) (h : k < l.length) : sw (l.take (k + 1)) = sw (l.take k) ++ [(l[k].2, l[k].1)] := by
  unfold sw; rw [List.take_succ_eq_append_getElem h, List.map_append]; rfl
theorem stA_set (l m : List Pr) (k : Nat) (h : k < l.length) : (stA l k ++ m).set k (l[k].2, l[k].1) = stA l (k + 1) ++ m := by
  have hl : (sw (l.take k)).length = k := by rw [sw_len, List.length_take]; omega
  rw [List.set_append_left _ _ (by rw [stA_len]; exact h)]
  unfold stA
  rw [List.set_append_right _ _ (by omega), hl, Nat.sub_self, List.drop_eq_getElem_cons h, List.set_cons_zero, sw_snoc l k h]
  simp

end Go.Proofs.YtdacbajiapdiiabDoor
