import Derived.Test.YtagldlchamlpdaaDoorKSl
import Derived.Laws.ResultCell
namespace Go.Proofs.YtagldlchamlpdaaDoor
open Go.RowKit

theorem results_row_tmp {P : Program} {fn : Func} {p u : Tmp} {ty : TypeId} (h : fn.results = #[.cell p ty, .tmp u]) (tmps : Array Value) (w : World) (g : Nat) (t : TypeId) (cs : Array Value) (fr : Nat × Nat) (d : TypeDesc)
    (hp : tmps.getD p undef = .pointer (some ⟨g, 0, none⟩)) (hg : w.heap[g]? = some (.cells cs t fr)) (hu : P.underlying ty = some d) (hd : (match d with | .struct _ | .array _ _ => true | _ => false) = true) (hi : (P.info? ty).map (·.size) = some cs.size) :
    (results fn tmps).run P w = .ok (.tuple #[.agg cs, tmps.getD u undef]) w := by
  rw [results_cell_tmp h tmps P w, hp]
  simp [asAddr, run_loadVar_row w g t ty cs fr d hg hu hd hi, Result.andThen]
theorem results_cell_4 {fn : Func} {p q u v : Tmp} {t1 t2 : TypeId} (h : fn.results = #[.cell p t1, .tmp u, .cell q t2, .tmp v]) (tmps : Array Value) (P : Program) (w : World) :
    (results fn tmps).run P w =
      ((asAddr (tmps.getD p undef)).run P w).andThen fun a w₁ => ((loadVar t1 a).run P w₁).andThen fun x w₂ => ((asAddr (tmps.getD q undef)).run P w₂).andThen fun b w₃ => ((loadVar t2 b).run P w₃).andThen fun y w₄ => .ok (.tuple #[x, tmps.getD u undef, y, tmps.getD v undef]) w₄ := by
  simp only [results, h]
  simp [Sem.run_bind, Result.andThen]
theorem results_row_4 {P : Program} {fn : Func} {p q u v : Tmp} {ty t2 : TypeId} (h : fn.results = #[.cell p ty, .tmp u, .cell q t2, .tmp v]) (tmps : Array Value) (w : World) (g1 g2 : Nat) (t t' : TypeId) (cs cs2 : Array Value) (fr fr2 : Nat × Nat) (d d2 : TypeDesc)
    (hp : tmps.getD p undef = .pointer (some ⟨g1, 0, none⟩)) (hq : tmps.getD q undef = .pointer (some ⟨g2, 0, none⟩)) (hg : w.heap[g1]? = some (.cells cs t fr)) (hg2 : w.heap[g2]? = some (.cells cs2 t' fr2)) (hu : P.underlying ty = some d) (hu2 : P.underlying t2 = some d2) (hd : (match d with | .struct _ | .array _ _ => true | _ => false) = true) (hd2 : (match d2 with | .struct _ | .array _ _ => true | _ => false) = true)
    (hi : (P.info? ty).map (·.size) = some cs.size) (hi2 : (P.info? t2).map (·.size) = some cs2.size) :
    (results fn tmps).run P w = .ok (.tuple #[.agg cs, tmps.getD u undef, .agg cs2, tmps.getD v undef]) w := by
  rw [results_cell_4 h tmps P w, hp, hq]
  simp [asAddr, run_loadVar_row w g1 t ty cs fr d hg hu hd hi, run_loadVar_row w g2 t' t2 cs2 fr2 d2 hg2 hu2 hd2 hi2, Result.andThen]
theorem row_kept {w w1 : World} {cs : Array Value} {t : TypeId} (hb : Below (w.alloc (.cells cs t)).heap.size (w.alloc (.cells cs t)) w1) : w1.heap[w.heap.size]? = some (.cells cs t (0, 0)) := by
  rw [hb.block w.heap.size (by simp)]; exact heap_alloc_new w _
theorem set_two {w : World} {b : Nat} {x y : Value} {t : TypeId} (h : w.heap[b]? = some (.cells #[x, y] t (0, 0))) (x' y' : Value) :
    ((w.setCell ⟨b, 0, none⟩ x').setCell ⟨b, 1, none⟩ y').heap[b]? = some (.cells #[x', y'] t (0, 0)) := by
  rw [heap_setCell_same _ b 1 _ t _ (heap_setCell_same w b 0 _ t _ h)]
  rfl
theorem below_two {B : Nat} {w0 w : World} {b : Nat} {x y : Value} (h : Below B w0 w) (hb : B ≤ b) : Below B w0 ((w.setCell ⟨b, 0, none⟩ x).setCell ⟨b, 1, none⟩ y) := (h.setCell hb _).setCell hb _
/-- A block that is a whole row. -/
def RowAt (w : World) (b : Nat) (cs : Array Value) (t : TypeId) : Prop := w.heap[b]? = some (.cells cs t (0, 0))
theorem RowAt.cell {w : World} {b : Nat} {cs : Array Value} {t : TypeId} (h : RowAt w b cs t) (j : Nat) (hj : j < cs.size) : w.cell? ⟨b, j, none⟩ = some cs[j] := by
  rw [cell_of_row _ _ _ _ _ _ h]; simp [hj]
theorem RowAt.c0 {w : World} {b : Nat} {x y : Value} {t : TypeId} (h : RowAt w b #[x, y] t) : w.cell? ⟨b, 0, none⟩ = some x := h.cell 0 (by simp)
theorem RowAt.c1 {w : World} {b : Nat} {x y : Value} {t : TypeId} (h : RowAt w b #[x, y] t) : w.cell? ⟨b, 1, none⟩ = some y := h.cell 1 (by simp)
theorem RowAt.free {w : World} {b : Nat} {cs : Array Value} {t : TypeId} (h : RowAt w b cs t) (j : Nat) : w.frozen? ⟨b, j, none⟩ = false := frozen_of_row _ _ _ _ _ h
theorem RowAt.lt {w : World} {b : Nat} {cs : Array Value} {t : TypeId} (h : RowAt w b cs t) : b < w.heap.size := by
  rcases Nat.lt_or_ge b w.heap.size with h' | h'
  · exact h'
  · unfold RowAt at h; rw [Array.getElem?_eq_none h'] at h; cases h
theorem RowAt.below {w w' : World} {b : Nat} {cs : Array Value} {t : TypeId} (h : RowAt w b cs t) (hb : Below w.heap.size w w') : RowAt w' b cs t := by
  unfold RowAt; rw [hb.block b h.lt]; exact h
theorem RowAt.new (w : World) (cs : Array Value) (t : TypeId) : RowAt (w.alloc (.cells cs t)) w.heap.size cs t := heap_alloc_new w _
theorem RowAt.boxed {w : World} {b : Nat} {cs : Array Value} {t : TypeId} (h : RowAt w b cs t) : Boxed b cs.toList w := ⟨h.lt, fun j hj => by
  have := h.cell j (by simpa using hj)
  simpa using this⟩
theorem RowAt.two {w : World} {b : Nat} {x y : Value} {t : TypeId} (h : RowAt w b #[x, y] t) (x' y' : Value) : RowAt ((w.setCell ⟨b, 0, none⟩ x').setCell ⟨b, 1, none⟩ y') b #[x', y'] t := set_two h x' y'
theorem RowAt.other {w : World} {b g j : Nat} {cs : Array Value} {t : TypeId} (h : RowAt w b cs t) (hne : b ≠ g) (u : Value) : RowAt (w.setCell ⟨g, j, none⟩ u) b cs t := by
  unfold RowAt; rw [Below.heap_setCell _ _ _ _ (fun e => hne e)]; exact h
theorem LkR.cap {w : World} {a : Option Addr} {n c : Nat} {l : List Lk} (h : LkR w (.slice a n c) l) : l.length ≤ c := by
  obtain ⟨_, _, he, h, _⟩ := h; cases he; exact h
theorem lks_set (p : Lk) : ∀ (l : List Lk) (k : Nat), ((lks l).set (k * 2) (.string p.1)).set (k * 2 + 1) (.int .i64 p.2) = lks (l.set k p)
  | [], k => by simp [lks]
  | q :: l, 0 => by
    rw [List.set_cons_zero, lks_cons, lks_cons]
    rfl
  | q :: l, k + 1 => by
    rw [List.set_cons_succ, lks_cons, lks_cons, ← lks_set p l k, show (k + 1) * 2 = k * 2 + 1 + 1 by omega]
    simp only [List.set_cons_succ]
/-- What lies below B is as it was. -/
theorem LkO.under {w w' : World} {B base : Nat} {v : Value} {l : List Lk} (h : LkO w base v l) (hv : ∀ k, v.ownBlock = some k → k < B) (hb : Below B w w') : LkO w' base v l := by
  refine ⟨h.1, ?_⟩
  rcases h.2 with h' | ⟨g, cap, cur, h', h1, h2, hr⟩
  · exact .inl h'
  · refine .inr ⟨g, cap, cur, h', h1, ?_, hr⟩
    rw [hb.block g (hv g (by rw [h']; rfl))]; exact h2
/-- A store into another block. -/
theorem LkO.put {w : World} {base g j : Nat} {v : Value} {l : List Lk} (h : LkO w base v l) (hv : v.ownBlock ≠ some g) (u : Value) : LkO (w.setCell ⟨g, j, none⟩ u) base v l := by
  refine ⟨h.1, ?_⟩
  rcases h.2 with h' | ⟨g', cap, cur, h', h1, h2, hr⟩
  · exact .inl h'
  · refine .inr ⟨g', cap, cur, h', h1, ?_, hr⟩
    rw [Below.heap_setCell _ _ _ _ (fun e => hv (by have : g' = g := e; rw [h', this]; rfl))]; exact h2
theorem LkO.cnt {w : World} {base n cap : Nat} {a : Option Addr} {l : List Lk} (h : LkO w base (.slice a n cap) l) : n = l.length := by
  obtain ⟨a', c', he⟩ := h.form
  simp only [Value.slice.injEq] at he
  exact he.2.1
/-- A pair is stored. -/
theorem LkO.wrote {w : World} {base g n cap : Nat} {l : List Lk} (h : LkO w base (.slice (some ⟨g, 0, none⟩) n cap) l) (k : Nat) (p : Lk) :
    LkO ((w.setCell ⟨g, k * 2, none⟩ (.string p.1)).setCell ⟨g, k * 2 + 1, none⟩ (.int .i64 p.2)) base (.slice (some ⟨g, 0, none⟩) n cap) (l.set k p) := by
  obtain rfl := h.cnt
  unfold LkO at h
  have := (World.ownsRow.stored (World.ownsRow.stored h (k * 2) (.string p.1)).1 (k * 2 + 1) (.int .i64 p.2)).1
  rw [lks_set] at this
  unfold LkO; rw [List.length_set]; exact this
theorem Boxed.put {b g j : Nat} {cs : List Value} {w : World} (h : Boxed b cs w) (hne : b ≠ g) (u : Value) : Boxed b cs (w.setCell ⟨g, j, none⟩ u) :=
  ⟨by simpa [World.setCell] using h.1, fun i hi => (World.cell?_of_block (a := ⟨b, i, none⟩) (Below.heap_setCell _ _ _ _ (fun e => hne e))).trans (h.2 i hi)⟩
/-- The cells of an owned list, ahead of a store. -/
theorem LkO.spot {w : World} {base g n cap : Nat} {l : List Lk} (h : LkO w base (.slice (some ⟨g, 0, none⟩) n cap) l) (k : Nat) (hk : k < l.length) :
    (∃ u, w.cell? ⟨g, k * 2, none⟩ = some u) ∧ (∃ u, w.cell? ⟨g, k * 2 + 1, none⟩ = some u) ∧ w.frozen? ⟨g, k * 2, none⟩ = false ∧ w.frozen? ⟨g, k * 2 + 1, none⟩ = false := by
  obtain rfl := h.cnt
  unfold LkO at h
  have hq : ∀ j, j < l.length * 2 → ∃ u, w.cell? ⟨g, j, none⟩ = some u := fun j hj => by
    rw [World.ownsRow.cellAt h j hj]
    exact ⟨_, List.getElem?_eq_getElem (by rw [lks_length]; exact hj)⟩
  exact ⟨hq _ (by omega), hq _ (by omega), World.ownsRow.frozenAt h _, World.ownsRow.frozenAt h _⟩
theorem LkO.has {w : World} {base : Nat} {v : Value} {l : List Lk} (h : LkO w base v l) (hl : 0 < l.length) : ∃ g c, v = .slice (some ⟨g, 0, none⟩) l.length c ∧ base ≤ g ∧ g < w.heap.size ∧ l.length ≤ c := by
  rcases h.2 with ⟨_, h0⟩ | ⟨g, cap, cur, rfl, h1, h2, h3, _⟩
  · omega
  · exact ⟨g, cap, rfl, h1, (h.blk g rfl).2, h3⟩

theorem LkR.spot {w : World} {a : Option Addr} {n c : Nat} {l : List Lk} (h : LkR w (.slice a n c) l) (j : Nat) (hj : j < l.length) :
    ∃ g o, a = .some ⟨g, o, none⟩ ∧ w.cell? ⟨g, o + j * 2, none⟩ = .some (.string l[j].1) ∧ w.cell? ⟨g, o + j * 2 + 1, none⟩ = .some (.int .i64 l[j].2) := by
  obtain ⟨a', c', he, _, _, hc⟩ := h
  cases he
  exact hc j hj
theorem undrewB {a b : World} (h : Below a.drew.heap.size a.drew b) : Below a.heap.size a b := ⟨h.os, h.tape, h.output, h.size, h.block⟩

theorem LkO.drew {w : World} {base : Nat} {v : Value} {l : List Lk} (h : LkO w base v l) : LkO w.drew base v l := h
theorem LkR.drew {w : World} {v : Value} {l : List Lk} (h : LkR w v l) : LkR w.drew v l := h
theorem RowAt.drew {w : World} {b : Nat} {cs : Array Value} {t : TypeId} (h : RowAt w b cs t) : RowAt w.drew b cs t := h
theorem below_drewB {B : Nat} {a w : World} (h : Below B a w) : Below B a w.drew := ⟨h.os, h.tape, h.output, h.size, h.block⟩
/-- A list of the call's own, behind a store below its beginning. -/
theorem LkO.put2 {w : World} {base g : Nat} {v : Value} {l : List Lk} (h : LkO w base v l) (hg : g < base) (x y : Value) : LkO ((w.setCell ⟨g, 0, none⟩ x).setCell ⟨g, 1, none⟩ y) base v l := by
  have hv : v.ownBlock ≠ some g := fun e => by have := (h.blk g e).1; omega
  exact (h.put hv x).put hv y

end Go.Proofs.YtagldlchamlpdaaDoor
