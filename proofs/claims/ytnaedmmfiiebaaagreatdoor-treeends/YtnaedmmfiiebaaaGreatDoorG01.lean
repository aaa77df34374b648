import Derived.Test.YtnaedmmfiiebaaaGreatDoorG00
import Derived.Lib.AppendZeros
import Derived.Laws.ResultCell
namespace Go.Proofs.YtnaedmmfiiebaaaGreatDoor.B
open Go.RowKit

/-- The cells of links. -/
def lks (l : List Lk) : List Value := l.flatMap fun p => [.string p.1, .int .i64 p.2]
theorem lks_cons (p : Lk) (l : List Lk) : lks (p :: l) = .string p.1 :: .int .i64 p.2 :: lks l := by simp [lks]
theorem lks_append (a b : List Lk) : lks (a ++ b) = lks a ++ lks b := by simp [lks]
theorem lks_length (l : List Lk) : (lks l).length = l.length * 2 := by
  induction l with
  | nil => rfl
  | cons p l ih => rw [lks_cons]; simp [ih]; omega
theorem lks_get (l : List Lk) : ∀ j (h : j < l.length), (lks l)[j * 2]? = some (.string l[j].1) ∧ (lks l)[j * 2 + 1]? = some (.int .i64 l[j].2) := by
  induction l with
  | nil => intro j h; simp at h
  | cons p l ih =>
    intro j h
    rw [lks_cons]
    cases j with
    | zero => exact ⟨rfl, rfl⟩
    | succ j =>
      have := ih j (by simpa using h)
      rw [show (j + 1) * 2 = j * 2 + 1 + 1 by omega]
      simpa using this
theorem lks_one (l : List Lk) : ∀ u ∈ lks l, u.oneCell' = true := by
  intro u hu
  simp only [lks, List.mem_flatMap] at hu
  obtain ⟨p, _, h⟩ := hu
  simp at h
  rcases h with rfl | rfl <;> rfl
theorem infoK : (Tryz.prog.info? 179).map (fun i => (i.zero, i.size, i.bytes)) = some (some (.agg #[.string ByteArray.empty, .int .i64 0]), 2, 24) := by kernel_rfl

/-- The texts of links are such as a machine's can be. -/
def OkK (l : List Lk) : Prop := ∀ p ∈ l, p.1.size ≤ 140737488355328
/-- The slice value v reads as the links l. -/
def LkR (w : World) (v : Value) (l : List Lk) : Prop := ∃ a cap, v = .slice a l.length cap ∧ l.length ≤ cap ∧ (a = none → cap = 0) ∧
  ∀ j (h : j < l.length), ∃ g o, a = some ⟨g, o, none⟩ ∧ w.cell? ⟨g, o + j * 2, none⟩ = some (.string l[j].1) ∧ w.cell? ⟨g, o + j * 2 + 1, none⟩ = some (.int .i64 l[j].2)
theorem LkR.below {w w' : World} {v : Value} {l : List Lk} (h : LkR w v l) (hb : Below w.heap.size w w') : LkR w' v l := by
  obtain ⟨a, cap, rfl, hle, hn, hc⟩ := h
  refine ⟨a, cap, rfl, hle, hn, fun j hj => ?_⟩
  obtain ⟨g, o, ha, h1, h2⟩ := hc j hj
  exact ⟨g, o, ha, (hb.cell (p := ⟨g, o + j * 2, none⟩) (World.block_lt_of_cell? w _ h1)).trans h1, (hb.cell (p := ⟨g, o + j * 2 + 1, none⟩) (World.block_lt_of_cell? w _ h2)).trans h2⟩
theorem LkR.form {w : World} {v : Value} {l : List Lk} (h : LkR w v l) : ∃ a c, v = .slice a l.length c := by
  obtain ⟨a, c, rfl, _⟩ := h; exact ⟨a, c, rfl⟩
theorem LkR.of_owns {w : World} {base n : Nat} {v : Value} {l : List Lk} (h : w.ownsRow base 179 2 v n (lks l)) : LkR w v l := by
  have hl := h.1
  rw [lks_length] at hl
  have hl : l.length = n := by omega
  rcases h.2 with ⟨rfl, hn⟩ | ⟨g, cap, cur, rfl, hb, hg, hnc, hcm, hcs, htk⟩
  · have h0 : l.length = 0 := by omega
    exact ⟨none, 0, by rw [h0], by omega, fun _ => rfl, fun j hj => by omega⟩
  · refine ⟨some ⟨g, 0, none⟩, cap, by rw [hl], by omega, fun h => (by cases h), fun j hj => ⟨g, 0, rfl, ?_, ?_⟩⟩
    · rw [Nat.zero_add, h.cellAt (j * 2) (by omega)]; exact (lks_get l j hj).1
    · rw [Nat.zero_add, h.cellAt (j * 2 + 1) (by omega)]; exact (lks_get l j hj).2
theorem LkR.take {w : World} {a : Option Addr} {n m cap : Nat} {l : List Lk} (h : LkR w (.slice a n cap) l) (hm : m ≤ n) : LkR w (.slice a m cap) (l.take m) := by
  obtain ⟨a', cap', he, hle, hn, hc⟩ := h
  cases he
  refine ⟨a, cap, by rw [List.length_take, Nat.min_eq_left hm], by rw [List.length_take]; omega, hn, fun j hj => ?_⟩
  rw [List.length_take] at hj
  obtain ⟨g, o, ha, h1, h2⟩ := hc j (by omega)
  exact ⟨g, o, ha, by rw [List.getElem_take]; exact h1, by rw [List.getElem_take]; exact h2⟩
theorem LkR.nil (w : World) : LkR w (.slice none 0 0) [] := ⟨none, 0, rfl, Nat.le_refl _, fun _ => rfl, fun j h => by simp at h⟩

end Go.Proofs.YtnaedmmfiiebaaaGreatDoor.B

namespace Go.Proofs.YtnaedmmfiiebaaaGreatDoor.B
open Go.RowKit

/-- A list of the call's own that reads as these links. -/
def LkO (w : World) (base : Nat) (v : Value) (l : List Lk) : Prop := w.ownsRow base 179 2 v l.length (lks l)
theorem LkO.at {w : World} {base : Nat} {v : Value} {l : List Lk} (h : LkO w base v l) : LkR w v l := LkR.of_owns h
theorem LkO.form {w : World} {base : Nat} {v : Value} {l : List Lk} (h : LkO w base v l) : ∃ a c, v = .slice a l.length c := h.at.form
theorem LkO.below {w w' : World} {base : Nat} {v : Value} {l : List Lk} (h : LkO w base v l) (hb : Below w.heap.size w w') : LkO w' base v l := by
  refine ⟨h.1, ?_⟩
  rcases h.2 with h' | ⟨g, cap, cur, h', h1, h2, hr⟩
  · exact .inl h'
  · refine .inr ⟨g, cap, cur, h', h1, ?_, hr⟩
    have hg : g < w.heap.size := by
      rcases Nat.lt_or_ge g w.heap.size with h' | h'
      · exact h'
      · rw [Array.getElem?_eq_none h'] at h2; cases h2
    rw [hb.block g hg]; exact h2
theorem LkO.mono {w : World} {b b2 : Nat} {v : Value} {l : List Lk} (h : LkO w b v l) (hb : b2 ≤ b) : LkO w b2 v l := by
  refine ⟨h.1, ?_⟩
  rcases h.2 with h' | ⟨g, cap, cur, h', h1, hr⟩
  · exact .inl h'
  · exact .inr ⟨g, cap, cur, h', Nat.le_trans hb h1, hr⟩
theorem LkO.nil (w : World) (base : Nat) : LkO w base (.slice none 0 0) [] := World.ownsRow_nil _ _ _ _

/-- append(v, s...) of links. -/
theorem append_lks (base : Nat) (v s : Value) (xs us : List Lk) (w : World) (hown : LkO w base v xs) (hs : LkR w s us) (hb : (xs.length + us.length) * 24 ≤ 140737488355328) (hbase : base ≤ w.heap.size) :
    ∃ a' cap' w', (Builtin.append_ #[148, 148] 148 #[v, s]).run Tryz.prog w = .ok (.slice a' (xs.length + us.length) cap') w' ∧ LkO w' base (.slice a' (xs.length + us.length) cap') (xs ++ us) ∧ w.grownBy w' v.ownBlock := by
  obtain ⟨i0, hi, hz, hsz, hby⟩ := info_parts infoK
  obtain ⟨a, cap, rfl, hle, hnil, hc⟩ := hs
  have hf0 : ∃ a' c', v = .slice a' xs.length c' := hown.form
  unfold LkO at hown ⊢
  rw [List.length_append, lks_append]
  cases a with
  | none =>
    have h0 : us = [] := by
      cases us with
      | nil => rfl
      | cons u r => obtain ⟨g, o, he, _⟩ := hc 0 (by simp); cases he
    subst h0
    rw [hnil rfl]
    have hr := run_append_owned_none (P := Tryz.prog) w base 148 148 179 i0 2 Tryz.underlying148 hi v xs.length (lks xs) hown
    obtain ⟨a', c', rfl⟩ := hf0
    exact ⟨a', c', w, hr, by simpa [lks] using hown, ⟨rfl, rfl, rfl, Nat.le_refl _, fun _ _ _ => rfl⟩⟩
  | some ad =>
    obtain ⟨v', w', hr, hown', hgr, _⟩ := run_append_own (P := Tryz.prog) w base 148 148 179 i0 _ 2 24 Tryz.underlying148 hi hz hsz hby rfl (by decide) v xs.length (lks xs) hown ad us.length cap (lks us) (lks_length us) (fun j u hj => by
      have hj' := (List.getElem?_eq_some_iff.1 hj).1
      rw [lks_length] at hj'
      obtain ⟨g, o, he, c1, c2⟩ := hc (j / 2) (by omega)
      cases he
      have hg := lks_get us (j / 2) (by omega)
      rw [add_plain']
      rcases Nat.mod_two_eq_zero_or_one j with hm | hm
      · have e : j / 2 * 2 = j := by omega
        rw [e] at hg c1
        rw [hg.1] at hj; cases hj; exact c1
      · have e : j / 2 * 2 + 1 = j := by omega
        rw [Nat.add_assoc, e] at c2
        rw [e] at hg
        rw [hg.2] at hj; cases hj; exact c2) (lks_one us) (by unfold maxLen; omega) hb hbase
    have hf : ∃ a' c', v' = .slice a' (xs.length + us.length) c' := by
      rcases hown'.2 with ⟨rfl, h0⟩ | ⟨g, cap, cur, rfl, _⟩
      · exact ⟨none, 0, by rw [h0]⟩
      · exact ⟨_, _, rfl⟩
    obtain ⟨a', c', rfl⟩ := hf
    exact ⟨a', c', w', hr, hown', hgr⟩

theorem LkO.blk {w : World} {base : Nat} {v : Value} {l : List Lk} (h : LkO w base v l) : ∀ k, v.ownBlock = some k → base ≤ k ∧ k < w.heap.size := World.ownsRow.lt h
theorem lkR_lit (w : World) (p : Lk) (t : TypeId) : LkR (w.alloc (.cells #[.string p.1, .int .i64 p.2] t)) (.slice (some ⟨w.heap.size, 0, none⟩) 1 1) [p] := by
  have hb := boxed_new w #[.string p.1, .int .i64 p.2] t
  refine ⟨_, _, rfl, Nat.le_refl _, fun h => (by cases h), fun j hj => ⟨_, _, rfl, ?_, ?_⟩⟩
  · have : j = 0 := by simpa using hj
    subst this
    exact hb.2 0 (by simp)
  · have : j = 0 := by simpa using hj
    subst this
    exact hb.2 1 (by simp)
end Go.Proofs.YtnaedmmfiiebaaaGreatDoor.B

namespace Go.Proofs.YtnaedmmfiiebaaaGreatDoor.B
open Go.RowKit

set_option maxRecDepth 20000 in
theorem slToK (w : World) (a : Option Addr) (n cap m : Nat) (hm : m ≤ cap) : (Instr.sliceAt 148 (.slice a n cap) none (some (.int .i64 (m : Int))) none).run Tryz.prog w = .ok (.slice a m cap) w := by
  rw [run_sliceAt_slice (h := Tryz.underlying148), run_slice_h (ht := Tryz.underlying148) (h0 := by omega) (h2 := by omega)]
  have hz : (sizeOf (Tryz.prog.elem 148)).run Tryz.prog w = .ok 2 w := by kernel_rfl
  rw [hz]
  simp [Result.andThen, sliced, Addr.add]
set_option maxRecDepth 20000 in
theorem LkR.drop {w : World} {a : Option Addr} {n m cap : Nat} {l : List Lk} (h : LkR w (.slice a n cap) l) (hm : m ≤ n) :
    ∃ a', LkR w (.slice a' (n - m) (cap - m)) (l.drop m) ∧ ∀ w', (Instr.sliceAt 148 (.slice a n cap) (some (.int .i64 (m : Int))) none none).run Tryz.prog w' = .ok (.slice a' (n - m) (cap - m)) w' := by
  obtain ⟨a', cap', he, hle, hn, hc⟩ := h
  cases he
  refine ⟨if cap = m then a else a.map (·.add (m * 2)), ⟨_, _, by rw [List.length_drop], by rw [List.length_drop]; omega, fun ha => ?_, fun j hj => ?_⟩, fun w' => ?_⟩
  · split at ha
    · omega
    · cases a with
      | none => have := hn rfl; omega
      | some x => cases ha
  · rw [List.length_drop] at hj
    obtain ⟨g, o, ha, h1, h2⟩ := hc (m + j) (by omega)
    subst ha
    refine ⟨g, o + m * 2, ?_, ?_, ?_⟩
    · rw [if_neg (by omega)]; simp [add_plain']
    · rw [List.getElem_drop, show o + m * 2 + j * 2 = o + (m + j) * 2 by omega]; exact h1
    · rw [List.getElem_drop, show o + m * 2 + j * 2 + 1 = o + (m + j) * 2 + 1 by omega]; exact h2
  · rw [run_sliceAt_slice (h := Tryz.underlying148), run_slice_l (ht := Tryz.underlying148) (h0 := by omega) (h1 := by omega)]
    have hz : (sizeOf (Tryz.prog.elem 148)).run Tryz.prog w' = .ok 2 w' := by kernel_rfl
    rw [hz]
    simp [Result.andThen, sliced]

end Go.Proofs.YtnaedmmfiiebaaaGreatDoor.B

namespace Go.Proofs.YtnaedmmfiiebaaaGreatDoor.B
open Go.RowKit

theorem results_row_tmp {P : Program} {fn : Func} {p u : Tmp} {ty : TypeId} (h : fn.results = #[.cell p ty, .tmp u]) (tmps : Array Value) (w : World) (g : Nat) (t : TypeId) (cs : Array Value) (fr : Nat × Nat) (d : TypeDesc)
    (hp : tmps.getD p undef = .pointer (some ⟨g, 0, none⟩)) (hg : w.heap[g]? = some (.cells cs t fr)) (hu : P.underlying ty = some d) (hd : (match d with | .struct _ | .array _ _ => true | _ => false) = true) (hi : (P.info? ty).map (·.size) = some cs.size) :
    (results fn tmps).run P w = .ok (.tuple #[.agg cs, tmps.getD u undef]) w := by
  rw [results_cell_tmp h tmps P w, hp]
  simp [asAddr, run_loadVar_row w g t ty cs fr d hg hu hd hi, Result.andThen]
theorem results_cell_4 {fn : Func} {p q u v : Tmp} {t1 t2 : TypeId} (h : fn.results = #[.cell p t1, .tmp u, .cell q t2, .tmp v]) (tmps : Array Value) (P : Program) (w : World) :
    (results fn tmps).run P w =
      ((asAddr (tmps.getD p undef)).run P w).andThen fun a w₁ => ((loadVar t1 a).run P w₁).andThen fun x w₂ => ((asAddr (tmps.getD q undef)).run P w₂).andThen fun b w₃ => ((loadVar t2 b).run P w₃).andThen fun y w₄ => .ok (.tuple #[x, tmps.getD u undef, y, tmps.getD v undef]) w₄ := by
  simp only [results, h]
  simp [Sem.run_bind, Result.andThen]
theorem results_row_4 {P : Program} {fn : Func} {p q u v : Tmp} {ty t2 : TypeId} (h : fn.results = #[.cell p ty, .tmp u, .cell q t2, .tmp v]) (tmps : Array Value) (w : World) (g1 g2 : Nat) (t t' : TypeId) (cs cs2 : Array Value) (fr fr2 : Nat × Nat) (d d2 : TypeDesc)
    (hp : tmps.getD p undef = .pointer (some ⟨g1, 0, none⟩)) (hq : tmps.getD q undef = .pointer (some ⟨g2, 0, none⟩)) (hg : w.heap[g1]? = some (.cells cs t fr)) (hg2 : w.heap[g2]? = some (.cells cs2 t' fr2)) (hu : P.underlying ty = some d) (hu2 : P.underlying t2 = some d2) (hd : (match d with | .struct _ | .array _ _ => true | _ => false) = true) (hd2 : (match d2 with | .struct _ | .array _ _ => true | _ => false) = true)
    (hi : (P.info? ty).map (·.size) = some cs.size) (hi2 : (P.info? t2).map (·.size) = some cs2.size) :
    (results fn tmps).run P w = .ok (.tuple #[.agg cs, tmps.getD u undef, .agg cs2, tmps.getD v undef]) w := by
  rw [results_cell_4 h tmps P w, hp, hq]
  simp [asAddr, run_loadVar_row w g1 t ty cs fr d hg hu hd hi, run_loadVar_row w g2 t' t2 cs2 fr2 d2 hg2 hu2 hd2 hi2, Result.andThen]
theorem set_two {w : World} {b : Nat} {x y : Value} {t : TypeId} (h : w.heap[b]? = some (.cells #[x, y] t (0, 0))) (x' y' : Value) :
    ((w.setCell ⟨b, 0, none⟩ x').setCell ⟨b, 1, none⟩ y').heap[b]? = some (.cells #[x', y'] t (0, 0)) := by
  rw [heap_setCell_same _ b 1 _ t _ (heap_setCell_same w b 0 _ t _ h)]
  rfl
theorem below_two {B : Nat} {w0 w : World} {b : Nat} {x y : Value} (h : Below B w0 w) (hb : B ≤ b) : Below B w0 ((w.setCell ⟨b, 0, none⟩ x).setCell ⟨b, 1, none⟩ y) := (h.setCell hb _).setCell hb _
/-- A block that is a whole row. -/
def RowAt (w : World) (b : Nat) (cs : Array Value) (t : TypeId) : Prop := w.heap[b]? = some (.cells cs t (0, 0))
theorem RowAt.cell {w : World} {b : Nat} {cs : Array Value} {t : TypeId} (h : RowAt w b cs t) (j : Nat) (hj : j < cs.size) : w.cell? ⟨b, j, none⟩ = some cs[j] := by
  rw [cell_of_row _ _ _ _ _ _ h]; simp [hj]
theorem RowAt.c0 {w : World} {b : Nat} {x y : Value} {t : TypeId} (h : RowAt w b #[x, y] t) : w.cell? ⟨b, 0, none⟩ = some x := h.cell 0 (by simp)
theorem RowAt.c1 {w : World} {b : Nat} {x y : Value} {t : TypeId} (h : RowAt w b #[x, y] t) : w.cell? ⟨b, 1, none⟩ = some y := h.cell 1 (by simp)
theorem RowAt.free {w : World} {b : Nat} {cs : Array Value} {t : TypeId} (h : RowAt w b cs t) (j : Nat) : w.frozen? ⟨b, j, none⟩ = false := frozen_of_row _ _ _ _ _ h
theorem RowAt.lt {w : World} {b : Nat} {cs : Array Value} {t : TypeId} (h : RowAt w b cs t) : b < w.heap.size := by
  rcases Nat.lt_or_ge b w.heap.size with h' | h'
  · exact h'
  · unfold RowAt at h; rw [Array.getElem?_eq_none h'] at h; cases h
theorem RowAt.below {w w' : World} {b : Nat} {cs : Array Value} {t : TypeId} (h : RowAt w b cs t) (hb : Below w.heap.size w w') : RowAt w' b cs t := by
  unfold RowAt; rw [hb.block b h.lt]; exact h
theorem RowAt.new (w : World) (cs : Array Value) (t : TypeId) : RowAt (w.alloc (.cells cs t)) w.heap.size cs t := heap_alloc_new w _
theorem RowAt.boxed {w : World} {b : Nat} {cs : Array Value} {t : TypeId} (h : RowAt w b cs t) : Boxed b cs.toList w := ⟨h.lt, fun j hj => by
  have := h.cell j (by simpa using hj)
  simpa using this⟩
theorem RowAt.two {w : World} {b : Nat} {x y : Value} {t : TypeId} (h : RowAt w b #[x, y] t) (x' y' : Value) : RowAt ((w.setCell ⟨b, 0, none⟩ x').setCell ⟨b, 1, none⟩ y') b #[x', y'] t := set_two h x' y'
theorem RowAt.other {w : World} {b g j : Nat} {cs : Array Value} {t : TypeId} (h : RowAt w b cs t) (hne : b ≠ g) (u : Value) : RowAt (w.setCell ⟨g, j, none⟩ u) b cs t := by
  unfold RowAt; rw [Below.heap_setCell _ _ _ _ (fun e => hne e)]; exact h
theorem LkR.cap {w : World} {a : Option Addr} {n c : Nat} {l : List Lk} (h : LkR w (.slice a n c) l) : l.length ≤ c := by
  obtain ⟨_, _, he, h, _⟩ := h; cases he; exact h
theorem lks_set (p : Lk) : ∀ (l : List Lk) (k : Nat), ((lks l).set (k * 2) (.string p.1)).set (k * 2 + 1) (.int .i64 p.2) = lks (l.set k p)
  | [], k => by simp [lks]
  | q :: l, 0 => by
    rw [List.set_cons_zero, lks_cons, lks_cons]
    rfl
  | q :: l, k + 1 => by
    rw [List.set_cons_succ, lks_cons, lks_cons, ← lks_set p l k, show (k + 1) * 2 = k * 2 + 1 + 1 by omega]
    simp only [List.set_cons_succ]
/-- What lies below B is as it was. -/
theorem LkO.under {w w' : World} {B base : Nat} {v : Value} {l : List Lk} (h : LkO w base v l) (hv : ∀ k, v.ownBlock = some k → k < B) (hb : Below B w w') : LkO w' base v l := by
  refine ⟨h.1, ?_⟩
  rcases h.2 with h' | ⟨g, cap, cur, h', h1, h2, hr⟩
  · exact .inl h'
  · refine .inr ⟨g, cap, cur, h', h1, ?_, hr⟩
    rw [hb.block g (hv g (by rw [h']; rfl))]; exact h2
/-- A store into another block. -/
theorem LkO.put {w : World} {base g j : Nat} {v : Value} {l : List Lk} (h : LkO w base v l) (hv : v.ownBlock ≠ some g) (u : Value) : LkO (w.setCell ⟨g, j, none⟩ u) base v l := by
  refine ⟨h.1, ?_⟩
  rcases h.2 with h' | ⟨g', cap, cur, h', h1, h2, hr⟩
  · exact .inl h'
  · refine .inr ⟨g', cap, cur, h', h1, ?_, hr⟩
    rw [Below.heap_setCell _ _ _ _ (fun e => hv (by have : g' = g := e; rw [h', this]; rfl))]; exact h2
theorem LkO.cnt {w : World} {base n cap : Nat} {a : Option Addr} {l : List Lk} (h : LkO w base (.slice a n cap) l) : n = l.length := by
  obtain ⟨a', c', he⟩ := h.form
  simp only [Value.slice.injEq] at he
  exact he.2.1
/-- A pair is stored. -/
theorem LkO.wrote {w : World} {base g n cap : Nat} {l : List Lk} (h : LkO w base (.slice (some ⟨g, 0, none⟩) n cap) l) (k : Nat) (p : Lk) :
    LkO ((w.setCell ⟨g, k * 2, none⟩ (.string p.1)).setCell ⟨g, k * 2 + 1, none⟩ (.int .i64 p.2)) base (.slice (some ⟨g, 0, none⟩) n cap) (l.set k p) := by
  obtain rfl := h.cnt
  unfold LkO at h
  have := (World.ownsRow.stored (World.ownsRow.stored h (k * 2) (.string p.1)).1 (k * 2 + 1) (.int .i64 p.2)).1
  rw [lks_set] at this
  unfold LkO; rw [List.length_set]; exact this
theorem _root_.Go.Proofs.YtnaedmmfiiebaaaGreatDoor.Boxed.put {b g j : Nat} {cs : List Value} {w : World} (h : Boxed b cs w) (hne : b ≠ g) (u : Value) : Boxed b cs (w.setCell ⟨g, j, none⟩ u) :=
  ⟨by simpa [World.setCell] using h.1, fun i hi => (World.cell?_of_block (a := ⟨b, i, none⟩) (Below.heap_setCell _ _ _ _ (fun e => hne e))).trans (h.2 i hi)⟩
/-- The cells of an owned list, ahead of a store. -/
theorem LkO.spot {w : World} {base g n cap : Nat} {l : List Lk} (h : LkO w base (.slice (some ⟨g, 0, none⟩) n cap) l) (k : Nat) (hk : k < l.length) :
    (∃ u, w.cell? ⟨g, k * 2, none⟩ = some u) ∧ (∃ u, w.cell? ⟨g, k * 2 + 1, none⟩ = some u) ∧ w.frozen? ⟨g, k * 2, none⟩ = false ∧ w.frozen? ⟨g, k * 2 + 1, none⟩ = false := by
  obtain rfl := h.cnt
  unfold LkO at h
  have hq : ∀ j, j < l.length * 2 → ∃ u, w.cell? ⟨g, j, none⟩ = some u := fun j hj => by
    rw [World.ownsRow.cellAt h j hj]
    exact ⟨_, List.getElem?_eq_getElem (by rw [lks_length]; exact hj)⟩
  exact ⟨hq _ (by omega), hq _ (by omega), World.ownsRow.frozenAt h _, World.ownsRow.frozenAt h _⟩
theorem LkO.has {w : World} {base : Nat} {v : Value} {l : List Lk} (h : LkO w base v l) (hl : 0 < l.length) : ∃ g c, v = .slice (some ⟨g, 0, none⟩) l.length c ∧ base ≤ g ∧ g < w.heap.size ∧ l.length ≤ c := by
  rcases h.2 with ⟨_, h0⟩ | ⟨g, cap, cur, rfl, h1, h2, h3, _⟩
  · omega
  · exact ⟨g, cap, rfl, h1, (h.blk g rfl).2, h3⟩

theorem LkR.spot {w : World} {a : Option Addr} {n c : Nat} {l : List Lk} (h : LkR w (.slice a n c) l) (j : Nat) (hj : j < l.length) :
    ∃ g o, a = .some ⟨g, o, none⟩ ∧ w.cell? ⟨g, o + j * 2, none⟩ = .some (.string l[j].1) ∧ w.cell? ⟨g, o + j * 2 + 1, none⟩ = .some (.int .i64 l[j].2) := by
  obtain ⟨a', c', he, _, _, hc⟩ := h
  cases he
  exact hc j hj
theorem undrewB {a b : World} (h : Below a.drew.heap.size a.drew b) : Below a.heap.size a b := ⟨h.os, h.tape, h.output, h.size, h.block⟩

theorem LkO.drew {w : World} {base : Nat} {v : Value} {l : List Lk} (h : LkO w base v l) : LkO w.drew base v l := h
theorem LkR.drew {w : World} {v : Value} {l : List Lk} (h : LkR w v l) : LkR w.drew v l := h
theorem RowAt.drew {w : World} {b : Nat} {cs : Array Value} {t : TypeId} (h : RowAt w b cs t) : RowAt w.drew b cs t := h
theorem below_drewB {B : Nat} {a w : World} (h : Below B a w) : Below B a w.drew := ⟨h.os, h.tape, h.output, h.size, h.block⟩
/-- A list of the call's own, behind a store below its beginning. -/
theorem LkO.put2 {w : World} {base g : Nat} {v : Value} {l : List Lk} (h : LkO w base v l) (hg : g < base) (x y : Value) : LkO ((w.setCell ⟨g, 0, none⟩ x).setCell ⟨g, 1, none⟩ y) base v l := by
  have hv : v.ownBlock ≠ some g := fun e => by have := (h.blk g e).1; omega
  exact (h.put hv x).put hv y

end Go.Proofs.YtnaedmmfiiebaaaGreatDoor.B

namespace Go.Proofs.YtnaedmmfiiebaaaGreatDoor

/-- The sum of the first i sizes. -/
def pre (l : List Int) (i : Nat) : Int := (l.take i).sum
theorem pre_zero (l : List Int) : pre l 0 = 0 := by simp [pre]
theorem pre_succ (l : List Int) (i : Nat) (h : i < l.length) : pre l (i + 1) = pre l i + l[i] := by
  unfold pre
  rw [List.take_succ_eq_append_getElem h, List.sum_append]; simp
def FineL (l : List Int) : Prop := ∀ i (h : i < l.length), 1 ≤ l[i] ∧ l[i] ≤ 4072
theorem pre_mono {l : List Int} (hf : FineL l) (i : Nat) : ∀ j, i ≤ j → j ≤ l.length → pre l i + (j - i : Nat) ≤ pre l j := by
  intro j hij
  induction j with
  | zero => intro _; have : i = 0 := by omega
            subst this; simp
  | succ j ih =>
    intro hj
    by_cases h : i = j + 1
    · subst h; simp
    · have h1 := ih (by omega) (by omega)
      have h2 := pre_succ l j (by omega)
      have h3 := (hf j (by omega)).1
      omega
theorem pre_bound {l : List Int} (hf : FineL l) : ∀ j, j ≤ l.length → 0 ≤ pre l j ∧ pre l j ≤ 4072 * (j : Int) := by
  intro j
  induction j with
  | zero => intro _; rw [pre_zero]; omega
  | succ j ih =>
    intro hj
    have h1 := ih (by omega)
    have h2 := pre_succ l j (by omega)
    have h3 := hf j (by omega)
    omega

def gapC (l : List Int) (i : Nat) : Nat := (pre l i - (pre l l.length - pre l i)).natAbs
def gapP (l : List Int) (i : Nat) : Nat := (pre l i - (pre l l.length - pre l (i + 1))).natAbs
/-- The least place from 1 to hi at which f is least. -/
def IsBest (f : Nat → Nat) (hi i : Nat) : Prop := (1 ≤ i ∧ i ≤ hi) ∧ ∀ j, 1 ≤ j → j ≤ hi → f i ≤ f j ∧ (j < i → f i < f j)
/-- A place behind which a thing first holds. -/
theorem first_place (p : Nat → Prop) [DecidablePred p] : ∀ n, p n → ∃ j, j ≤ n ∧ p j ∧ ∀ k, k < j → ¬ p k := by
  intro n
  induction n using Nat.strongRecOn with
  | ind n ih =>
    intro hp
    by_cases h : ∃ k, k < n ∧ p k
    · obtain ⟨k, hk, hpk⟩ := h
      obtain ⟨j, h1, h2, h3⟩ := ih k hk hpk
      exact ⟨j, by omega, h2, h3⟩
    · exact ⟨n, Nat.le_refl _, hp, fun k hk hpk => h ⟨k, hk, hpk⟩⟩

theorem cut_even {l : List Int} {m : Int} {i : Nat} (hf : FineL l) (h2 : 2 ≤ l.length) (hm : ∀ k (h : k < l.length), l[k] ≤ m) (hb : IsBest (gapC l) (l.length - 1) i) : (gapC l i : Int) ≤ m := by
  suffices h : ∃ j, 1 ≤ j ∧ j ≤ l.length - 1 ∧ (gapC l j : Int) ≤ m by
    obtain ⟨j, j1, j2, j3⟩ := h
    have := (hb.2 j j1 j2).1
    omega
  obtain ⟨j, h1, h2', h3⟩ := first_place (fun j => pre l l.length ≤ 2 * pre l j) l.length (by have := (pre_bound hf l.length (Nat.le_refl _)).1; show _ ≤ _; omega)
  have T0 := pre_mono hf 0 l.length (by omega) (by omega)
  rw [pre_zero] at T0
  have hj0 : j ≠ 0 := by rintro rfl; rw [pre_zero] at h2'; omega
  obtain ⟨k, rfl⟩ : ∃ k, j = k + 1 := ⟨j - 1, by omega⟩
  have h4 := h3 k (by omega)
  have hk := pre_succ l k (by omega)
  have hmk := hm k (by omega)
  have hp := (pre_bound hf k (by omega)).1
  have hq := pre_mono hf (k + 1) l.length (by omega) (Nat.le_refl _)
  by_cases ha : k + 1 = l.length
  · refine ⟨k, by omega, by omega, ?_⟩
    rw [ha] at hk
    unfold gapC; omega
  · by_cases hz : k = 0
    · subst hz
      rw [pre_zero] at *
      exact ⟨0 + 1, by omega, by omega, by unfold gapC; omega⟩
    · by_cases hc : (gapC l (k + 1) : Int) ≤ m
      · exact ⟨k + 1, by omega, by omega, hc⟩
      · refine ⟨k, by omega, by omega, ?_⟩
        unfold gapC at hc ⊢; omega

theorem pivot_even {l : List Int} {m : Int} {i : Nat} (hf : FineL l) (h2 : 3 ≤ l.length) (hm : ∀ k (h : k < l.length), l[k] ≤ m) (hb : IsBest (gapP l) (l.length - 2) i) : (gapP l i : Int) ≤ m := by
  suffices h : ∃ j, 1 ≤ j ∧ j ≤ l.length - 2 ∧ (gapP l j : Int) ≤ m by
    obtain ⟨j, j1, j2, j3⟩ := h
    have := (hb.2 j j1 j2).1
    omega
  have B := fun j hj => (pre_bound hf j hj).1
  obtain ⟨j, h1, h2', h3⟩ := first_place (fun j => pre l l.length ≤ pre l j + pre l (j + 1)) (l.length - 1) (by
    have := B (l.length - 1) (by omega); show _ ≤ _; rw [show l.length - 1 + 1 = l.length by omega]; omega)
  have hj0 : j ≠ 0 := by
    rintro rfl
    have := pre_mono hf (0 + 1) l.length (by omega) (by omega)
    rw [pre_zero] at h2'; omega
  obtain ⟨k, rfl⟩ : ∃ k, j = k + 1 := ⟨j - 1, by omega⟩
  have h4 := h3 k (by omega)
  have hk := pre_succ l k (by omega)
  have hk1 := pre_succ l (k + 1) (by omega)
  have hmk := hm k (by omega)
  have hmk1 := hm (k + 1) (by omega)
  have hp := B k (by omega)
  have hq := pre_mono hf (k + 1 + 1) l.length (by omega) (Nat.le_refl _)
  by_cases ha : k + 1 = l.length - 1
  · refine ⟨k, by omega, by omega, ?_⟩
    rw [show k + 1 + 1 = l.length by omega] at hk1
    unfold gapP; omega
  · by_cases hz : k = 0
    · subst hz
      rw [pre_zero] at *
      exact ⟨0 + 1, by omega, by omega, by unfold gapP; omega⟩
    · by_cases hc : (gapP l (k + 1) : Int) ≤ m
      · exact ⟨k + 1, by omega, by omega, hc⟩
      · refine ⟨k, by omega, by omega, ?_⟩
        unfold gapP at hc ⊢; omega


theorem IsBest.one (f : Nat → Nat) : IsBest f 1 1 := ⟨⟨Nat.le_refl _, Nat.le_refl _⟩, fun j h1 h2 => by
  have : j = 1 := by omega
  subst this; exact ⟨Nat.le_refl _, fun h => by omega⟩⟩
theorem IsBest.stepNew {f : Nat → Nat} {k i : Nat} (h : IsBest f k i) (hf : f (k + 1) < f i) : IsBest f (k + 1) (k + 1) :=
  ⟨⟨by omega, Nat.le_refl _⟩, fun j h1 h2 => by
    by_cases hj : j = k + 1
    · subst hj; exact ⟨Nat.le_refl _, fun h => by omega⟩
    · have := (h.2 j h1 (by omega)).1
      exact ⟨by omega, fun _ => by omega⟩⟩
theorem IsBest.stepOld {f : Nat → Nat} {k i : Nat} (h : IsBest f k i) (hf : ¬ f (k + 1) < f i) : IsBest f (k + 1) i :=
  ⟨⟨h.1.1, by have := h.1.2; omega⟩, fun j h1 h2 => by
    by_cases hj : j = k + 1
    · subst hj; exact ⟨by omega, fun h' => by have := h.1.2; omega⟩
    · exact h.2 j h1 (by omega)⟩
theorem gapC_lt {l : List Int} (hf : FineL l) (j : Nat) (h1 : 1 ≤ j) (h2 : j + 1 ≤ l.length) : (gapC l j : Int) < pre l l.length := by
  have a := pre_mono hf 0 j (by omega) (by omega)
  have b := pre_mono hf j l.length (by omega) (by omega)
  rw [pre_zero] at a
  unfold gapC; omega
theorem gapP_lt {l : List Int} (hf : FineL l) (j : Nat) (h1 : 1 ≤ j) (h2 : j + 2 ≤ l.length) : (gapP l j : Int) < pre l l.length := by
  have a := pre_mono hf 0 j (by omega) (by omega)
  have b := pre_mono hf (j + 1) l.length (by omega) (by omega)
  have c := pre_mono hf j (j + 1) (by omega) (by omega)
  rw [pre_zero] at a
  unfold gapP; omega

end Go.Proofs.YtnaedmmfiiebaaaGreatDoor
