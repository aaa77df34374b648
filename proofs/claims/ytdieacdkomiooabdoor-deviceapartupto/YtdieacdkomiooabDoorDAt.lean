import Derived.Test.YtdieacdkomiooabDoorGE
import Derived.Test.YtdieacdkomiooabDoorErrs3
import Derived.Deep.QuietTactic
import Derived.BigQuiet
namespace Go.Proofs.YtdieacdkomiooabDoor
open Go.RowKit Go.Maps

def secCells (l : List Sec) : List Value := l.flatMap fun x => [.int .i64 x.ix, .string x.dat]
def fateCells (l : List Fate) : List Value := l.flatMap fun f => [.int .i64 f.ix, .int .i64 f.kind, .int .i64 f.cut, .string f.junk]
theorem secCells_cons (x : Sec) (l : List Sec) : secCells (x :: l) = .int .i64 x.ix :: .string x.dat :: secCells l := rfl
theorem fateCells_cons (f : Fate) (l : List Fate) : fateCells (f :: l) = .int .i64 f.ix :: .int .i64 f.kind :: .int .i64 f.cut :: .string f.junk :: fateCells l := rfl
theorem secCells_app (l m : List Sec) : secCells (l ++ m) = secCells l ++ secCells m := by simp [secCells]
theorem fateCells_app (l m : List Fate) : fateCells (l ++ m) = fateCells l ++ fateCells m := by simp [fateCells]
theorem secCells_len : ∀ l : List Sec, (secCells l).length = l.length * 2
  | [] => rfl
  | x :: r => by rw [secCells_cons]; simp only [List.length_cons, secCells_len r]; omega
theorem fateCells_len : ∀ l : List Fate, (fateCells l).length = l.length * 4
  | [] => rfl
  | x :: r => by rw [fateCells_cons]; simp only [List.length_cons, fateCells_len r]; omega
theorem secCells_get : ∀ (l : List Sec) (i : Nat) (h : i < l.length), (secCells l)[i * 2]? = some (.int .i64 l[i].ix) ∧ (secCells l)[i * 2 + 1]? = some (.string l[i].dat)
  | [], _, h => absurd h (by simp)
  | x :: r, 0, _ => ⟨rfl, rfl⟩
  | x :: r, i + 1, h => by
    have ih := secCells_get r i (by simpa using h)
    rw [secCells_cons, show (i + 1) * 2 = i * 2 + 1 + 1 by omega]
    simpa using ih
theorem fateCells_get : ∀ (l : List Fate) (i : Nat) (h : i < l.length), (fateCells l)[i * 4]? = some (.int .i64 l[i].ix) ∧ (fateCells l)[i * 4 + 1]? = some (.int .i64 l[i].kind) ∧ (fateCells l)[i * 4 + 2]? = some (.int .i64 l[i].cut) ∧ (fateCells l)[i * 4 + 3]? = some (.string l[i].junk)
  | [], _, h => absurd h (by simp)
  | x :: r, 0, _ => ⟨rfl, rfl, rfl, rfl⟩
  | x :: r, i + 1, h => by
    have ih := fateCells_get r i (by simpa using h)
    rw [fateCells_cons, show (i + 1) * 4 = i * 4 + 1 + 1 + 1 + 1 by omega]
    simpa using ih

/-- Of the blocks that were there those that F holds may have turned; the others are as they were. F': what is held behind it. -/
structure Step (F F' : Nat → Prop) (w w' : World) : Prop where
  os : w'.os = w.os
  tape : w'.tape = w.tape
  output : w'.output = w.output
  size : w.heap.size ≤ w'.heap.size
  block : ∀ k, k < w.heap.size → ¬ F k → w'.heap[k]? = w.heap[k]?
  sub : ∀ k, F' k → F k ∨ w.heap.size ≤ k
theorem Step.refl (F : Nat → Prop) (w : World) : Step F F w w := ⟨rfl, rfl, rfl, Nat.le_refl _, fun _ _ _ => rfl, fun _ h => .inl h⟩
theorem Step.trans {F G H : Nat → Prop} {a b c : World} (h : Step F G a b) (k : Step G H b c) : Step F H a c :=
  ⟨k.os.trans h.os, k.tape.trans h.tape, k.output.trans h.output, Nat.le_trans h.size k.size,
    fun i hi hn => (k.block i (Nat.lt_of_lt_of_le hi h.size) (fun hg => (h.sub i hg).elim hn (by omega))).trans (h.block i hi hn),
    fun i hi => (k.sub i hi).elim (fun hg => h.sub i hg) (fun hs => .inr (Nat.le_trans h.size hs))⟩
theorem Step.of_below {F : Nat → Prop} {w w' : World} (h : Below w.heap.size w w') : Step F F w w' := ⟨h.os, h.tape, h.output, h.size, fun k hk _ => h.block k hk, fun _ h => .inl h⟩
theorem Step.below {F F' : Nat → Prop} {w w' : World} {base : Nat} (h : Step F F' w w') (hF : ∀ k, F k → base ≤ k) (hb : base ≤ w.heap.size) : Below base w w' :=
  ⟨h.os, h.tape, h.output, h.size, fun k hk => h.block k (Nat.lt_of_lt_of_le hk hb) (fun hf => by have := hF k hf; omega)⟩
theorem Step.of_grown {F : Nat → Prop} {w w' : World} {r : Option Nat} (h : w.grownBy w' r) (hr : ∀ j, r = some j → F j ∨ w.heap.size ≤ j) : Step F F w w' :=
  ⟨h.os, h.tape, h.output, h.size, fun k hk hn => h.block k hk (fun e => (hr k e.symm).elim hn (by omega)), fun _ h => .inl h⟩
theorem Step.cell {F F' : Nat → Prop} {w w' : World} (h : Step F F' w w') {a : Addr} {v : Value} (hc : w.cell? a = some v) (hn : ¬ F a.block) : w'.cell? a = some v :=
  (World.cell?_of_block (a := a) (h.block a.block (World.block_lt_of_cell? w a hc) hn)).trans hc

theorem below_drewN {B : Nat} {a w : World} (h : Below B a w) (n : Nat) : Below B a (w.drewN n) := ⟨h.os, h.tape, h.output, h.size, h.block⟩
/-- A row of this world whose block is as it was. -/
theorem owns_blk {w : World} {base e size n : Nat} {v : Value} {xs : List Value} (h : w.ownsRow base e size v n xs) (k : Nat) (hk : v.ownBlock = some k) : base ≤ k ∧ k < w.heap.size ∧ ∃ cur, w.heap[k]? = some (.cells cur e (0, 0)) := by
  rcases h.2 with ⟨h', _⟩ | ⟨g, cap, cur, h', hb, hg, _⟩
  · rw [h'] at hk; simp [Value.ownBlock] at hk
  · rw [h'] at hk
    simp only [Value.ownBlock, Option.some.injEq] at hk
    subst hk
    exact ⟨hb, (Array.getElem?_eq_some_iff.1 hg).1, cur, hg⟩
theorem owns_block {w w' : World} {b e size n : Nat} {v : Value} {xs : List Value} (ho : w.ownsRow b e size v n xs) (hb : ∀ g, v.ownBlock = some g → w'.heap[g]? = w.heap[g]?) : w'.ownsRow b e size v n xs := by
  refine ⟨ho.1, ?_⟩
  rcases ho.2 with h' | ⟨g, cap, cur, h', h1, hg, hr⟩
  · exact .inl h'
  · exact .inr ⟨g, cap, cur, h', h1, (hb g (by rw [h']; rfl)).trans hg, hr⟩
theorem owns_step {F F' : Nat → Prop} {w w' : World} {b e size n : Nat} {v : Value} {xs : List Value} (ho : w.ownsRow b e size v n xs) (h : Step F F' w w') (hn : ∀ g, v.ownBlock = some g → ¬ F g) : w'.ownsRow b e size v n xs :=
  owns_block ho fun g hg => h.block g (owns_blk ho g hg).2.1 (hn g hg)
theorem owns_below {w w' : World} {b e size n : Nat} {v : Value} {xs : List Value} (ho : w.ownsRow b e size v n xs) (h : Below w.heap.size w w') : w'.ownsRow b e size v n xs :=
  owns_block ho fun g hg => h.block g (owns_blk ho g hg).2.1
theorem owns_cell {w : World} {base e size : Nat} {v : Value} {n : Nat} {xs : List Value} {g cap : Nat} (h : w.ownsRow base e size v n xs) (hv : v = .slice (some ⟨g, 0, none⟩) n cap) (i : Nat) (u : Value) (hu : xs[i]? = some u) : w.cell? ⟨g, i, none⟩ = some u := by
  rcases h.2 with ⟨h', _⟩ | ⟨g', cap', cur, h', _, hg, _, _, _, ht⟩
  · rw [h'] at hv; cases hv
  · rw [h'] at hv
    cases hv
    rw [cell_of_row _ g i cur e (0, 0) hg]
    rw [← ht, List.getElem?_take] at hu
    split at hu
    · simpa using hu
    · cases hu
theorem owns_form {w : World} {base e size n : Nat} {v : Value} {xs : List Value} (h : w.ownsRow base e size v n xs) : ∃ a c, v = .slice a n c ∧ (0 < n → ∃ g, a = some ⟨g, 0, none⟩) := by
  rcases h.2 with ⟨h', h0⟩ | ⟨g, cap, cur, h', _⟩
  · exact ⟨none, 0, by rw [h', h0], fun h => by omega⟩
  · exact ⟨_, cap, h', fun _ => ⟨g, rfl⟩⟩
theorem map_ne_cells {w : World} {P : Program} {k : TypeId} {R : Value → Option (DataW Unit × List MemPlace)} {m n g : Nat} {D : DataW Unit} {cur : Array Value} {e : TypeId} {fr : Nat × Nat} (h : w.ownsMap P k R m n D) (hg : w.heap[g]? = some (.cells cur e fr)) : g ≠ m := fun he => by
  obtain ⟨es, ck, hb, _⟩ := h
  rw [he, hb] at hg; cases hg
theorem ownsMap_block {w w' : World} {P : Program} {k : TypeId} {R : Value → Option (DataW Unit × List MemPlace)} {m n : Nat} {D : DataW Unit} (h : w.ownsMap P k R m n D) (hb : w'.heap[m]? = w.heap[m]?) : w'.ownsMap P k R m n D := by
  obtain ⟨es, ck, h1, r⟩ := h
  exact ⟨es, ck, hb.trans h1, r⟩
theorem ownsMap_tight {w : World} {P : Program} {k : TypeId} {R : Value → Option (DataW Unit × List MemPlace)} {m n : Nat} {D : DataW Unit} (h : w.ownsMap P k R m n D) : w.ownsMap P k R m (Maps.size D) D := by
  obtain ⟨es, ck, h1, F, h2, rfl⟩ := h
  refine ⟨es, ck, h1, F, ?_, rfl⟩
  simp [Maps.size, length_sorted]
theorem durD_size (l : List Sec) : Maps.size (durD l) = l.length := by simp [Maps.size, durD]

/-- The arms, in a row that may begin behind some that are gone. -/
def ArmsAt (w : World) (F : Nat → Prop) (v : Value) (l : List Armed) : Prop :=
  (l = [] ∧ v = .slice none 0 0) ∨ ∃ g off cap cur, ∃ fv : List Value, v = .slice (some ⟨g, off, none⟩) l.length cap ∧ F g ∧ w.heap[g]? = some (.cells cur 130 (0, 0)) ∧ l.length ≤ cap ∧ cap ≤ maxLen ∧ off + cap * 2 ≤ cur.size ∧ fv.length = l.length ∧
    ∀ i (h : i < l.length) (h' : i < fv.length), cur[off + i * 2]? = some (.int .i64 l[i].after) ∧ cur[off + i * 2 + 1]? = some fv[i] ∧ w.ownsRow 0 92 4 fv[i] l[i].fates.length (fateCells l[i].fates) ∧ ∀ k, fv[i].ownBlock = some k → F k
/-- What the map of the last pending writes says. -/
def NewD (D : DataW Unit) (l : List Sec) : Prop := ∀ i : Int, Maps.has D (.int .i64 i) = (lastIx l i).isSome ∧ ∀ k, lastIx l i = some k → D.atKey (.int .i64 i) (.lit (.int .i64 0)) = .lit (.int .i64 (k : Int))
def devCells (d : Dev) (mb nb : Nat) (pv av : Value) : Array Value := #[.int .i64 d.size, .map (some mb), pv, .map (some nb), av, .bool d.dead, .int .i64 d.nr, .int .i64 d.nw, .int .i64 d.ns]
structure DevBody (w : World) (b : Nat) (F : Nat → Prop) (d : Dev) (mb nb : Nat) (pv av : Value) (Dn : DataW Unit) : Prop where
  blk : w.heap[b]? = some (.cells (devCells d mb nb pv av) 97 (0, 0))
  fb : F b
  fm : F mb
  fn : F nb
  ne : mb ≠ nb
  mapD : w.ownsMap Tryd.prog 3 secR mb d.dur.length (durD d.dur)
  mapN : w.ownsMap Tryd.prog 3 (plainElem Tryd.prog 3) nb d.pend.length Dn
  new : NewD Dn d.pend
  pend : w.ownsRow 0 68 2 pv d.pend.length (secCells d.pend)
  pf : ∀ g, pv.ownBlock = some g → F g
  arms : ArmsAt w F av d.arms
  ok : d.Ok
  lt : ∀ i, F i → i < w.heap.size
/-- A device: its cells, its two maps, its rows. -/
def DevAt (w : World) (b : Nat) (F : Nat → Prop) (d : Dev) : Prop := ∃ mb nb pv av Dn, DevBody w b F d mb nb pv av Dn

theorem ArmsAt.block {w w' : World} {F : Nat → Prop} {v : Value} {l : List Armed} (h : ArmsAt w F v l) (hb : ∀ k cur, w.heap[k]? = some (.cells cur 130 (0, 0)) ∨ w.heap[k]? = some (.cells cur 92 (0, 0)) → F k → w'.heap[k]? = w.heap[k]?) : ArmsAt w' F v l := by
  rcases h with h | ⟨g, off, cap, cur, fv, h1, h2, h3, h4, h5, h6, h7, h8⟩
  · exact .inl h
  · refine .inr ⟨g, off, cap, cur, fv, h1, h2, (hb g cur (.inl h3) h2).trans h3, h4, h5, h6, h7, fun i h h' => ?_⟩
    obtain ⟨k1, k2, k3, k4⟩ := h8 i h h'
    refine ⟨k1, k2, owns_block k3 fun k hk => ?_, k4⟩
    obtain ⟨_, _, c, hc⟩ := owns_blk k3 k hk
    exact hb k c (.inr hc) (k4 k hk)
theorem ArmsAt.imp {w : World} {F G : Nat → Prop} {v : Value} {l : List Armed} (h : ArmsAt w F v l) (hf : ∀ k, F k → G k) : ArmsAt w G v l := by
  rcases h with h | ⟨g, off, cap, cur, fv, h1, h2, h3, h4, h5, h6, h7, h8⟩
  · exact .inl h
  · exact .inr ⟨g, off, cap, cur, fv, h1, hf g h2, h3, h4, h5, h6, h7, fun i h h' => ⟨(h8 i h h').1, (h8 i h h').2.1, (h8 i h h').2.2.1, fun k hk => hf k ((h8 i h h').2.2.2 k hk)⟩⟩
theorem DevAt.ok {w : World} {b : Nat} {F : Nat → Prop} {d : Dev} (h : DevAt w b F d) : d.Ok := by obtain ⟨_, _, _, _, _, h⟩ := h; exact h.ok
theorem DevAt.lt {w : World} {b : Nat} {F : Nat → Prop} {d : Dev} (h : DevAt w b F d) : ∀ i, F i → i < w.heap.size := by obtain ⟨_, _, _, _, _, h⟩ := h; exact h.lt
theorem DevAt.fb {w : World} {b : Nat} {F : Nat → Prop} {d : Dev} (h : DevAt w b F d) : F b := by obtain ⟨_, _, _, _, _, h⟩ := h; exact h.fb
/-- What others do, to other blocks, leaves a device as it is. -/
theorem DevAt.keep {w w' : World} {b : Nat} {F G G' : Nat → Prop} {d : Dev} (h : DevAt w b F d) (hs : Step G G' w w') (hn : ∀ k, F k → ¬ G k) : DevAt w' b F d := by
  obtain ⟨mb, nb, pv, av, Dn, h⟩ := h
  have hb : ∀ k, F k → w'.heap[k]? = w.heap[k]? := fun k hk => hs.block k (h.lt k hk) (hn k hk)
  exact ⟨mb, nb, pv, av, Dn, (hb b h.fb).trans h.blk, h.fb, h.fm, h.fn, h.ne, ownsMap_block h.mapD (hb mb h.fm), ownsMap_block h.mapN (hb nb h.fn), h.new, owns_block h.pend (fun g hg => hb g (h.pf g hg)), h.pf,
    h.arms.block (fun k _ _ hk => hb k hk), h.ok, fun i hi => Nat.lt_of_lt_of_le (h.lt i hi) hs.size⟩
theorem DevAt.below {w w' : World} {b : Nat} {F : Nat → Prop} {d : Dev} (h : DevAt w b F d) (hs : Below w.heap.size w w') : DevAt w' b F d :=
  h.keep (Step.of_below (F := fun _ => False) hs) (fun _ _ h => h)
theorem DevBody.cell {w : World} {b : Nat} {F : Nat → Prop} {d : Dev} {mb nb : Nat} {pv av : Value} {Dn : DataW Unit} (h : DevBody w b F d mb nb pv av Dn) (j : Nat) : w.cell? ⟨b, j, none⟩ = (devCells d mb nb pv av)[j]? := cell_of_row w b j _ _ _ h.blk
theorem DevBody.frozen {w : World} {b : Nat} {F : Nat → Prop} {d : Dev} {mb nb : Nat} {pv av : Value} {Dn : DataW Unit} (h : DevBody w b F d mb nb pv av Dn) (j : Nat) : w.frozen? ⟨b, j, none⟩ = false := by
  unfold World.frozen?
  rw [show w.heap[(⟨b, j, none⟩ : Addr).block]? = _ from h.blk]
  simp
/-- A row of two numbers of a rising list fits between its ends. -/
theorem rise_len : ∀ (l : List Sec) (lo hi : Int), lo ≤ hi → (∀ x ∈ l, lo ≤ x.ix ∧ x.ix < hi) → l.Pairwise (fun x y => x.ix < y.ix) → (l.length : Int) ≤ hi - lo
  | [], lo, hi, h0, _, _ => by simp; omega
  | x :: r, lo, hi, h0, h, hp => by
    obtain ⟨h1, h2⟩ := List.pairwise_cons.1 hp
    have hx := h x (by simp)
    have ih := rise_len r (x.ix + 1) hi (by omega) (fun y hy => ⟨by have := h1 y hy; omega, (h y (by simp [hy])).2⟩) h2
    simp only [List.length_cons]
    omega
theorem Dev.Ok.dur_len {d : Dev} (h : d.Ok) : d.dur.length ≤ 8388615 := by
  have := rise_len d.dur 0 d.size h.s0 (fun x hx => ⟨(h.dur x hx).1.lo, (h.dur x hx).1.hi⟩) h.rise
  have := h.s1
  omega

/-- The refusals, all below base. -/
structure ErrsB (base : Nat) (A : Nat → Addr) (w : World) : Prop where
  at' : ErrsAt 13 gAll A w
  lo : ∀ i, i < 13 → gAll i < base ∧ (A i).block < base
  size : base ≤ w.heap.size
theorem ErrsB.keep {base : Nat} {A : Nat → Addr} {w w' : World} (h : ErrsB base A w) (hb : Below base w w') : ErrsB base A w' := by
  refine ⟨⟨fun i hi => ?_, h.at'.2⟩, h.lo, Nat.le_trans h.size hb.size⟩
  obtain ⟨h1, c, t, h2⟩ := h.at'.1 i hi
  obtain ⟨l1, l2⟩ := h.lo i hi
  exact ⟨(World.cell?_of_block (a := ⟨gAll i, 0, none⟩) (hb.block _ l1)).trans h1, c, t, (hb.block _ l2).trans h2⟩
theorem ErrsB.step {base : Nat} {A : Nat → Addr} {w w' : World} {F F' : Nat → Prop} (h : ErrsB base A w) (hs : Step F F' w w') (hF : ∀ k, F k → base ≤ k) : ErrsB base A w' := h.keep (hs.below hF h.size)
theorem ErrsB.up {base : Nat} {A : Nat → Addr} {w w' : World} (h : ErrsB base A w) (hb : Below w.heap.size w w') : ErrsB base A w' := h.keep (hb.mono h.size)
theorem ErrsB.dead {base : Nat} {A : Nat → Addr} {w : World} (h : ErrsB base A w) : w.cell? ⟨0, 0, none⟩ = some (.iface 175 (.pointer (some (A 7)))) := (h.at'.1 7 (by decide)).1
theorem ErrsB.arg {base : Nat} {A : Nat → Addr} {w : World} (h : ErrsB base A w) : w.cell? ⟨1, 0, none⟩ = some (.iface 175 (.pointer (some (A 0)))) := (h.at'.1 0 (by decide)).1
theorem ErrsB.many {base : Nat} {A : Nat → Addr} {w : World} (h : ErrsB base A w) : w.cell? ⟨2, 0, none⟩ = some (.iface 175 (.pointer (some (A 2)))) := (h.at'.1 2 (by decide)).1
theorem Step.ge {F F' : Nat → Prop} {w w' : World} {base : Nat} (h : Step F F' w w') (hF : ∀ k, F k → base ≤ k) (hb : base ≤ w.heap.size) : ∀ k, F' k → base ≤ k := fun k hk => (h.sub k hk).elim (hF k) (fun h' => Nat.le_trans hb h')

end Go.Proofs.YtdieacdkomiooabDoor
