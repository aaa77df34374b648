import Derived.Test.YtnaedmmfiiebaaaGreatDoorG23
import Derived.Deep.QuietTactic
import Derived.BigQuiet
import Derived.Deep.RegionHeld3
namespace Go.Proofs.YtnaedmmfiiebaaaGreatDoor.S.V
open Go.RowKit Go.Maps

def secCells (l : List Sec) : List Value := l.flatMap fun x => [.int .i64 x.ix, .string x.dat]
def fateCells (l : List Fate) : List Value := l.flatMap fun f => [.int .i64 f.ix, .int .i64 f.kind, .int .i64 f.cut, .string f.junk]
theorem secCells_cons (x : Sec) (l : List Sec) : secCells (x :: l) = .int .i64 x.ix :: .string x.dat :: secCells l := rfl
theorem secCells_get : ∀ (l : List Sec) (i : Nat) (h : i < l.length), (secCells l)[i * 2]? = some (.int .i64 l[i].ix) ∧ (secCells l)[i * 2 + 1]? = some (.string l[i].dat)
  | [], _, h => absurd h (by simp)
  | x :: r, 0, _ => ⟨rfl, rfl⟩
  | x :: r, i + 1, h => by
    have ih := secCells_get r i (by simpa using h)
    rw [secCells_cons, show (i + 1) * 2 = i * 2 + 1 + 1 by omega]
    simpa using ih
/-- Of the blocks that were there those that F holds may have turned; the others are as they were. F': what is held behind it. -/
structure Step (F F' : Nat → Prop) (w w' : World) : Prop where
  os : w'.os = w.os
  tape : w'.tape = w.tape
  output : w'.output = w.output
  size : w.heap.size ≤ w'.heap.size
  block : ∀ k, k < w.heap.size → ¬ F k → w'.heap[k]? = w.heap[k]?
  sub : ∀ k, F' k → F k ∨ w.heap.size ≤ k
theorem Step.refl (F : Nat → Prop) (w : World) : Step F F w w := ⟨rfl, rfl, rfl, Nat.le_refl _, fun _ _ _ => rfl, fun _ h => .inl h⟩
theorem Step.trans {F G H : Nat → Prop} {a b c : World} (h : Step F G a b) (k : Step G H b c) : Step F H a c :=
  ⟨k.os.trans h.os, k.tape.trans h.tape, k.output.trans h.output, Nat.le_trans h.size k.size,
    fun i hi hn => (k.block i (Nat.lt_of_lt_of_le hi h.size) (fun hg => (h.sub i hg).elim hn (by omega))).trans (h.block i hi hn),
    fun i hi => (k.sub i hi).elim (fun hg => h.sub i hg) (fun hs => .inr (Nat.le_trans h.size hs))⟩
theorem Step.of_below {F : Nat → Prop} {w w' : World} (h : Below w.heap.size w w') : Step F F w w' := ⟨h.os, h.tape, h.output, h.size, fun k hk _ => h.block k hk, fun _ h => .inl h⟩
theorem Step.below {F F' : Nat → Prop} {w w' : World} {base : Nat} (h : Step F F' w w') (hF : ∀ k, F k → base ≤ k) (hb : base ≤ w.heap.size) : Below base w w' :=
  ⟨h.os, h.tape, h.output, h.size, fun k hk => h.block k (Nat.lt_of_lt_of_le hk hb) (fun hf => by have := hF k hf; omega)⟩
theorem Step.of_grown {F : Nat → Prop} {w w' : World} {r : Option Nat} (h : w.grownBy w' r) (hr : ∀ j, r = some j → F j ∨ w.heap.size ≤ j) : Step F F w w' :=
  ⟨h.os, h.tape, h.output, h.size, fun k hk hn => h.block k hk (fun e => (hr k e.symm).elim hn (by omega)), fun _ h => .inl h⟩
theorem Step.cell {F F' : Nat → Prop} {w w' : World} (h : Step F F' w w') {a : Addr} {v : Value} (hc : w.cell? a = some v) (hn : ¬ F a.block) : w'.cell? a = some v :=
  (World.cell?_of_block (a := a) (h.block a.block (World.block_lt_of_cell? w a hc) hn)).trans hc

theorem below_drewN {B : Nat} {a w : World} (h : Below B a w) (n : Nat) : Below B a (w.drewN n) := ⟨h.os, h.tape, h.output, h.size, h.block⟩
/-- A row of this world whose block is as it was. -/
theorem owns_blk {w : World} {base e size n : Nat} {v : Value} {xs : List Value} (h : w.ownsRow base e size v n xs) (k : Nat) (hk : v.ownBlock = some k) : base ≤ k ∧ k < w.heap.size ∧ ∃ cur, w.heap[k]? = some (.cells cur e (0, 0)) := by
  rcases h.2 with ⟨h', _⟩ | ⟨g, cap, cur, h', hb, hg, _⟩
  · rw [h'] at hk; simp [Value.ownBlock] at hk
  · rw [h'] at hk
    simp only [Value.ownBlock, Option.some.injEq] at hk
    subst hk
    exact ⟨hb, (Array.getElem?_eq_some_iff.1 hg).1, cur, hg⟩
theorem owns_block {w w' : World} {b e size n : Nat} {v : Value} {xs : List Value} (ho : w.ownsRow b e size v n xs) (hb : ∀ g, v.ownBlock = some g → w'.heap[g]? = w.heap[g]?) : w'.ownsRow b e size v n xs := by
  refine ⟨ho.1, ?_⟩
  rcases ho.2 with h' | ⟨g, cap, cur, h', h1, hg, hr⟩
  · exact .inl h'
  · exact .inr ⟨g, cap, cur, h', h1, (hb g (by rw [h']; rfl)).trans hg, hr⟩
theorem owns_below {w w' : World} {b e size n : Nat} {v : Value} {xs : List Value} (ho : w.ownsRow b e size v n xs) (h : Below w.heap.size w w') : w'.ownsRow b e size v n xs :=
  owns_block ho fun g hg => h.block g (owns_blk ho g hg).2.1
theorem owns_cell {w : World} {base e size : Nat} {v : Value} {n : Nat} {xs : List Value} {g cap : Nat} (h : w.ownsRow base e size v n xs) (hv : v = .slice (some ⟨g, 0, none⟩) n cap) (i : Nat) (u : Value) (hu : xs[i]? = some u) : w.cell? ⟨g, i, none⟩ = some u := by
  rcases h.2 with ⟨h', _⟩ | ⟨g', cap', cur, h', _, hg, _, _, _, ht⟩
  · rw [h'] at hv; cases hv
  · rw [h'] at hv
    cases hv
    rw [cell_of_row _ g i cur e (0, 0) hg]
    rw [← ht, List.getElem?_take] at hu
    split at hu
    · simpa using hu
    · cases hu
theorem owns_form {w : World} {base e size n : Nat} {v : Value} {xs : List Value} (h : w.ownsRow base e size v n xs) : ∃ a c, v = .slice a n c ∧ (0 < n → ∃ g, a = some ⟨g, 0, none⟩) := by
  rcases h.2 with ⟨h', h0⟩ | ⟨g, cap, cur, h', _⟩
  · exact ⟨none, 0, by rw [h', h0], fun h => by omega⟩
  · exact ⟨_, cap, h', fun _ => ⟨g, rfl⟩⟩
theorem map_ne_cells {w : World} {P : Program} {k : TypeId} {R : Value → Option (DataW Unit × List MemPlace)} {m n g : Nat} {D : DataW Unit} {cur : Array Value} {e : TypeId} {fr : Nat × Nat} (h : w.ownsMap P k R m n D) (hg : w.heap[g]? = some (.cells cur e fr)) : g ≠ m := fun he => by
  obtain ⟨es, ck, hb, _⟩ := h
  rw [he, hb] at hg; cases hg
theorem ownsMap_block {w w' : World} {P : Program} {k : TypeId} {R : Value → Option (DataW Unit × List MemPlace)} {m n : Nat} {D : DataW Unit} (h : w.ownsMap P k R m n D) (hb : w'.heap[m]? = w.heap[m]?) : w'.ownsMap P k R m n D := by
  obtain ⟨es, ck, h1, r⟩ := h
  exact ⟨es, ck, hb.trans h1, r⟩
theorem ownsMap_tight {w : World} {P : Program} {k : TypeId} {R : Value → Option (DataW Unit × List MemPlace)} {m n : Nat} {D : DataW Unit} (h : w.ownsMap P k R m n D) : w.ownsMap P k R m (Maps.size D) D := by
  obtain ⟨es, ck, h1, F, h2, rfl⟩ := h
  refine ⟨es, ck, h1, F, ?_, rfl⟩
  simp [Maps.size, length_sorted]
theorem durD_size (l : List Sec) : Maps.size (durD l) = l.length := by simp [Maps.size, durD]

/-- The arms, in a row that may begin behind some that are gone. -/
def ArmsAt (w : World) (F : Nat → Prop) (v : Value) (l : List Armed) : Prop :=
  (l = [] ∧ v = .slice none 0 0) ∨ ∃ g off cap cur, ∃ fv : List Value, v = .slice (some ⟨g, off, none⟩) l.length cap ∧ F g ∧ w.heap[g]? = some (.cells cur 212 (0, 0)) ∧ l.length ≤ cap ∧ cap ≤ maxLen ∧ off + cap * 2 ≤ cur.size ∧ fv.length = l.length ∧
    ∀ i (h : i < l.length) (h' : i < fv.length), cur[off + i * 2]? = some (.int .i64 l[i].after) ∧ cur[off + i * 2 + 1]? = some fv[i] ∧ w.ownsRow 0 303 4 fv[i] l[i].fates.length (fateCells l[i].fates) ∧ ∀ k, fv[i].ownBlock = some k → F k
/-- What the map of the last pending writes says. -/
def NewD (D : DataW Unit) (l : List Sec) : Prop := ∀ i : Int, Maps.has D (.int .i64 i) = (lastIx l i).isSome ∧ ∀ k, lastIx l i = some k → D.atKey (.int .i64 i) (.lit (.int .i64 0)) = .lit (.int .i64 (k : Int))
def devCells (d : Dev) (mb nb : Nat) (pv av : Value) : Array Value := #[.int .i64 d.size, .map (some mb), pv, .map (some nb), av, .bool d.dead, .int .i64 d.nr, .int .i64 d.nw, .int .i64 d.ns]
structure DevBody (w : World) (b : Nat) (F : Nat → Prop) (d : Dev) (mb nb : Nat) (pv av : Value) (Dn : DataW Unit) : Prop where
  blk : w.heap[b]? = some (.cells (devCells d mb nb pv av) 142 (0, 0))
  fb : F b
  fm : F mb
  fn : F nb
  ne : mb ≠ nb
  mapD : w.ownsMap Tryz.prog 3 secR mb d.dur.length (durD d.dur)
  mapN : w.ownsMap Tryz.prog 3 (plainElem Tryz.prog 3) nb d.pend.length Dn
  new : NewD Dn d.pend
  pend : w.ownsRow 0 93 2 pv d.pend.length (secCells d.pend)
  pf : ∀ g, pv.ownBlock = some g → F g
  arms : ArmsAt w F av d.arms
  ok : d.Ok
  lt : ∀ i, F i → i < w.heap.size
/-- A device: its cells, its two maps, its rows. -/
def DevAt (w : World) (b : Nat) (F : Nat → Prop) (d : Dev) : Prop := ∃ mb nb pv av Dn, DevBody w b F d mb nb pv av Dn

theorem ArmsAt.block {w w' : World} {F : Nat → Prop} {v : Value} {l : List Armed} (h : ArmsAt w F v l) (hb : ∀ k cur, w.heap[k]? = some (.cells cur 212 (0, 0)) ∨ w.heap[k]? = some (.cells cur 303 (0, 0)) → F k → w'.heap[k]? = w.heap[k]?) : ArmsAt w' F v l := by
  rcases h with h | ⟨g, off, cap, cur, fv, h1, h2, h3, h4, h5, h6, h7, h8⟩
  · exact .inl h
  · refine .inr ⟨g, off, cap, cur, fv, h1, h2, (hb g cur (.inl h3) h2).trans h3, h4, h5, h6, h7, fun i h h' => ?_⟩
    obtain ⟨k1, k2, k3, k4⟩ := h8 i h h'
    refine ⟨k1, k2, owns_block k3 fun k hk => ?_, k4⟩
    obtain ⟨_, _, c, hc⟩ := owns_blk k3 k hk
    exact hb k c (.inr hc) (k4 k hk)
theorem ArmsAt.imp {w : World} {F G : Nat → Prop} {v : Value} {l : List Armed} (h : ArmsAt w F v l) (hf : ∀ k, F k → G k) : ArmsAt w G v l := by
  rcases h with h | ⟨g, off, cap, cur, fv, h1, h2, h3, h4, h5, h6, h7, h8⟩
  · exact .inl h
  · exact .inr ⟨g, off, cap, cur, fv, h1, hf g h2, h3, h4, h5, h6, h7, fun i h h' => ⟨(h8 i h h').1, (h8 i h h').2.1, (h8 i h h').2.2.1, fun k hk => hf k ((h8 i h h').2.2.2 k hk)⟩⟩
theorem DevAt.ok {w : World} {b : Nat} {F : Nat → Prop} {d : Dev} (h : DevAt w b F d) : d.Ok := by obtain ⟨_, _, _, _, _, h⟩ := h; exact h.ok
theorem DevAt.lt {w : World} {b : Nat} {F : Nat → Prop} {d : Dev} (h : DevAt w b F d) : ∀ i, F i → i < w.heap.size := by obtain ⟨_, _, _, _, _, h⟩ := h; exact h.lt
theorem DevAt.fb {w : World} {b : Nat} {F : Nat → Prop} {d : Dev} (h : DevAt w b F d) : F b := by obtain ⟨_, _, _, _, _, h⟩ := h; exact h.fb
/-- What others do, to other blocks, leaves a device as it is. -/
theorem DevAt.keep {w w' : World} {b : Nat} {F G G' : Nat → Prop} {d : Dev} (h : DevAt w b F d) (hs : Step G G' w w') (hn : ∀ k, F k → ¬ G k) : DevAt w' b F d := by
  obtain ⟨mb, nb, pv, av, Dn, h⟩ := h
  have hb : ∀ k, F k → w'.heap[k]? = w.heap[k]? := fun k hk => hs.block k (h.lt k hk) (hn k hk)
  exact ⟨mb, nb, pv, av, Dn, (hb b h.fb).trans h.blk, h.fb, h.fm, h.fn, h.ne, ownsMap_block h.mapD (hb mb h.fm), ownsMap_block h.mapN (hb nb h.fn), h.new, owns_block h.pend (fun g hg => hb g (h.pf g hg)), h.pf,
    h.arms.block (fun k _ _ hk => hb k hk), h.ok, fun i hi => Nat.lt_of_lt_of_le (h.lt i hi) hs.size⟩
theorem DevAt.below {w w' : World} {b : Nat} {F : Nat → Prop} {d : Dev} (h : DevAt w b F d) (hs : Below w.heap.size w w') : DevAt w' b F d :=
  h.keep (Step.of_below (F := fun _ => False) hs) (fun _ _ h => h)
theorem DevBody.cell {w : World} {b : Nat} {F : Nat → Prop} {d : Dev} {mb nb : Nat} {pv av : Value} {Dn : DataW Unit} (h : DevBody w b F d mb nb pv av Dn) (j : Nat) : w.cell? ⟨b, j, none⟩ = (devCells d mb nb pv av)[j]? := cell_of_row w b j _ _ _ h.blk
theorem DevBody.frozen {w : World} {b : Nat} {F : Nat → Prop} {d : Dev} {mb nb : Nat} {pv av : Value} {Dn : DataW Unit} (h : DevBody w b F d mb nb pv av Dn) (j : Nat) : w.frozen? ⟨b, j, none⟩ = false := by
  unfold World.frozen?
  rw [show w.heap[(⟨b, j, none⟩ : Addr).block]? = _ from h.blk]
  simp
/-- A row of two numbers of a rising list fits between its ends. -/
theorem rise_len : ∀ (l : List Sec) (lo hi : Int), lo ≤ hi → (∀ x ∈ l, lo ≤ x.ix ∧ x.ix < hi) → l.Pairwise (fun x y => x.ix < y.ix) → (l.length : Int) ≤ hi - lo
  | [], lo, hi, h0, _, _ => by simp; omega
  | x :: r, lo, hi, h0, h, hp => by
    obtain ⟨h1, h2⟩ := List.pairwise_cons.1 hp
    have hx := h x (by simp)
    have ih := rise_len r (x.ix + 1) hi (by omega) (fun y hy => ⟨by have := h1 y hy; omega, (h y (by simp [hy])).2⟩) h2
    simp only [List.length_cons]
    omega
theorem Dev.Ok.dur_len {d : Dev} (h : d.Ok) : d.dur.length ≤ 8388615 := by
  have := rise_len d.dur 0 d.size h.s0 (fun x hx => ⟨(h.dur x hx).1.lo, (h.dur x hx).1.hi⟩) h.rise
  have := h.s1
  omega

/-- The refusals of the device, all below base. -/
structure ErrsB (base : Nat) (A : Nat → Addr) (w : World) : Prop where
  arg : w.cell? ⟨0, 0, none⟩ = some (.iface 360 (.pointer (some (A 0))))
  many : w.cell? ⟨2, 0, none⟩ = some (.iface 360 (.pointer (some (A 2))))
  dead : w.cell? ⟨7, 0, none⟩ = some (.iface 360 (.pointer (some (A 7))))
  lo : 0 < base ∧ 2 < base ∧ 7 < base
  size : base ≤ w.heap.size
theorem ErrsB.keep {base : Nat} {A : Nat → Addr} {w w' : World} (h : ErrsB base A w) (hb : Below base w w') : ErrsB base A w' :=
  ⟨(World.cell?_of_block (a := ⟨0, 0, none⟩) (hb.block _ h.lo.1)).trans h.arg, (World.cell?_of_block (a := ⟨2, 0, none⟩) (hb.block _ h.lo.2.1)).trans h.many, (World.cell?_of_block (a := ⟨7, 0, none⟩) (hb.block _ h.lo.2.2)).trans h.dead, h.lo, Nat.le_trans h.size hb.size⟩
theorem ErrsB.step {base : Nat} {A : Nat → Addr} {w w' : World} {F F' : Nat → Prop} (h : ErrsB base A w) (hs : Step F F' w w') (hF : ∀ k, F k → base ≤ k) : ErrsB base A w' := h.keep (hs.below hF h.size)
theorem ErrsB.up {base : Nat} {A : Nat → Addr} {w w' : World} (h : ErrsB base A w) (hb : Below w.heap.size w w') : ErrsB base A w' := h.keep (hb.mono h.size)
end Go.Proofs.YtnaedmmfiiebaaaGreatDoor.S.V

namespace Go.Proofs.YtnaedmmfiiebaaaGreatDoor.S.V
open Go.RowKit Go.Maps

theorem newD_nil : NewD (.map []) [] := fun i => ⟨rfl, fun k h => by simp [lastIx] at h⟩
theorem new_dev (w : World) (n s : Int) (hs : clampN n 0 8388615 = s) : ∃ b F, Ending.returned (Value.pointer (some ⟨w.heap.size + 1 + 1, 0, none⟩)) = .returned (.pointer (some ⟨b, 0, none⟩)) ∧
    DevAt (((w.alloc (.map #[] 0)).alloc (.map #[] 0)).alloc (.cells #[.int .i64 s, .map (some w.heap.size), .slice none 0 0, .map (some (w.heap.size + 1)), .slice none 0 0, .bool false, .int .i64 0, .int .i64 0, .int .i64 0] 142)) b F (newDev n) ∧
    Below w.heap.size w (((w.alloc (.map #[] 0)).alloc (.map #[] 0)).alloc (.cells #[.int .i64 s, .map (some w.heap.size), .slice none 0 0, .map (some (w.heap.size + 1)), .slice none 0 0, .bool false, .int .i64 0, .int .i64 0, .int .i64 0] 142)) ∧ ∀ k, F k → w.heap.size ≤ k := by
  have hm1 := World.ownsMap_made (H := Unit) w Tryz.prog 3 secR
  have hm2 := World.ownsMap_made (H := Unit) (w.alloc (.map #[] 0)) Tryz.prog 3 (plainElem Tryz.prog 3)
  refine ⟨w.heap.size + 1 + 1, fun k => w.heap.size ≤ k ∧ k < w.heap.size + 3, rfl, ⟨w.heap.size, w.heap.size + 1, .slice none 0 0, .slice none 0 0, .map [], ?_, ?_, ?_, ?_, by omega, ?_, ?_, newD_nil, World.ownsRow_nil _ _ _ _, fun g hg => by simp [Value.ownBlock] at hg, .inl ⟨rfl, rfl⟩, newDev_ok n, ?_⟩, ?_, fun k hk => hk.1⟩
  · have h := heap_alloc_new ((w.alloc (.map #[] 0)).alloc (.map #[] 0)) (.cells #[.int .i64 s, .map (some w.heap.size), .slice none 0 0, .map (some (w.heap.size + 1)), .slice none 0 0, .bool false, .int .i64 0, .int .i64 0, .int .i64 0] 142)
    simp only [World.size_alloc] at h
    rw [h]
    simp only [devCells, newDev, hs]
  · omega
  · omega
  · omega
  · exact ((hm1.alloc _).alloc _)
  · have := hm2.alloc (.cells #[.int .i64 s, .map (some w.heap.size), .slice none 0 0, .map (some (w.heap.size + 1)), .slice none 0 0, .bool false, .int .i64 0, .int .i64 0, .int .i64 0] 142)
    simp only [World.size_alloc] at this
    exact this
  · intro i hi; simp; omega
  · exact (((below_new w _).alloc (by simp) _).alloc (by simp; omega) _)

set_option maxHeartbeats 400000 in
theorem new_any (n : Int) (w : World) : Calls Tryz.prog 38 #[.int .i64 n] w fun e w' => ∃ b F, e = .returned (.pointer (some ⟨b, 0, none⟩)) ∧ DevAt w' b F (newDev n) ∧ Below w.heap.size w w' ∧ ∀ k, F k → w.heap.size ≤ k := by
  have hmm := @run_makeMap Tryz.prog
  go_enter Tryz.func38, Tryz.ntmps38
  go_wp2_with fail
  · go_ret
    obtain ⟨b, F, h1, h2⟩ := new_dev w n 0 (by unfold clampN; rw [if_pos (by omega)])
    exact ⟨b, h1, F, h2⟩
  · go_ret
    obtain ⟨b, F, h1, h2⟩ := new_dev w n 8388615 (by unfold clampN; rw [if_neg (by omega), if_pos (by omega)])
    exact ⟨b, h1, F, h2⟩
  · go_ret
    obtain ⟨b, F, h1, h2⟩ := new_dev w n n (by unfold clampN; rw [if_neg (by omega), if_neg (by omega)])
    exact ⟨b, h1, F, h2⟩

set_option maxHeartbeats 400000 in
theorem size_any (b : Nat) (F : Nat → Prop) (d : Dev) (w : World) (h : DevAt w b F d) : Calls Tryz.prog 133 #[.pointer (some ⟨b, 0, none⟩)] w fun e w' => e = .returned (.int .i64 d.size) ∧ w = w' := by
  obtain ⟨mb, nb, pv, av, Dn, h⟩ := h
  have c0 : w.cell? ⟨b, 0, none⟩ = some (.int .i64 d.size) := h.cell 0
  clear h
  go_enter Tryz.func133, Tryz.ntmps133
  go_wp2
  go_ret
  exact ⟨rfl, rfl⟩
/-- One of a device's own cells is turned. -/
theorem DevBody.set {w : World} {b : Nat} {F : Nat → Prop} {d d' : Dev} {mb nb : Nat} {pv av : Value} {Dn : DataW Unit} (h : DevBody w b F d mb nb pv av Dn) (j : Nat) (u : Value) (hc : (devCells d mb nb pv av).setIfInBounds j u = devCells d' mb nb pv av)
    (hd : d'.dur = d.dur) (hp : d'.pend = d.pend) (ha : d'.arms = d.arms) (ho : d'.Ok) : DevBody (w.setCell ⟨b, j, none⟩ u) b F d' mb nb pv av Dn ∧ Step F F w (w.setCell ⟨b, j, none⟩ u) := by
  have hst : Step F F w (w.setCell ⟨b, j, none⟩ u) := ⟨rfl, rfl, rfl, by simp [World.setCell], fun k _ hn => Below.heap_setCell w ⟨b, j, none⟩ u k (fun e => hn (by rw [e]; exact h.fb)), fun _ h => .inl h⟩
  have hne : ∀ k, k ≠ b → (w.setCell ⟨b, j, none⟩ u).heap[k]? = w.heap[k]? := fun k hk => Below.heap_setCell w ⟨b, j, none⟩ u k hk
  have hty : ∀ k cur e, w.heap[k]? = some (.cells cur e (0, 0)) → e ≠ 142 → k ≠ b := fun k cur e hk he hb => by
    rw [hb, h.blk] at hk
    simp only [Option.some.injEq, Obj.cells.injEq] at hk
    exact he hk.2.1.symm
  refine ⟨⟨?_, h.fb, h.fm, h.fn, h.ne, ?_, ?_, by rw [hp]; exact h.new, ?_, h.pf, ?_, ho, fun i hi => by simpa [World.setCell] using h.lt i hi⟩, hst⟩
  · unfold World.setCell
    simp only [Array.getElem?_modify, if_true]
    rw [h.blk]
    simp only [Option.map_some, Option.some.injEq]
    rw [← hc]
    rfl
  · rw [hd]; exact ownsMap_block h.mapD (hne mb (map_ne_cells h.mapD h.blk).symm)
  · rw [hp]; exact ownsMap_block h.mapN (hne nb (map_ne_cells h.mapN h.blk).symm)
  · rw [hp]; exact owns_block h.pend fun g hg => by
      obtain ⟨_, _, cur, hcur⟩ := owns_blk h.pend g hg
      exact hne g (hty g cur _ hcur (by decide))
  · rw [ha]; exact h.arms.block fun k cur hk _ => by
      rcases hk with hk | hk
      · exact hne k (hty k cur _ hk (by decide))
      · exact hne k (hty k cur _ hk (by decide))
set_option maxHeartbeats 400000 in
theorem holds_any (b : Nat) (F : Nat → Prop) (d : Dev) (s n : Int) (w : World) (h : DevAt w b F d) (hn : n < 9223372036854775808) : Calls Tryz.prog 41 #[.pointer (some ⟨b, 0, none⟩), .int .i64 s, .int .i64 n] w fun e w' => e = .returned (.bool (d.fits s n)) ∧ w = w' := by
  obtain ⟨mb, nb, pv, av, Dn, h⟩ := h
  have c0 : w.cell? ⟨b, 0, none⟩ = some (.int .i64 d.size) := h.cell 0
  have s0 := h.ok.s0
  have s1 := h.ok.s1
  obtain ⟨sz, hsz⟩ : ∃ sz, sz = d.size := ⟨_, rfl⟩
  rw [← hsz] at c0 s0 s1
  have HF : Hid (d.fits s n = decide (0 ≤ s ∧ 0 ≤ n ∧ s ≤ sz - n)) := (by rw [hsz]; rfl : d.fits s n = _)
  clear h hsz
  go_enter Tryz.func41, Tryz.ntmps41
  by_cases g1 : 0 ≤ s
  · by_cases g2 : 0 ≤ n
    · have hd1 : decide (0 ≤ s) = true := decide_eq_true g1
      have hd2 : decide (0 ≤ n) = true := decide_eq_true g2
      go_wp2
      go_ret
      refine ⟨?_, rfl⟩
      rw [HF.out]
      simp [g1, g2]
    · have hd1 : decide (0 ≤ s) = true := decide_eq_true g1
      have hd2 : decide (0 ≤ n) = false := decide_eq_false g2
      go_wp2
      go_ret
      refine ⟨?_, rfl⟩
      rw [HF.out, decide_eq_false (by omega)]
      rfl
  · have hd1 : decide (0 ≤ s) = false := decide_eq_false g1
    go_wp2
    go_ret
    refine ⟨?_, rfl⟩
    rw [HF.out, decide_eq_false (by omega)]
    rfl

end Go.Proofs.YtnaedmmfiiebaaaGreatDoor.S.V

namespace Go.Proofs.YtnaedmmfiiebaaaGreatDoor.S.V
open Go.RowKit Go.Maps

/-- A device behind a text that was made durable. -/
theorem DevBody.dured {w w' : World} {b : Nat} {F : Nat → Prop} {d : Dev} {mb nb n : Nat} {pv av : Value} {Dn : DataW Unit} (h : DevBody w b F d mb nb pv av Dn) {l : List Sec} (hm : w'.ownsMap Tryz.prog 3 secR mb n (durD l)) (hg : w.grownBy w' (some mb)) (ho : { d with dur := l }.Ok) :
    DevBody w' b F { d with dur := l } mb nb pv av Dn ∧ Step F F w w' := by
  have hne : ∀ k, k < w.heap.size → k ≠ mb → w'.heap[k]? = w.heap[k]? := fun k hk hn => hg.block k hk (fun e => hn (Option.some.inj e))
  have hc : ∀ k (cur : Array Value) (e : TypeId), w.heap[k]? = some (Obj.cells cur e (0, 0)) → w'.heap[k]? = w.heap[k]? := fun k cur e hk => hne k (Array.getElem?_eq_some_iff.1 hk).1 (map_ne_cells h.mapD hk)
  refine ⟨⟨(hc b _ _ h.blk).trans h.blk, h.fb, h.fm, h.fn, h.ne, ?_, ownsMap_block h.mapN (hne nb h.mapN.lt h.ne.symm), h.new, owns_block h.pend fun g hg => ?_, h.pf, h.arms.block fun k cur hk _ => ?_, ho, fun i hi => Nat.lt_of_lt_of_le (h.lt i hi) hg.size⟩, Step.of_grown hg fun j hj => .inl (by rw [← Option.some.inj hj]; exact h.fm)⟩
  · have := ownsMap_tight hm
    rwa [durD_size] at this
  · obtain ⟨_, _, cur, hcur⟩ := owns_blk h.pend g hg
    exact hc g cur _ hcur
  · rcases hk with hk | hk
    · exact hc k cur _ hk
    · exact hc k cur _ hk
theorem grown_cell {w w' : World} {m : Nat} {a : Addr} {v : Value} (hg : w.grownBy w' (some m)) (hc : w.cell? a = some v) (hn : a.block ≠ m) : w'.cell? a = some v :=
  (World.cell?_of_block (a := a) (hg.block a.block (World.block_lt_of_cell? w a hc) (fun e => hn (Option.some.inj e)))).trans hc
theorem grown_of_below {w w' : World} {r : Option Nat} (h : Below w.heap.size w w') : w.grownBy w' r := ⟨h.os, h.tape, h.output, h.size, fun k hk _ => h.block k hk⟩
theorem DevBody.step {w w' : World} {b : Nat} {F : Nat → Prop} {d : Dev} {mb nb : Nat} {pv av : Value} {Dn : DataW Unit} (h : DevBody w b F d mb nb pv av Dn) (hg : w.grownBy w' (some mb)) : Step F F w w' :=
  Step.of_grown hg fun j hj => .inl (by rw [← Option.some.inj hj]; exact h.fm)
theorem maked_body {w : World} {b : Nat} {F : Nat → Prop} {d : Dev} {mb nb : Nat} {pv av : Value} {Dn : DataW Unit} (h : DevBody w b F d mb nb pv av Dn) (i : Int) (t : ByteArray) (ht : t.size ≤ 512) (h0 : 0 ≤ i) (h1 : i < d.size) :
    Calls Tryz.prog 42 #[.pointer (some ⟨b, 0, none⟩), .int .i64 i, .string t] w fun e w' => e = .returned (.tuple #[]) ∧ DevBody w' b F { d with dur := setD d.dur i (pad t) } mb nb pv av Dn ∧ w.grownBy w' (some mb) := by
  have hs := h.ok.s1
  have hl := h.ok.dur_len
  obtain ⟨k1, k2⟩ := setD_ok h.ok.dur h.ok.rise (i := i) (t := pad t) ⟨h0, h1, pad_size t ht⟩
  refine (maked_any b mb d.dur.length i t d.dur w (h.cell 1) h.mapD ht h0 (by omega) (by unfold maxLen; omega)).mono ?_
  rintro e w' ⟨rfl, hm, hg⟩
  exact ⟨rfl, (h.dured hm hg ⟨h.ok.s0, h.ok.s1, k1, k2, h.ok.pend, h.ok.arms⟩).1, hg⟩

end Go.Proofs.YtnaedmmfiiebaaaGreatDoor.S.V

namespace Go.Proofs.YtnaedmmfiiebaaaGreatDoor.S.V
open Go.RowKit Go.Maps

theorem cell_below {w w' : World} {a : Addr} {v : Value} (hb : Below w.heap.size w w') (hc : w.cell? a = some v) : w'.cell? a = some v := (hb.cell (p := a) (World.block_lt_of_cell? w a hc)).trans hc

theorem wrap_i64 (n : Int) (h1 : -9223372036854775808 ≤ n) (h2 : n ≤ 9223372036854775807) : IntKind.i64.wrap n = n := by
  simp [IntKind.wrap, IntKind.bits, IntKind.signed]
  omega
theorem DevBody.same {w : World} {b : Nat} {F : Nat → Prop} {d : Dev} {mb nb : Nat} {pv av : Value} {Dn : DataW Unit} (h : DevBody w b F d mb nb pv av Dn) {w' : World} (hk : ∀ k, F k → w'.heap[k]? = w.heap[k]?) (hs : w.heap.size ≤ w'.heap.size) : DevBody w' b F d mb nb pv av Dn :=
  ⟨(hk b h.fb).trans h.blk, h.fb, h.fm, h.fn, h.ne, ownsMap_block h.mapD (hk mb h.fm), ownsMap_block h.mapN (hk nb h.fn), h.new, owns_block h.pend (fun g hg => hk g (h.pf g hg)), h.pf,
    h.arms.block (fun k _ _ hf => hk k hf), h.ok, fun i hi => Nat.lt_of_lt_of_le (h.lt i hi) hs⟩
theorem DevBody.alloc {w : World} {b : Nat} {F : Nat → Prop} {d : Dev} {mb nb : Nat} {pv av : Value} {Dn : DataW Unit} (h : DevBody w b F d mb nb pv av Dn) {w' : World} (hb : Below w.heap.size w w') : DevBody w' b F d mb nb pv av Dn := by
  have hk : ∀ k, F k → w'.heap[k]? = w.heap[k]? := fun k hk => hb.block k (h.lt k hk)
  exact ⟨(hk b h.fb).trans h.blk, h.fb, h.fm, h.fn, h.ne, ownsMap_block h.mapD (hk mb h.fm), ownsMap_block h.mapN (hk nb h.fn), h.new, owns_block h.pend (fun g hg => hk g (h.pf g hg)), h.pf,
    h.arms.block (fun k _ _ hf => hk k hf), h.ok, fun i hi => Nat.lt_of_lt_of_le (h.lt i hi) hb.size⟩

end Go.Proofs.YtnaedmmfiiebaaaGreatDoor.S.V

namespace Go.Proofs.YtnaedmmfiiebaaaGreatDoor.S.V
open Go.RowKit Go.Maps

theorem secOk_of {d : Dev} (h : d.Ok) {j : Nat} (hj : j < d.pend.length) : SecOk d.size d.pend[j] := h.pend _ (List.getElem_mem hj)
theorem take_next' {α : Type} (l : List α) (k : Nat) (h : k < l.length) : l.take (k + 1) = l.take k ++ [l[k]] := by rw [List.take_succ_eq_append_getElem h]

end Go.Proofs.YtnaedmmfiiebaaaGreatDoor.S.V

namespace Go.Proofs.YtnaedmmfiiebaaaGreatDoor.S.V
open Go.RowKit Go.Maps

end Go.Proofs.YtnaedmmfiiebaaaGreatDoor.S.V

namespace Go.Proofs.YtnaedmmfiiebaaaGreatDoor.S.V
open Go.RowKit Go.Maps

end Go.Proofs.YtnaedmmfiiebaaaGreatDoor.S.V

namespace Go.Proofs.YtnaedmmfiiebaaaGreatDoor.S.V
open Go.RowKit Go.Maps

end Go.Proofs.YtnaedmmfiiebaaaGreatDoor.S.V

namespace Go.Proofs.YtnaedmmfiiebaaaGreatDoor.S.V
open Go.RowKit Go.Maps

theorem wrap64_id {x : Int} (h1 : -9223372036854775808 ≤ x) (h2 : x ≤ 9223372036854775807) : wrap64 x = x := by unfold wrap64; omega
end Go.Proofs.YtnaedmmfiiebaaaGreatDoor.S.V
