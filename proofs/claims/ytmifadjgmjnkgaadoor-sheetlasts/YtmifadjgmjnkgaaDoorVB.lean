import Derived.Test.YtmifadjgmjnkgaaDoorVA
import Derived.Deep.MidRow
import Derived.Deep.WholeRow
import Derived.Laws.CopyOwn
import Derived.Deep.RegionHeld3
import Derived.Deep.QuietTactic
import Derived.BigQuiet
namespace Go.Proofs.YtmifadjgmjnkgaaDoor.V
open Go.RowKit Go.Maps

theorem zc : Tryd.zeroCells88 = (u8s (zeros 512)).toArray := by kernel_rfl
theorem sizeArr : (Tryd.prog.info? 88).map (·.size) = some 512 := by kernel_rfl
theorem size5 : (Tryd.prog.info? 5).map (·.size) = some 1 := by kernel_rfl
theorem byteCells_u8s (l : List UInt8) : Lib.byteCells l = u8s l := rfl
theorem zdrop (k n : Nat) : (u8s (zeros n)).drop k = u8s (zeros (n - k)) := by
  rw [u8s, u8s, zeros, zeros, List.map_replicate, List.map_replicate, List.drop_replicate]
theorem zjoin (t : ByteArray) : (Tryd.zeroCells88.toList.take 0 ++ Lib.byteCells t.data.toList ++ Tryd.zeroCells88.toList.drop (0 + t.size)).toArray = (u8s (bl (pad t))).toArray := by
  rw [zc, List.take_zero, List.nil_append, Nat.zero_add, zdrop, pad, bl_mkb, u8s_append]
  rfl
theorem zcopy (t : ByteArray) (w : World) (ht : t.size ≤ 512) : ∃ w2, (Builtin.copy_ #[47, 9] 3 #[.slice (some ⟨w.heap.size, 0, none⟩) 512 512, .string t]).run Tryd.prog (w.alloc (.cells Tryd.zeroCells88 88)) = .ok (goInt t.size) w2 ∧
    w2.heap[w.heap.size]? = some (.cells (u8s (bl (pad t))).toArray 88 (0, 0)) ∧ Below w.heap.size w w2 := by
  have hnew := heap_alloc_new w (.cells Tryd.zeroCells88 88)
  have hsz : Tryd.zeroCells88.size = 512 := by rw [zc, List.size_toArray, u8s_length, zeros_len]
  have hrun := Lib.run_copy_row_string (P := Tryd.prog) (w.alloc (.cells Tryd.zeroCells88 88)) 47 9 3 5 w.heap.size 0 512 512 t _ 88 Tryd.underlying47 size5 hnew ht (by rw [hsz]; omega)
  rw [zjoin] at hrun
  exact ⟨_, hrun, setRow_heap _ w.heap.size _ _ 88 _ hnew, below_setRow (below_new w _) (Nat.le_refl _) _⟩
theorem zload (w2 : World) (g : Nat) (t : ByteArray) (ht : t.size = 512) (h : w2.heap[g]? = some (.cells (u8s (bl t)).toArray 88 (0, 0))) : (Instr.loadAt 88 (.pointer (some ⟨g, 0, none⟩))).run Tryd.prog w2 = .ok (arr t) w2 := by
  simp only [Instr.loadAt, Instr.sureAddr, Sem.run_bind, Sem.run_pure, Result.andThen_ok]
  exact run_loadVar_row (P := Tryd.prog) w2 g 88 88 _ _ _ h und88 rfl (by rw [sizeArr, List.size_toArray, u8s_length, bl_len, ht])
theorem zguard (w : World) (x y : Operand) (t : ByteArray) : (eqGuard .eql 88 x y (arr t) (.agg Tryd.zeroCells88)).run Tryd.prog w = .ok () w := run_eqGuard_agg w .eql 88 x y _ _ (by kernel_rfl)
theorem zeq (w : World) (t : ByteArray) (ht : t.size = 512) : (binOp .eql 88 (arr t) (.agg Tryd.zeroCells88)).run Tryd.prog w = .ok (.bool (allZ t)) w := by
  rw [zc, arr, arr_eq w _ _ (by rw [bl_len]; exact ht) (zeros_len 512), allZ, ht]

theorem wpList_load_eq {P : Program} {ops : Array Oper} {rest : List Oper} {op : Oper} {a : Act} {w : World} {Q : Exit → Act → World → Prop} (hgd : op.guard = none) (ty : TypeId) (x : Operand) (ho : op.op = .load ty x)
    (p v : Value) (hx : a.eval x = p) (hrun : (Instr.loadAt ty p).run P w = .ok v w) (h : wpList P ops Q rest (a.put op.dst v) w) : wpList P ops Q (op :: rest) a w :=
  wpList_plain hgd fun _ hK => by
    unfold Oper.wp execOp
    simp only [ho, hx, Sem.run_bind, hrun, Result.andThen_ok, Sem.run_pure]
    exact hK _ _ h

end Go.Proofs.YtmifadjgmjnkgaaDoor.V

namespace Go.Proofs.YtmifadjgmjnkgaaDoor.V
open Go.RowKit Go.Maps

set_option maxRecDepth 100000 in
set_option maxHeartbeats 400000 in
theorem maked_any (b mb n : Nat) (i : Int) (t : ByteArray) (l : List Sec) (w : World) (c1 : w.cell? ⟨b, 1, none⟩ = some (.map (some mb))) (hown : w.ownsMap Tryd.prog 3 secR mb n (durD l)) (ht : t.size ≤ 512) (h0 : 0 ≤ i) (h1 : i < 9223372036854775808) (hn : n < maxLen) :
    Calls Tryd.prog 27 #[.pointer (some ⟨b, 0, none⟩), .int .i64 i, .string t] w fun e w' => e = .returned (.tuple #[]) ∧ w'.ownsMap Tryd.prog 3 secR mb (n + 1) (durD (setD l i (pad t))) ∧ w.grownBy w' (some mb) := by
  obtain ⟨w2, hcp, hb2, hbel⟩ := zcopy t w ht
  have hps := pad_size t ht
  have hld := zload w2 w.heap.size (pad t) hps hb2
  have heq := fun w => zeq w (pad t) hps
  have hgd := fun w x y => zguard w x y (pad t)
  have hg2 : w.grownBy w2 (some mb) := ⟨hbel.os, hbel.tape, hbel.output, hbel.size, fun k hk _ => hbel.block k hk⟩
  have hown2 := hown.kept (row := none) ⟨hbel.os, hbel.tape, hbel.output, hbel.size, fun k hk _ => hbel.block k hk⟩ (by simp)
  have c2 : w2.cell? ⟨b, 1, none⟩ = some (.map (some mb)) := (hbel.cell (p := ⟨b, 1, none⟩) (World.block_lt_of_cell? w _ c1)).trans c1
  have HS : Hid (setD l i (pad t) = if allZ (pad t) then dropD i l else insD ⟨i, pad t⟩ (dropD i l)) := (rfl : setD l i (pad t) = _)
  have hR := secR_arr hps
  obtain ⟨w3, hrun3, hown3, hturn3⟩ := hown2.drew.store klaw Tryd.underlying65 hn (kkey h0 h1) hR
  have hrg : w2.rangeAt w.heap.size 0 (u8s (bl (pad t))) := fun j u hu => by
    rw [cell_of_row _ _ _ _ _ _ hb2, Nat.zero_add]; simpa using hu
  have hlen : (Tryd.prog.info? 88).map (·.size) = some (u8s (bl (pad t))).length := by rw [sizeArr, u8s_length, bl_len, hps]
  have hg3 : w2.grownBy w3 (some mb) := ⟨hturn3.grown.os, hturn3.grown.tape, hturn3.grown.output, hturn3.grown.size, hturn3.grown.block⟩
  have hbm : b ≠ mb := fun e => by
    obtain ⟨es, ck, hb, _⟩ := hown2
    rw [e, World.cell?, hb] at c2; cases c2
  have c3 : w3.cell? ⟨b, 1, none⟩ = some (.map (some mb)) := (World.cell?_of_block (a := ⟨b, 1, none⟩) (hturn3.grown.block b (World.block_lt_of_cell? _ _ c2) (by simpa using hbm))).trans c2
  have hsm : w.heap.size ≠ mb := fun e => by have := hown.lt; omega
  have hrg3 : w3.rangeAt w.heap.size 0 (u8s (bl (pad t))) := fun j u hu => (World.cell?_of_block (a := ⟨w.heap.size, 0 + j, none⟩) (hturn3.grown.block w.heap.size (World.block_lt_of_cell? _ _ (hrg j u hu)) (by simpa using hsm))).trans (hrg j u hu)
  unfold arr at hld heq hgd hR hrun3
  obtain ⟨cs, hcs⟩ : ∃ cs, cs = u8s (bl (pad t)) := ⟨_, rfl⟩
  obtain ⟨p, hp⟩ : ∃ p, p = pad t := ⟨_, rfl⟩
  rw [← hcs] at hld hR hrun3 hrg hlen hrg3
  simp only [← hcs] at heq hgd
  rw [← hp] at HS hR hown3 ⊢
  simp only [← hp] at heq
  rw [durD_put] at hown3
  have hun := und88
  clear hown c1 hps hp hcs hb2
  go_enter Tryd.func27, Tryd.ntmps27
  cases hz : allZ p
  · rw [hz] at heq
    go_wp2_with (first | (refine wpList_load_eq rfl 88 _ rfl _ _ rfl hld ?_))
    go_region_held3 (fun w' => w'.cell? ⟨b, 1, none⟩ = some (.map (some mb)) ∧ w'.rangeAt w.heap.size 0 cs) (first | exact ⟨c2, hrg⟩ | exact ⟨c3, hrg3⟩ | go_keep) (fail)
    go_end0
    refine ⟨rfl, ?_, hg2.andThen hg3 (fun j hj => .inr (by simpa using hj))⟩
    rw [HS.out, hz]
    exact hown3
  · rw [hz] at heq
    go_wp2_with (first | (refine wpList_load_eq rfl 88 _ rfl _ _ rfl hld ?_) | (at_delete; refine wpList_delete_own _ rfl _ _ 65 3 rfl 88 klaw Tryd.underlying65 _ mb n _ rfl hown2 _ _ rfl (kkey h0 h1) ?_; intro w4 hown4 hturn4))
    go_frame
    try simp only [Exit.inBlock, Exit.then]
    refine bodyPost_ret (results_none rfl _ _ _) rfl ?_
    rw [durD_del] at hown4
    refine ⟨rfl, ?_, hg2.andThen hturn4.grown (fun j hj => .inr (by simpa using hj))⟩
    rw [HS.out, hz]
    exact hown4.mono (Nat.le_succ _)

end Go.Proofs.YtmifadjgmjnkgaaDoor.V

namespace Go.Proofs.YtmifadjgmjnkgaaDoor.V
open Go.RowKit

/-- A refusal by its number; 0: none. -/
def errV (A : Nat → Addr) (n : Nat) : Value := if n = 0 then .nilIface else .iface 118 (.pointer (some (A (n - 1))))

end Go.Proofs.YtmifadjgmjnkgaaDoor.V

namespace Go.Proofs.YtmifadjgmjnkgaaDoor.V
open Go.RowKit Go.Maps

def secCells (l : List Sec) : List Value := l.flatMap fun x => [.int .i64 x.ix, .string x.dat]
def fateCells (l : List Fate) : List Value := l.flatMap fun f => [.int .i64 f.ix, .int .i64 f.kind, .int .i64 f.cut, .string f.junk]
theorem secCells_cons (x : Sec) (l : List Sec) : secCells (x :: l) = .int .i64 x.ix :: .string x.dat :: secCells l := rfl
theorem fateCells_cons (f : Fate) (l : List Fate) : fateCells (f :: l) = .int .i64 f.ix :: .int .i64 f.kind :: .int .i64 f.cut :: .string f.junk :: fateCells l := rfl
theorem secCells_app (l m : List Sec) : secCells (l ++ m) = secCells l ++ secCells m := by simp [secCells]
theorem fateCells_app (l m : List Fate) : fateCells (l ++ m) = fateCells l ++ fateCells m := by simp [fateCells]
theorem secCells_len : ∀ l : List Sec, (secCells l).length = l.length * 2
  | [] => rfl
  | x :: r => by rw [secCells_cons]; simp only [List.length_cons, secCells_len r]; omega
theorem fateCells_len : ∀ l : List Fate, (fateCells l).length = l.length * 4
  | [] => rfl
  | x :: r => by rw [fateCells_cons]; simp only [List.length_cons, fateCells_len r]; omega
theorem secCells_get : ∀ (l : List Sec) (i : Nat) (h : i < l.length), (secCells l)[i * 2]? = some (.int .i64 l[i].ix) ∧ (secCells l)[i * 2 + 1]? = some (.string l[i].dat)
  | [], _, h => absurd h (by simp)
  | x :: r, 0, _ => ⟨rfl, rfl⟩
  | x :: r, i + 1, h => by
    have ih := secCells_get r i (by simpa using h)
    rw [secCells_cons, show (i + 1) * 2 = i * 2 + 1 + 1 by omega]
    simpa using ih
theorem fateCells_get : ∀ (l : List Fate) (i : Nat) (h : i < l.length), (fateCells l)[i * 4]? = some (.int .i64 l[i].ix) ∧ (fateCells l)[i * 4 + 1]? = some (.int .i64 l[i].kind) ∧ (fateCells l)[i * 4 + 2]? = some (.int .i64 l[i].cut) ∧ (fateCells l)[i * 4 + 3]? = some (.string l[i].junk)
  | [], _, h => absurd h (by simp)
  | x :: r, 0, _ => ⟨rfl, rfl, rfl, rfl⟩
  | x :: r, i + 1, h => by
    have ih := fateCells_get r i (by simpa using h)
    rw [fateCells_cons, show (i + 1) * 4 = i * 4 + 1 + 1 + 1 + 1 by omega]
    simpa using ih

/-- Of the blocks that were there those that F holds may have turned; the others are as they were. F': what is held behind it. -/
structure Step (F F' : Nat → Prop) (w w' : World) : Prop where
  os : w'.os = w.os
  tape : w'.tape = w.tape
  output : w'.output = w.output
  size : w.heap.size ≤ w'.heap.size
  block : ∀ k, k < w.heap.size → ¬ F k → w'.heap[k]? = w.heap[k]?
  sub : ∀ k, F' k → F k ∨ w.heap.size ≤ k
theorem Step.refl (F : Nat → Prop) (w : World) : Step F F w w := ⟨rfl, rfl, rfl, Nat.le_refl _, fun _ _ _ => rfl, fun _ h => .inl h⟩
theorem Step.trans {F G H : Nat → Prop} {a b c : World} (h : Step F G a b) (k : Step G H b c) : Step F H a c :=
  ⟨k.os.trans h.os, k.tape.trans h.tape, k.output.trans h.output, Nat.le_trans h.size k.size,
    fun i hi hn => (k.block i (Nat.lt_of_lt_of_le hi h.size) (fun hg => (h.sub i hg).elim hn (by omega))).trans (h.block i hi hn),
    fun i hi => (k.sub i hi).elim (fun hg => h.sub i hg) (fun hs => .inr (Nat.le_trans h.size hs))⟩
theorem Step.of_below {F : Nat → Prop} {w w' : World} (h : Below w.heap.size w w') : Step F F w w' := ⟨h.os, h.tape, h.output, h.size, fun k hk _ => h.block k hk, fun _ h => .inl h⟩
theorem Step.below {F F' : Nat → Prop} {w w' : World} {base : Nat} (h : Step F F' w w') (hF : ∀ k, F k → base ≤ k) (hb : base ≤ w.heap.size) : Below base w w' :=
  ⟨h.os, h.tape, h.output, h.size, fun k hk => h.block k (Nat.lt_of_lt_of_le hk hb) (fun hf => by have := hF k hf; omega)⟩
theorem Step.of_grown {F : Nat → Prop} {w w' : World} {r : Option Nat} (h : w.grownBy w' r) (hr : ∀ j, r = some j → F j ∨ w.heap.size ≤ j) : Step F F w w' :=
  ⟨h.os, h.tape, h.output, h.size, fun k hk hn => h.block k hk (fun e => (hr k e.symm).elim hn (by omega)), fun _ h => .inl h⟩
theorem Step.cell {F F' : Nat → Prop} {w w' : World} (h : Step F F' w w') {a : Addr} {v : Value} (hc : w.cell? a = some v) (hn : ¬ F a.block) : w'.cell? a = some v :=
  (World.cell?_of_block (a := a) (h.block a.block (World.block_lt_of_cell? w a hc) hn)).trans hc

theorem below_drewN {B : Nat} {a w : World} (h : Below B a w) (n : Nat) : Below B a (w.drewN n) := ⟨h.os, h.tape, h.output, h.size, h.block⟩
/-- A row of this world whose block is as it was. -/
theorem owns_blk {w : World} {base e size n : Nat} {v : Value} {xs : List Value} (h : w.ownsRow base e size v n xs) (k : Nat) (hk : v.ownBlock = some k) : base ≤ k ∧ k < w.heap.size ∧ ∃ cur, w.heap[k]? = some (.cells cur e (0, 0)) := by
  rcases h.2 with ⟨h', _⟩ | ⟨g, cap, cur, h', hb, hg, _⟩
  · rw [h'] at hk; simp [Value.ownBlock] at hk
  · rw [h'] at hk
    simp only [Value.ownBlock, Option.some.injEq] at hk
    subst hk
    exact ⟨hb, (Array.getElem?_eq_some_iff.1 hg).1, cur, hg⟩
theorem owns_block {w w' : World} {b e size n : Nat} {v : Value} {xs : List Value} (ho : w.ownsRow b e size v n xs) (hb : ∀ g, v.ownBlock = some g → w'.heap[g]? = w.heap[g]?) : w'.ownsRow b e size v n xs := by
  refine ⟨ho.1, ?_⟩
  rcases ho.2 with h' | ⟨g, cap, cur, h', h1, hg, hr⟩
  · exact .inl h'
  · exact .inr ⟨g, cap, cur, h', h1, (hb g (by rw [h']; rfl)).trans hg, hr⟩
theorem owns_step {F F' : Nat → Prop} {w w' : World} {b e size n : Nat} {v : Value} {xs : List Value} (ho : w.ownsRow b e size v n xs) (h : Step F F' w w') (hn : ∀ g, v.ownBlock = some g → ¬ F g) : w'.ownsRow b e size v n xs :=
  owns_block ho fun g hg => h.block g (owns_blk ho g hg).2.1 (hn g hg)
theorem owns_below {w w' : World} {b e size n : Nat} {v : Value} {xs : List Value} (ho : w.ownsRow b e size v n xs) (h : Below w.heap.size w w') : w'.ownsRow b e size v n xs :=
  owns_block ho fun g hg => h.block g (owns_blk ho g hg).2.1
theorem owns_cell {w : World} {base e size : Nat} {v : Value} {n : Nat} {xs : List Value} {g cap : Nat} (h : w.ownsRow base e size v n xs) (hv : v = .slice (some ⟨g, 0, none⟩) n cap) (i : Nat) (u : Value) (hu : xs[i]? = some u) : w.cell? ⟨g, i, none⟩ = some u := by
  rcases h.2 with ⟨h', _⟩ | ⟨g', cap', cur, h', _, hg, _, _, _, ht⟩
  · rw [h'] at hv; cases hv
  · rw [h'] at hv
    cases hv
    rw [cell_of_row _ g i cur e (0, 0) hg]
    rw [← ht, List.getElem?_take] at hu
    split at hu
    · simpa using hu
    · cases hu
theorem owns_form {w : World} {base e size n : Nat} {v : Value} {xs : List Value} (h : w.ownsRow base e size v n xs) : ∃ a c, v = .slice a n c ∧ (0 < n → ∃ g, a = some ⟨g, 0, none⟩) := by
  rcases h.2 with ⟨h', h0⟩ | ⟨g, cap, cur, h', _⟩
  · exact ⟨none, 0, by rw [h', h0], fun h => by omega⟩
  · exact ⟨_, cap, h', fun _ => ⟨g, rfl⟩⟩
theorem map_ne_cells {w : World} {P : Program} {k : TypeId} {R : Value → Option (DataW Unit × List MemPlace)} {m n g : Nat} {D : DataW Unit} {cur : Array Value} {e : TypeId} {fr : Nat × Nat} (h : w.ownsMap P k R m n D) (hg : w.heap[g]? = some (.cells cur e fr)) : g ≠ m := fun he => by
  obtain ⟨es, ck, hb, _⟩ := h
  rw [he, hb] at hg; cases hg
theorem ownsMap_block {w w' : World} {P : Program} {k : TypeId} {R : Value → Option (DataW Unit × List MemPlace)} {m n : Nat} {D : DataW Unit} (h : w.ownsMap P k R m n D) (hb : w'.heap[m]? = w.heap[m]?) : w'.ownsMap P k R m n D := by
  obtain ⟨es, ck, h1, r⟩ := h
  exact ⟨es, ck, hb.trans h1, r⟩
theorem ownsMap_tight {w : World} {P : Program} {k : TypeId} {R : Value → Option (DataW Unit × List MemPlace)} {m n : Nat} {D : DataW Unit} (h : w.ownsMap P k R m n D) : w.ownsMap P k R m (Maps.size D) D := by
  obtain ⟨es, ck, h1, F, h2, rfl⟩ := h
  refine ⟨es, ck, h1, F, ?_, rfl⟩
  simp [Maps.size, length_sorted]
theorem durD_size (l : List Sec) : Maps.size (durD l) = l.length := by simp [Maps.size, durD]

/-- The arms, in a row that may begin behind some that are gone. -/
def ArmsAt (w : World) (F : Nat → Prop) (v : Value) (l : List Armed) : Prop :=
  (l = [] ∧ v = .slice none 0 0) ∨ ∃ g off cap cur, ∃ fv : List Value, v = .slice (some ⟨g, off, none⟩) l.length cap ∧ F g ∧ w.heap[g]? = some (.cells cur 90 (0, 0)) ∧ l.length ≤ cap ∧ cap ≤ maxLen ∧ off + cap * 2 ≤ cur.size ∧ fv.length = l.length ∧
    ∀ i (h : i < l.length) (h' : i < fv.length), cur[off + i * 2]? = some (.int .i64 l[i].after) ∧ cur[off + i * 2 + 1]? = some fv[i] ∧ w.ownsRow 0 94 4 fv[i] l[i].fates.length (fateCells l[i].fates) ∧ ∀ k, fv[i].ownBlock = some k → F k
/-- What the map of the last pending writes says. -/
def NewD (D : DataW Unit) (l : List Sec) : Prop := ∀ i : Int, Maps.has D (.int .i64 i) = (lastIx l i).isSome ∧ ∀ k, lastIx l i = some k → D.atKey (.int .i64 i) (.lit (.int .i64 0)) = .lit (.int .i64 (k : Int))
def devCells (d : Dev) (mb nb : Nat) (pv av : Value) : Array Value := #[.int .i64 d.size, .map (some mb), pv, .map (some nb), av, .bool d.dead, .int .i64 d.nr, .int .i64 d.nw, .int .i64 d.ns]
structure DevBody (w : World) (b : Nat) (F : Nat → Prop) (d : Dev) (mb nb : Nat) (pv av : Value) (Dn : DataW Unit) : Prop where
  blk : w.heap[b]? = some (.cells (devCells d mb nb pv av) 70 (0, 0))
  fb : F b
  fm : F mb
  fn : F nb
  ne : mb ≠ nb
  mapD : w.ownsMap Tryd.prog 3 secR mb d.dur.length (durD d.dur)
  mapN : w.ownsMap Tryd.prog 3 (plainElem Tryd.prog 3) nb d.pend.length Dn
  new : NewD Dn d.pend
  pend : w.ownsRow 0 74 2 pv d.pend.length (secCells d.pend)
  pf : ∀ g, pv.ownBlock = some g → F g
  arms : ArmsAt w F av d.arms
  ok : d.Ok
  lt : ∀ i, F i → i < w.heap.size
/-- A device: its cells, its two maps, its rows. -/
def DevAt (w : World) (b : Nat) (F : Nat → Prop) (d : Dev) : Prop := ∃ mb nb pv av Dn, DevBody w b F d mb nb pv av Dn

theorem ArmsAt.block {w w' : World} {F : Nat → Prop} {v : Value} {l : List Armed} (h : ArmsAt w F v l) (hb : ∀ k cur, w.heap[k]? = some (.cells cur 90 (0, 0)) ∨ w.heap[k]? = some (.cells cur 94 (0, 0)) → F k → w'.heap[k]? = w.heap[k]?) : ArmsAt w' F v l := by
  rcases h with h | ⟨g, off, cap, cur, fv, h1, h2, h3, h4, h5, h6, h7, h8⟩
  · exact .inl h
  · refine .inr ⟨g, off, cap, cur, fv, h1, h2, (hb g cur (.inl h3) h2).trans h3, h4, h5, h6, h7, fun i h h' => ?_⟩
    obtain ⟨k1, k2, k3, k4⟩ := h8 i h h'
    refine ⟨k1, k2, owns_block k3 fun k hk => ?_, k4⟩
    obtain ⟨_, _, c, hc⟩ := owns_blk k3 k hk
    exact hb k c (.inr hc) (k4 k hk)
theorem ArmsAt.imp {w : World} {F G : Nat → Prop} {v : Value} {l : List Armed} (h : ArmsAt w F v l) (hf : ∀ k, F k → G k) : ArmsAt w G v l := by
  rcases h with h | ⟨g, off, cap, cur, fv, h1, h2, h3, h4, h5, h6, h7, h8⟩
  · exact .inl h
  · exact .inr ⟨g, off, cap, cur, fv, h1, hf g h2, h3, h4, h5, h6, h7, fun i h h' => ⟨(h8 i h h').1, (h8 i h h').2.1, (h8 i h h').2.2.1, fun k hk => hf k ((h8 i h h').2.2.2 k hk)⟩⟩
theorem DevAt.ok {w : World} {b : Nat} {F : Nat → Prop} {d : Dev} (h : DevAt w b F d) : d.Ok := by obtain ⟨_, _, _, _, _, h⟩ := h; exact h.ok
theorem DevAt.lt {w : World} {b : Nat} {F : Nat → Prop} {d : Dev} (h : DevAt w b F d) : ∀ i, F i → i < w.heap.size := by obtain ⟨_, _, _, _, _, h⟩ := h; exact h.lt
theorem DevAt.fb {w : World} {b : Nat} {F : Nat → Prop} {d : Dev} (h : DevAt w b F d) : F b := by obtain ⟨_, _, _, _, _, h⟩ := h; exact h.fb
/-- What others do, to other blocks, leaves a device as it is. -/
theorem DevAt.keep {w w' : World} {b : Nat} {F G G' : Nat → Prop} {d : Dev} (h : DevAt w b F d) (hs : Step G G' w w') (hn : ∀ k, F k → ¬ G k) : DevAt w' b F d := by
  obtain ⟨mb, nb, pv, av, Dn, h⟩ := h
  have hb : ∀ k, F k → w'.heap[k]? = w.heap[k]? := fun k hk => hs.block k (h.lt k hk) (hn k hk)
  exact ⟨mb, nb, pv, av, Dn, (hb b h.fb).trans h.blk, h.fb, h.fm, h.fn, h.ne, ownsMap_block h.mapD (hb mb h.fm), ownsMap_block h.mapN (hb nb h.fn), h.new, owns_block h.pend (fun g hg => hb g (h.pf g hg)), h.pf,
    h.arms.block (fun k _ _ hk => hb k hk), h.ok, fun i hi => Nat.lt_of_lt_of_le (h.lt i hi) hs.size⟩
theorem DevAt.below {w w' : World} {b : Nat} {F : Nat → Prop} {d : Dev} (h : DevAt w b F d) (hs : Below w.heap.size w w') : DevAt w' b F d :=
  h.keep (Step.of_below (F := fun _ => False) hs) (fun _ _ h => h)
theorem DevBody.cell {w : World} {b : Nat} {F : Nat → Prop} {d : Dev} {mb nb : Nat} {pv av : Value} {Dn : DataW Unit} (h : DevBody w b F d mb nb pv av Dn) (j : Nat) : w.cell? ⟨b, j, none⟩ = (devCells d mb nb pv av)[j]? := cell_of_row w b j _ _ _ h.blk
theorem DevBody.frozen {w : World} {b : Nat} {F : Nat → Prop} {d : Dev} {mb nb : Nat} {pv av : Value} {Dn : DataW Unit} (h : DevBody w b F d mb nb pv av Dn) (j : Nat) : w.frozen? ⟨b, j, none⟩ = false := by
  unfold World.frozen?
  rw [show w.heap[(⟨b, j, none⟩ : Addr).block]? = _ from h.blk]
  simp
/-- A row of two numbers of a rising list fits between its ends. -/
theorem rise_len : ∀ (l : List Sec) (lo hi : Int), lo ≤ hi → (∀ x ∈ l, lo ≤ x.ix ∧ x.ix < hi) → l.Pairwise (fun x y => x.ix < y.ix) → (l.length : Int) ≤ hi - lo
  | [], lo, hi, h0, _, _ => by simp; omega
  | x :: r, lo, hi, h0, h, hp => by
    obtain ⟨h1, h2⟩ := List.pairwise_cons.1 hp
    have hx := h x (by simp)
    have ih := rise_len r (x.ix + 1) hi (by omega) (fun y hy => ⟨by have := h1 y hy; omega, (h y (by simp [hy])).2⟩) h2
    simp only [List.length_cons]
    omega
theorem Dev.Ok.dur_len {d : Dev} (h : d.Ok) : d.dur.length ≤ 8388615 := by
  have := rise_len d.dur 0 d.size h.s0 (fun x hx => ⟨(h.dur x hx).1.lo, (h.dur x hx).1.hi⟩) h.rise
  have := h.s1
  omega

/-- The refusals of the device, all below base. -/
structure ErrsB (base : Nat) (A : Nat → Addr) (w : World) : Prop where
  arg : w.cell? ⟨0, 0, none⟩ = some (.iface 118 (.pointer (some (A 0))))
  many : w.cell? ⟨3, 0, none⟩ = some (.iface 118 (.pointer (some (A 2))))
  dead : w.cell? ⟨1, 0, none⟩ = some (.iface 118 (.pointer (some (A 7))))
  lo : 0 < base ∧ 3 < base ∧ 1 < base
  size : base ≤ w.heap.size
theorem ErrsB.keep {base : Nat} {A : Nat → Addr} {w w' : World} (h : ErrsB base A w) (hb : Below base w w') : ErrsB base A w' :=
  ⟨(World.cell?_of_block (a := ⟨0, 0, none⟩) (hb.block _ h.lo.1)).trans h.arg, (World.cell?_of_block (a := ⟨3, 0, none⟩) (hb.block _ h.lo.2.1)).trans h.many, (World.cell?_of_block (a := ⟨1, 0, none⟩) (hb.block _ h.lo.2.2)).trans h.dead, h.lo, Nat.le_trans h.size hb.size⟩
theorem ErrsB.step {base : Nat} {A : Nat → Addr} {w w' : World} {F F' : Nat → Prop} (h : ErrsB base A w) (hs : Step F F' w w') (hF : ∀ k, F k → base ≤ k) : ErrsB base A w' := h.keep (hs.below hF h.size)
theorem ErrsB.up {base : Nat} {A : Nat → Addr} {w w' : World} (h : ErrsB base A w) (hb : Below w.heap.size w w') : ErrsB base A w' := h.keep (hb.mono h.size)
theorem Step.ge {F F' : Nat → Prop} {w w' : World} {base : Nat} (h : Step F F' w w') (hF : ∀ k, F k → base ≤ k) (hb : base ≤ w.heap.size) : ∀ k, F' k → base ≤ k := fun k hk => (h.sub k hk).elim (hF k) (fun h' => Nat.le_trans hb h')

end Go.Proofs.YtmifadjgmjnkgaaDoor.V
