import Derived.Test.YtpeobpmooledaaaDoorGB
import Derived.Test.YtpeobpmooledaaaDoorGA
import Derived.Lib.BufferWrite
import Derived.Deep.WholeRow
import Derived.Test.YtpeobpmooledaaaDoorBKit
namespace Go.Proofs.YtpeobpmooledaaaDoor.M
open Go.RowKit

/-- Of the blocks that were there all but rb are as they were. -/
structure Sole (rb : Nat) (w w' : World) : Prop where
  os : w'.os = w.os
  tape : w'.tape = w.tape
  output : w'.output = w.output
  size : w.heap.size ≤ w'.heap.size
  block : ∀ k, k < w.heap.size → k ≠ rb → w'.heap[k]? = w.heap[k]?
theorem Sole.refl (rb : Nat) (w : World) : Sole rb w w := ⟨rfl, rfl, rfl, Nat.le_refl _, fun _ _ _ => rfl⟩
theorem Sole.trans {rb : Nat} {a b c : World} (h : Sole rb a b) (k : Sole rb b c) : Sole rb a c :=
  ⟨k.os.trans h.os, k.tape.trans h.tape, k.output.trans h.output, Nat.le_trans h.size k.size, fun i hi hn => (k.block i (Nat.lt_of_lt_of_le hi h.size) hn).trans (h.block i hi hn)⟩
theorem Sole.of_below {rb : Nat} {w w' : World} (h : Below w.heap.size w w') : Sole rb w w' := ⟨h.os, h.tape, h.output, h.size, fun k hk _ => h.block k hk⟩
theorem Sole.set (rb o : Nat) (w : World) (u : Value) : Sole rb w (w.setCell ⟨rb, o, none⟩ u) :=
  ⟨rfl, rfl, rfl, by simp [World.setCell], fun k _ hn => Below.heap_setCell w ⟨rb, o, none⟩ u k (fun e => hn e)⟩
theorem Sole.setRow (rb : Nat) (w : World) (cs : Array Value) : Sole rb w (w.setRow rb cs) :=
  ⟨rfl, rfl, rfl, by simp [World.setRow], fun k _ hn => setRow_other w rb k cs hn⟩
theorem Sole.below {rb : Nat} {w0 w w' : World} (h : Sole rb w w') (hb : Below w0.heap.size w0 w) (hr : w0.heap.size ≤ rb) : Below w0.heap.size w0 w' :=
  hb.trans ⟨h.os, h.tape, h.output, h.size, fun k hk => h.block k (Nat.lt_of_lt_of_le hk hb.size) (by omega)⟩
theorem Sole.cell {rb : Nat} {w w' : World} (h : Sole rb w w') {a : Addr} {v : Value} (hc : w.cell? a = some v) (hn : a.block ≠ rb) : w'.cell? a = some v :=
  (World.cell?_of_block (a := a) (h.block a.block (World.block_lt_of_cell? w a hc) hn)).trans hc

/-- The block g, of a type t, holds just these bytes. -/
def RowT (t : TypeId) (w : World) (g : Nat) (l : List UInt8) : Prop := w.heap[g]? = some (.cells (u8s l).toArray t (0, 0))
theorem RowT.lt {t : TypeId} {w : World} {g : Nat} {l : List UInt8} (h : RowT t w g l) : g < w.heap.size := by
  rcases Nat.lt_or_ge g w.heap.size with h' | h'
  · exact h'
  · unfold RowT at h; rw [Array.getElem?_eq_none h'] at h; cases h
theorem RowT.cell {t : TypeId} {w : World} {g : Nat} {l : List UInt8} (h : RowT t w g l) (j : Nat) (hj : j < l.length) : w.cell? ⟨g, j, none⟩ = some (.int .u8 (l[j].toNat : Int)) := by
  rw [cell_of_row w g j _ _ _ h]
  simpa using u8s_get l j hj
theorem RowT.below {t : TypeId} {w w' : World} {g : Nat} {l : List UInt8} (h : RowT t w g l) (hb : Below w.heap.size w w') : RowT t w' g l := by
  unfold RowT; rw [hb.block g h.lt]; exact h
theorem RowT.sole {t : TypeId} {w w' : World} {g rb : Nat} {l : List UInt8} (h : RowT t w g l) (hb : Sole rb w w') (hn : g ≠ rb) : RowT t w' g l := by
  unfold RowT; rw [hb.block g h.lt hn]; exact h
theorem RowT.rd {t : TypeId} {w : World} {g n : Nat} {l : List UInt8} (h : RowT t w g l) (hn : l.length = n) (hm : n ≤ maxLen) : Rd w (.slice (some ⟨g, 0, none⟩) n n) l := by
  subst hn
  exact .inr ⟨g, l.length, rfl, Nat.le_refl _, hm, h.lt, h.cell⟩
theorem u8s_splice (l : List UInt8) (o : Nat) (c : List UInt8) : splice (u8s l) o (u8s c) = u8s (splice l o c) := by
  simp [splice, u8s]
theorem rowT_new (t : TypeId) (w : World) (l : List UInt8) : RowT t (w.alloc (.cells (u8s l).toArray t)) w.heap.size l := heap_alloc_new w _

/-- A copy of bytes that lie elsewhere into a row of bytes. -/
theorem copy_row {t : TypeId} {w : World} {g o cap n g2 o2 c2 : Nat} {l c : List UInt8} (hr : RowT t w g l) (hn : c.length = n) (hc : ∀ j (h : j < c.length), w.cell? ⟨g2, o2 + j, none⟩ = some (.int .u8 (c[j].toNat : Int))) (hfit : o + c.length ≤ l.length) :
    ∃ w2, (Builtin.copy_ #[41, 41] 3 #[.slice (some ⟨g, o, none⟩) n cap, .slice (some ⟨g2, o2, none⟩) n c2]).run Tryd.prog w = .ok (goInt n) w2 ∧ RowT t w2 g (splice l o c) ∧ Sole g w w2 := by
  subst hn
  have hrun := run_copy_row (P := Tryd.prog) w 41 41 3 5 g o c.length cap ⟨g2, o2, none⟩ c.length c2 _ t (u8s c) Tryd.underlying41 size5 hr (by rw [u8s_length]; exact (Nat.min_self _).symm)
    (fun j v hv => by
      by_cases hj : j < c.length
      · rw [u8s_get c j hj] at hv
        cases hv
        rw [show (⟨g2, o2, none⟩ : Addr).add j = ⟨g2, o2 + j, none⟩ by simp [Addr.add]]
        exact hc j hj
      · rw [List.getElem?_eq_none (by rw [u8s_length]; omega)] at hv; cases hv)
    (by rw [u8s_length]; simp [u8s_length]; omega) (u8s_one c)
  rw [u8s_length] at hrun
  refine ⟨_, hrun, ?_, Sole.setRow g w _⟩
  have hrow := setRow_heap w g _ ((u8s l).toArray.toList.take o ++ u8s c ++ (u8s l).toArray.toList.drop (o + c.length)).toArray t _ hr
  unfold RowT
  rw [hrow, ← u8s_splice, splice, u8s_length, List.append_assoc]

/-- What a 'copy(s[:], mark)' leaves. -/
theorem copy_mark {t : TypeId} {w : World} {g cap n m : Nat} {l : List UInt8} (s : ByteArray) (hr : RowT t w g l) (hm : m = s.size) (hn : s.size ≤ n) (hfit : s.size ≤ l.length) :
    ∃ w2, (Builtin.copy_ #[41, 9] 3 #[.slice (some ⟨g, 0, none⟩) n cap, .string s]).run Tryd.prog w = .ok (goInt m) w2 ∧ RowT t w2 g (splice l 0 s.data.toList) ∧ Sole g w w2 := by
  subst hm
  have hrun := Lib.run_copy_row_string (P := Tryd.prog) w 41 9 3 5 g 0 n cap s _ t Tryd.underlying41 size5 hr hn (by simp [u8s_length]; omega)
  refine ⟨_, hrun, ?_, Sole.setRow g w _⟩
  have hrow := setRow_heap w g _ ((u8s l).toArray.toList.take 0 ++ Lib.byteCells s.data.toList ++ (u8s l).toArray.toList.drop (0 + s.size)).toArray t _ hr
  unfold RowT
  rw [hrow, ← u8s_splice, splice, u8s_length, bsize, List.append_assoc]
  rfl

/-- The places of a meta, written one behind the other. -/
theorem splice_all (x0 x1 x2 x3 x4 x5 x6 x7 x8 x9 x10 x11 x12 x13 x14 x15 x16 x17 x18 x19 x20 x21 x22 x23 x24 x25 x26 x27 : UInt8) (body : List UInt8) (p r t : Nat) :
    splice (splice (splice (splice (x0 :: x1 :: x2 :: x3 :: x4 :: x5 :: x6 :: x7 :: x8 :: x9 :: x10 :: x11 :: x12 :: x13 :: x14 :: x15 :: x16 :: x17 :: x18 :: x19 :: x20 :: x21 :: x22 :: x23 :: x24 :: x25 :: x26 :: x27 :: body) 0 markL) 8 (beBytes p 4)) 12 (beBytes r 4)) 16 (beBytes t 8) =
      67 :: 79 :: 80 :: 83 :: 69 :: 0 :: 1 :: 0 :: dig p 4 :: dig p 5 :: dig p 6 :: dig p 7 :: dig r 4 :: dig r 5 :: dig r 6 :: dig r 7 :: dig t 0 :: dig t 1 :: dig t 2 :: dig t 3 :: dig t 4 :: dig t 5 :: dig t 6 :: dig t 7 :: x24 :: x25 :: x26 :: x27 :: body := rfl
theorem mbare_eq (p r t s : Nat) : mbare p r t s = 67 :: 79 :: 80 :: 83 :: 69 :: 0 :: 1 :: 0 :: dig p 4 :: dig p 5 :: dig p 6 :: dig p 7 :: dig r 4 :: dig r 5 :: dig r 6 :: dig r 7 :: dig t 0 :: dig t 1 :: dig t 2 :: dig t 3 :: dig t 4 :: dig t 5 :: dig t 6 :: dig t 7 :: dig s 4 :: dig s 5 :: dig s 6 :: dig s 7 :: tailZ := rfl
theorem dig_zero (j : Nat) : dig 0 j = 0 := by unfold dig; simp
theorem zeros512 : List.replicate 512 (0 : UInt8) = 0 :: 0 :: 0 :: 0 :: 0 :: 0 :: 0 :: 0 :: 0 :: 0 :: 0 :: 0 :: 0 :: 0 :: 0 :: 0 :: 0 :: 0 :: 0 :: 0 :: 0 :: 0 :: 0 :: 0 :: 0 :: 0 :: 0 :: 0 :: tailZ := rfl
theorem splice_bare (p r t : Nat) : splice (splice (splice (splice (List.replicate 512 0) 0 markL) 8 (beBytes p 4)) 12 (beBytes r 4)) 16 (beBytes t 8) = mbare p r t 0 := by
  rw [zeros512, splice_all, mbare_eq]
  simp only [dig_zero]
theorem splice_sum (p r t s : Nat) : splice (mbare p r t 0) 24 (beBytes s 4) = mbare p r t s := by
  rw [mbare_eq, mbare_eq]; rfl

end Go.Proofs.YtpeobpmooledaaaDoor.M

namespace Go.Proofs.YtpeobpmooledaaaDoor
open Go.RowKit
attribute [local go_sem ↓] Go.wp_at_zero Go.wp_at_succ

theorem results_one {P : Program} {fn : Func} {p : Tmp} {ty : TypeId} (h : fn.results = #[.cell p ty]) (tmps : Array Value) (w : World) (g : Nat) (t : TypeId) (cs : Array Value) (fr : Nat × Nat) (d : TypeDesc)
    (hp : tmps.getD p undef = .pointer (some ⟨g, 0, none⟩)) (hg : w.heap[g]? = some (.cells cs t fr)) (hu : P.underlying ty = some d) (hd : (match d with | .struct _ | .array _ _ => true | _ => false) = true) (hi : (P.info? ty).map (·.size) = some cs.size) :
    (results fn tmps).run P w = .ok (.agg cs) w := by
  have e : (results fn tmps).run P w = ((asAddr (tmps.getD p undef)).run P w).andThen fun a w₁ => (loadVar ty a).run P w₁ := by
    simp only [results, h]
    simp [Sem.run_bind, Result.andThen]
  rw [e, hp]
  simp [asAddr, run_loadVar_row w g t ty cs fr d hg hu hd hi, Result.andThen]
theorem own_kept {w w' : World} {base n : Nat} {e : TypeId} {sz : Nat} {v : Value} {us : List Value} (h : w.ownsRow base e sz v n us) (hb : ∀ k, v.ownBlock = some k → w'.heap[k]? = w.heap[k]?) : w'.ownsRow base e sz v n us := by
  refine ⟨h.1, ?_⟩
  rcases h.2 with h' | ⟨g, cap, cur, h', h1, h2, hr⟩
  · exact .inl h'
  · exact .inr ⟨g, cap, cur, h', h1, (hb g (by rw [h']; rfl)).trans h2, hr⟩
theorem own_kind {w : World} {base n : Nat} {e : TypeId} {sz : Nat} {v : Value} {us : List Value} (h : w.ownsRow base e sz v n us) : ∀ k, v.ownBlock = some k → base ≤ k ∧ k < w.heap.size ∧ ∃ cs, w.heap[k]? = some (.cells cs e (0, 0)) := by
  intro k hk
  have hl := World.ownsRow.lt h k hk
  rcases h.2 with ⟨rfl, _⟩ | ⟨g, cap, cur, rfl, h1, h2, hr⟩
  · simp [Value.ownBlock] at hk
  · simp [Value.ownBlock] at hk; subst hk; exact ⟨hl.1, hl.2, _, h2⟩
/-- Numbers of the call's own. -/
def IO (w : World) (base : Nat) (v : Value) (l : List Int) : Prop := w.ownsRow base 3 1 v l.length (ints l)
/-- An archive in a block of the call's own, its lists the call's own, too. -/
structure Gv (W w : World) (B : Nat) (a : Ar) (v1 v2 : Value) (l1 : List Int) (l2 : List Pc) : Prop where
  row : RowAt w B (arC a v1 v2) 29
  own1 : IO w W.heap.size v1 l1
  own2 : PcO w W.heap.size v2 l2
  sole : M.Sole B W w
  lt : B < W.heap.size
theorem Gv.apart {W w : World} {B : Nat} {a : Ar} {v1 v2 : Value} {l1 : List Int} {l2 : List Pc} (h : Gv W w B a v1 v2 l1 l2) : ∀ k j, v1.ownBlock = some k → v2.ownBlock = some j → k ≠ j := by
  intro k j hk hj e
  subst e
  obtain ⟨_, _, cs, h1⟩ := own_kind h.own1 k hk
  obtain ⟨_, _, cs', h2⟩ := own_kind h.own2 k hj
  rw [h1] at h2
  cases h2
theorem Gv.below {W w w' : World} {B : Nat} {a : Ar} {v1 v2 : Value} {l1 : List Int} {l2 : List Pc} (h : Gv W w B a v1 v2 l1 l2) (hb : Below w.heap.size w w') : Gv W w' B a v1 v2 l1 l2 :=
  ⟨h.row.below hb, own_kept h.own1 (fun k hk => hb.block k (own_kind h.own1 k hk).2.1), own_kept h.own2 (fun k hk => hb.block k (own_kind h.own2 k hk).2.1), h.sole.trans (M.Sole.of_below hb), h.lt⟩
/-- What a store of a new list leaves. -/
theorem Gv.set1 {W w : World} {B : Nat} {a : Ar} {v1 v1' v2 : Value} {l1' : List Int} {l2 : List Pc} (hr : RowAt w B (arC a v1 v2) 29) (h1 : IO w W.heap.size v1' l1') (h2 : PcO w W.heap.size v2 l2) (hs : M.Sole B W w) (hl : B < W.heap.size) : Gv W (w.setCell ⟨B, 4, none⟩ v1') B a v1' v2 l1' l2 :=
  ⟨Go.heap_setCell_same w B 4 _ 29 _ hr, own_kept h1 (fun k hk => Below.heap_setCell _ _ _ _ (fun e => by have e' : k = B := e; have := (own_kind h1 k hk).1; omega)), own_kept h2 (fun k hk => Below.heap_setCell _ _ _ _ (fun e => by have e' : k = B := e; have := (own_kind h2 k hk).1; omega)), hs.trans (M.Sole.set B 4 w v1'), hl⟩
theorem Gv.set2 {W w : World} {B : Nat} {a : Ar} {v1 v2 v2' : Value} {l1 : List Int} {l2' : List Pc} (hr : RowAt w B (arC a v1 v2) 29) (h1 : IO w W.heap.size v1 l1) (h2 : PcO w W.heap.size v2' l2') (hs : M.Sole B W w) (hl : B < W.heap.size) : Gv W (w.setCell ⟨B, 5, none⟩ v2') B a v1 v2' l1 l2' :=
  ⟨Go.heap_setCell_same w B 5 _ 29 _ hr, own_kept h1 (fun k hk => Below.heap_setCell _ _ _ _ (fun e => by have e' : k = B := e; have := (own_kind h1 k hk).1; omega)), own_kept h2 (fun k hk => Below.heap_setCell _ _ _ _ (fun e => by have e' : k = B := e; have := (own_kind h2 k hk).1; omega)), hs.trans (M.Sole.set B 5 w v2'), hl⟩
theorem grown_sole {W w w' : World} {B : Nat} {row : Option Nat} (hs : M.Sole B W w) (hg : w.grownBy w' row) (hn : ∀ k, row = some k → W.heap.size ≤ k) : M.Sole B W w' :=
  ⟨hg.os.trans hs.os, hg.tape.trans hs.tape, hg.output.trans hs.output, Nat.le_trans hs.size hg.size, fun k hk hne => (hg.block k (Nat.lt_of_lt_of_le hk hs.size) (fun e => by have := hn k e.symm; omega)).trans (hs.block k hk hne)⟩
theorem grown_row {w w' : World} {B : Nat} {row : Option Nat} {cs : Array Value} {t : TypeId} (h : RowAt w B cs t) (hg : w.grownBy w' row) (hn : ∀ k, row = some k → B ≠ k) : RowAt w' B cs t := by
  unfold RowAt; rw [hg.block B h.lt (fun e => hn B e.symm rfl)]; exact h
/-- append to the numbers, and the store. -/
theorem Gv.app1 {W w : World} {B : Nat} {a : Ar} {v1 v2 : Value} {l1 : List Int} {l2 : List Pc} (h : Gv W w B a v1 v2 l1 l2) (s : Value) (us : List Int) (hs : RowR w s (ints us)) (hb : (l1.length + us.length) * 8 ≤ 140737488355328) :
    ∃ x c n w', (Builtin.append_ #[25, 25] 25 #[v1, s]).run Tryd.prog w = .ok (.slice x n c) w' ∧ n = (l1 ++ us).length ∧ RowAt w' B (arC a v1 v2) 29 ∧ Gv W (w'.setCell ⟨B, 4, none⟩ (.slice x n c)) B a (.slice x n c) v2 (l1 ++ us) l2 := by
  obtain ⟨x, c, w', hr, ho, hg⟩ := append_row 25 3 _ 8 info3 Tryd.underlying25 rfl W.heap.size l1.length v1 (ints l1) w h.own1 s (ints us) hs (ints_one us) (by rw [ints_length]; exact hb) (by decide) h.sole.size
  rw [ints_length] at hr ho
  have hk := own_kind h.own1
  have row' := grown_row h.row hg (fun k e => by have := (hk k e).1; have := h.lt; omega)
  refine ⟨x, c, _, w', hr, by rw [List.length_append], row', Gv.set1 row' ?_ (own_kept h.own2 fun j hj => hg.block j (own_kind h.own2 j hj).2.1 (fun e => h.apart j j e.symm hj rfl)) (grown_sole h.sole hg (fun k e => (hk k e).1)) h.lt⟩
  unfold IO
  rw [List.length_append, ints_append]
  exact ho
theorem Gv.app2 {W w : World} {B : Nat} {a : Ar} {v1 v2 : Value} {l1 : List Int} {l2 : List Pc} (h : Gv W w B a v1 v2 l1 l2) (s : Value) (us : List Pc) (hs : PcR w s us) (hb : (l2.length + us.length) * 32 ≤ 140737488355328) :
    ∃ x c n w', (Builtin.append_ #[26, 26] 26 #[v2, s]).run Tryd.prog w = .ok (.slice x n c) w' ∧ n = (l2 ++ us).length ∧ RowAt w' B (arC a v1 v2) 29 ∧ Gv W (w'.setCell ⟨B, 5, none⟩ (.slice x n c)) B a v1 (.slice x n c) l1 (l2 ++ us) := by
  obtain ⟨x, c, w', hr, ho, hg⟩ := append_pcs W.heap.size v2 s l2 us w h.own2 hs hb h.sole.size
  have hk := own_kind h.own2
  have row' := grown_row h.row hg (fun k e => by have := (hk k e).1; have := h.lt; omega)
  refine ⟨x, c, _, w', hr, by rw [List.length_append], row', Gv.set2 row' (own_kept h.own1 fun j hj => hg.block j (own_kind h.own1 j hj).2.1 (fun e => h.apart j j hj e.symm rfl)) ho (grown_sole h.sole hg (fun k e => (hk k e).1)) h.lt⟩
theorem rowSet7 {w : World} {b : Nat} {x0 x1 x2 x3 x4 x5 x6 : Value} {t : TypeId} (h : RowAt w b #[x0, x1, x2, x3, x4, x5, x6] t) (y0 y1 y2 y3 y4 y5 y6 : Value) : RowAt (((((((w.setCell ⟨b, 0, none⟩ y0).setCell ⟨b, 1, none⟩ y1).setCell ⟨b, 2, none⟩ y2).setCell ⟨b, 3, none⟩ y3).setCell ⟨b, 4, none⟩ y4).setCell ⟨b, 5, none⟩ y5).setCell ⟨b, 6, none⟩ y6) b #[y0, y1, y2, y3, y4, y5, y6] t := by
  have h0 : RowAt (w.setCell ⟨b, 0, none⟩ y0) b #[y0, x1, x2, x3, x4, x5, x6] t := Go.heap_setCell_same w b 0 _ t _ h
  have h1 : RowAt ((w.setCell ⟨b, 0, none⟩ y0).setCell ⟨b, 1, none⟩ y1) b #[y0, y1, x2, x3, x4, x5, x6] t := Go.heap_setCell_same _ b 1 _ t _ h0
  generalize (w.setCell ⟨b, 0, none⟩ y0).setCell ⟨b, 1, none⟩ y1 = w1 at *
  have h2 : RowAt (w1.setCell ⟨b, 2, none⟩ y2) b #[y0, y1, y2, x3, x4, x5, x6] t := Go.heap_setCell_same _ b 2 _ t _ h1
  have h3 : RowAt ((w1.setCell ⟨b, 2, none⟩ y2).setCell ⟨b, 3, none⟩ y3) b #[y0, y1, y2, y3, x4, x5, x6] t := Go.heap_setCell_same _ b 3 _ t _ h2
  generalize (w1.setCell ⟨b, 2, none⟩ y2).setCell ⟨b, 3, none⟩ y3 = w2 at *
  have h4 : RowAt (w2.setCell ⟨b, 4, none⟩ y4) b #[y0, y1, y2, y3, y4, x5, x6] t := Go.heap_setCell_same _ b 4 _ t _ h3
  have h5 : RowAt ((w2.setCell ⟨b, 4, none⟩ y4).setCell ⟨b, 5, none⟩ y5) b #[y0, y1, y2, y3, y4, y5, x6] t := Go.heap_setCell_same _ b 5 _ t _ h4
  exact Go.heap_setCell_same _ b 6 _ t _ h5
/-- The marks behind the lists. -/
def mkP : Pc := ⟨-7, 0, ⟨#[]⟩⟩
end Go.Proofs.YtpeobpmooledaaaDoor
