import Derived.Test.YtdieacdkomiooabDoorDPlays
import Derived.Deep.MidRow
import Derived.Deep.RegionHeld3
import Derived.Deep.DeepCutAuto
import Derived.Deep.DeepAppendRoom
import Derived.ArgAppend
namespace Go.Proofs.YtdieacdkomiooabDoor
open Go.RowKit Go.Maps

theorem owns_head {w : World} {b e size n m cap g : Nat} {xs ys : List Value} (h : w.ownsRow b e size (.slice (some ⟨g, 0, none⟩) (n + m) cap) (n + m) (xs ++ ys)) (hx : xs.length = n * size) : w.ownsRow b e size (.slice (some ⟨g, 0, none⟩) n cap) n xs := by
  refine ⟨hx, ?_⟩
  rcases h.2 with ⟨h', _⟩ | ⟨g', cap', cur, h', h1, h2, h3, h4, h5, h6⟩
  · cases h'
  · simp only [Value.slice.injEq, Option.some.injEq, Addr.mk.injEq, and_true, true_and] at h'
    obtain ⟨rfl, rfl⟩ := h'
    refine .inr ⟨g, cap, cur, rfl, h1, h2, by omega, h4, h5, ?_⟩
    have : (cur.toList.take ((n + m) * size)).take (n * size) = (xs ++ ys).take (n * size) := by rw [h6]
    rw [List.take_take, Nat.min_eq_left (Nat.mul_le_mul_right _ (by omega))] at this
    rw [this, ← hx, List.take_left']
    rfl
theorem step_set {w : World} {g j : Nat} {v : Value} : Step (fun k => k = g) (fun k => k = g) w (w.setCell ⟨g, j, none⟩ v) :=
  ⟨rfl, rfl, rfl, by simp [World.setCell], fun k _ hn => Below.heap_setCell w ⟨g, j, none⟩ v k (fun e => hn e), fun _ h => .inl h⟩
theorem fate_under : Tryd.prog.underlying 92 = some (.struct (Tryd.prog.fieldsOf 92)) := by kernel_rfl
theorem fate_held : Tryd.prog.stoodInHeld 92 = false := by kernel_rfl
set_option maxRecDepth 100000 in
set_option maxHeartbeats 1000000 in
theorem fate_self (w : World) (k i t : Int) (b : ByteArray) :
    (binOp .eql 92 (.agg #[.int .i64 k, .int .i64 i, .int .i64 t, .string b]) (.agg #[.int .i64 k, .int .i64 i, .int .i64 t, .string b])).run Tryd.prog w = .ok (.bool true) w := by
  rw [run_eql_struct, run_equalIn_agg w 9999 92 _ _ fate_under fate_held]
  simp [go_sem]
theorem sec_under : Tryd.prog.underlying 68 = some (.struct (Tryd.prog.fieldsOf 68)) := by kernel_rfl
theorem sec_held : Tryd.prog.stoodInHeld 68 = false := by kernel_rfl
set_option maxRecDepth 100000 in
set_option maxHeartbeats 1000000 in
theorem sec_nself (w : World) (k : Int) (b : ByteArray) :
    (binOp .neq 68 (.agg #[.int .i64 k, .string b]) (.agg #[.int .i64 k, .string b])).run Tryd.prog w = .ok (.bool false) w := by
  rw [run_neq_struct, run_equalIn_agg w 9999 68 _ _ sec_under sec_held]
  simp [go_sem]

def bhd : ByteArray := { data := #[98, 101, 104, 105, 110, 100] }
theorem bhd_size (D : ByteArray) : (D ++ bhd).size = D.size + 6 := by rw [ByteArray.size_append]; rfl
theorem bhd_list (D : ByteArray) : (D ++ bhd).data.toList = bl D ++ [98, 101, 104, 105, 110, 100] := by
  rw [ByteArray.data_append, Array.toList_append]; rfl
/-- The fate behind those that are handed in. -/
def lastF : Fate := ⟨-5, 0, 0, bhd⟩
/-- What handed holds while the device makes its step. -/
structure HM (w wz : World) (b : Nat) (F : Nat → Prop) (d : Dev) (s : Stp) (fv : Value) (gp cp gl cl p8 p10 : Nat) (got : Array Value) (P : List UInt8) : Prop where
  dev : DevAt wz b F d
  five : Five wz w.heap.size s fv
  res : wz.heap[w.heap.size + 1]? = some (.cells zSaid 38 (0, 0))
  prow : wz.ownsRow w.heap.size 5 1 (.slice (some ⟨gp, 0, none⟩) P.length cp) P.length (u8s P)
  lrow : wz.ownsRow w.heap.size 92 4 (.slice (some ⟨gl, 0, none⟩) (s.fates.length + 1) cl) (s.fates.length + 1) (fateCells (s.fates ++ [lastF]))
  last : wz.heap[p8]? = some (.cells #[.int .i64 (-5), .int .i64 0, .int .i64 0, .string bhd] 92 (0, 0))
  gotb : wz.heap[p10]? = some (.cells got 38 (0, 0))
  lo : w.heap.size ≤ p8 ∧ w.heap.size + 1 < p10 ∧ gl ≠ p8 ∧ w.heap.size + 1 < gp ∧ w.heap.size + 1 < gl
  nf : ¬ F w.heap.size ∧ ¬ F (w.heap.size + 1) ∧ ¬ F gp ∧ ¬ F gl ∧ ¬ F p8 ∧ ¬ F p10
theorem HM.step {w wz w' : World} {b : Nat} {F F' : Nat → Prop} {d d' : Dev} {s : Stp} {fv : Value} {gp cp gl cl p8 p10 : Nat} {got : Array Value} {P : List UInt8} (h : HM w wz b F d s fv gp cp gl cl p8 p10 got P) (hd : DevAt w' b F' d') (hs : Step F F' wz w') : HM w w' b F' d' s fv gp cp gl cl p8 p10 got P := by
  obtain ⟨n0, n1, n2, n3, n4, n5⟩ := h.nf
  have hw : w.heap.size < wz.heap.size := World.block_lt_of_cell? wz _ h.five.s0
  have e1 : w.heap.size + 1 < wz.heap.size := (Array.getElem?_eq_some_iff.1 h.res).1
  have e8 : p8 < wz.heap.size := (Array.getElem?_eq_some_iff.1 h.last).1
  have e10 : p10 < wz.heap.size := (Array.getElem?_eq_some_iff.1 h.gotb).1
  have ep : gp < wz.heap.size := (owns_blk h.prow gp rfl).2.1
  have el : gl < wz.heap.size := (owns_blk h.lrow gl rfl).2.1
  have out : ∀ k, k < wz.heap.size → ¬ F k → ¬ F' k := fun k hk hn hf => (hs.sub k hf).elim hn (by omega)
  refine ⟨hd, h.five.step hs n0, (hs.block _ e1 n1).trans h.res, owns_step h.prow hs (fun g hg => ?_), owns_step h.lrow hs (fun g hg => ?_), (hs.block _ e8 n4).trans h.last, (hs.block _ e10 n5).trans h.gotb, h.lo, ⟨out _ hw n0, out _ e1 n1, out _ ep n2, out _ el n3, out _ e8 n4, out _ e10 n5⟩⟩
  · simp only [Value.ownBlock, Option.some.injEq] at hg; rw [← hg]; exact n2
  · simp only [Value.ownBlock, Option.some.injEq] at hg; rw [← hg]; exact n3
theorem HM.up {w wz w' : World} {b : Nat} {F : Nat → Prop} {d : Dev} {s : Stp} {fv : Value} {gp cp gl cl p8 p10 : Nat} {got : Array Value} {P : List UInt8} (h : HM w wz b F d s fv gp cp gl cl p8 p10 got P) (hb : Below wz.heap.size wz w') : HM w w' b F d s fv gp cp gl cl p8 p10 got P :=
  h.step (h.dev.below hb) (Step.of_below hb)
/-- Only blocks outside the device turn. -/
theorem DevAt.other {w w' : World} {b : Nat} {F : Nat → Prop} {d : Dev} {G G' : Nat → Prop} (h : DevAt w b F d) (hs : Step G G' w w') (hn : ∀ k, G k → ¬ F k) : DevAt w' b F d := h.keep hs (fun k hf hg => hn k hg hf)

theorem setRow_other {w : World} {p : Nat} {X : Array Value} {k : Nat} (h : k ≠ p) : (w.setRow p X).heap[k]? = w.heap[k]? := by
  have : p ≠ k := fun e => h e.symm
  simp [World.setRow, Array.getElem?_modify, this]
theorem setRow_step {w : World} {p : Nat} {X : Array Value} : Step (fun k => k = p) (fun k => k = p) w (w.setRow p X) := ⟨rfl, rfl, rfl, by simp [World.setRow], fun k _ hk => setRow_other hk, fun _ h => .inl h⟩
theorem HM.got {w wz : World} {b : Nat} {F : Nat → Prop} {d : Dev} {s : Stp} {fv : Value} {gp cp gl cl p8 p10 : Nat} {got : Array Value} {P : List UInt8} (h : HM w wz b F d s fv gp cp gl cl p8 p10 got P) (X : Array Value) : HM w (wz.setRow p10 X) b F d s fv gp cp gl cl p8 p10 X P := by
  have hs := setRow_step (w := wz) (p := p10) (X := X)
  obtain ⟨l1, l2, l3, l4, l5⟩ := h.lo
  have ty : ∀ k cur e, wz.heap[k]? = some (.cells cur e (0, 0)) → e ≠ 38 → k ≠ p10 := fun k cur e hk he e' => by
    rw [e', h.gotb] at hk; simp at hk; exact he hk.2.symm
  have e8 : p8 ≠ p10 := ty _ _ _ h.last (by decide)
  refine ⟨h.dev.keep hs (fun k hk e => h.nf.2.2.2.2.2 (by rw [← e]; exact hk)), h.five.step hs (by omega), (setRow_other (by omega)).trans h.res, owns_step h.prow hs (fun g hg => ?_), owns_step h.lrow hs (fun g hg => ?_), (setRow_other e8).trans h.last, setRow_heap _ _ _ _ _ _ h.gotb, h.lo, h.nf⟩
  · obtain ⟨_, _, cur, hc⟩ := owns_blk h.prow g hg
    exact ty _ _ _ hc (by decide)
  · obtain ⟨_, _, cur, hc⟩ := owns_blk h.lrow g hg
    exact ty _ _ _ hc (by decide)
/-- What handed's loops hold. -/
structure LA (w wr : World) (b : Nat) (F0 F : Nat → Prop) (r : Dev × SaidD) (s : Stp) (fv : Value) (gp gl p10 LP k : Nat) (vb vs : Value) : Prop where
  dev : DevAt wr b F r.1
  step : Step F0 F w wr
  five : Five wr w.heap.size s fv
  res : wr.heap[w.heap.size + 1]? = some (.cells zSaid 38 (0, 0))
  gotb : wr.heap[p10]? = some (.cells #[.int .i64 (r.2.err : Int), vb, vs, .int .i64 r.2.a, .int .i64 r.2.b, .int .i64 r.2.c] 38 (0, 0))
  pw : ∃ cur : Array Value, wr.heap[gp]? = some (.cells cur 5 (0, 0)) ∧ LP ≤ cur.size
  lw : ∃ cur : Array Value, wr.heap[gl]? = some (.cells cur 92 (0, 0)) ∧ (s.fates.length + 1) * 4 ≤ cur.size ∧ ∀ j, k * 4 ≤ j → j < s.fates.length * 4 → cur[j]? = (fateCells s.fates)[j]?
  rb : wr.ownsRow w.heap.size 5 1 vb r.2.bytes.length (u8s r.2.bytes)
  rs : wr.ownsRow w.heap.size 68 2 vs r.2.secs.length (secCells r.2.secs)
  nb : ∀ g, vb.ownBlock = some g → ¬ F g ∧ g ≠ gp
  ns : ∀ g, vs.ownBlock = some g → ¬ F g
  lo : w.heap.size + 1 < p10 ∧ w.heap.size + 1 < gp ∧ w.heap.size + 1 < gl
  nf : ¬ F gp ∧ ¬ F gl
  n1 : ¬ F (w.heap.size + 1)
theorem LA.up {w wr w' : World} {b : Nat} {F0 F : Nat → Prop} {r : Dev × SaidD} {s : Stp} {fv : Value} {gp gl p10 LP k : Nat} {vb vs : Value} (h : LA w wr b F0 F r s fv gp gl p10 LP k vb vs) (hb : Below wr.heap.size wr w') : LA w w' b F0 F r s fv gp gl p10 LP k vb vs := by
  obtain ⟨c1, p1, p2⟩ := h.pw
  obtain ⟨c2, l1, l2⟩ := h.lw
  have lt : ∀ k o, wr.heap[k]? = some o → k < wr.heap.size := fun k o hk => (Array.getElem?_eq_some_iff.1 hk).1
  exact ⟨h.dev.below hb, h.step.trans (Step.of_below hb), h.five.below hb, (hb.block _ (lt _ _ h.res)).trans h.res, (hb.block _ (lt _ _ h.gotb)).trans h.gotb, ⟨c1, (hb.block _ (lt _ _ p1)).trans p1, p2⟩, ⟨c2, (hb.block _ (lt _ _ l1)).trans l1, l2⟩, owns_below h.rb hb, owns_below h.rs hb, h.nb, h.ns, h.lo, h.nf, h.n1⟩
/-- One of the fates that were handed in is written over. -/
theorem LA.spoil {w wr : World} {b : Nat} {F0 F : Nat → Prop} {r : Dev × SaidD} {s : Stp} {fv : Value} {gp gl p10 LP k : Nat} {vb vs : Value} (h : LA w wr b F0 F r s fv gp gl p10 LP k vb vs) (u0 u1 u2 u3 : Value) : LA w ((((wr.setCell ⟨gl, k * 4, none⟩ u0).setCell ⟨gl, k * 4 + 1, none⟩ u1).setCell ⟨gl, k * 4 + 2, none⟩ u2).setCell ⟨gl, k * 4 + 3, none⟩ u3) b F0 F r s fv gp gl p10 LP (k + 1) vb vs := by
  have hs := (((step_set (w := wr) (g := gl) (j := k * 4) (v := u0)).trans (step_set (g := gl) (j := k * 4 + 1) (v := u1))).trans (step_set (g := gl) (j := k * 4 + 2) (v := u2))).trans (step_set (g := gl) (j := k * 4 + 3) (v := u3))
  obtain ⟨c2, q1, q2, q3⟩ := h.lw
  obtain ⟨c1, p1, p2⟩ := h.pw
  obtain ⟨o1, o2, o3⟩ := h.lo
  have lt : ∀ k o, wr.heap[k]? = some o → k < wr.heap.size := fun k o hk => (Array.getElem?_eq_some_iff.1 hk).1
  have ty : ∀ k cur e, wr.heap[k]? = some (.cells cur e (0, 0)) → e ≠ 92 → k ≠ gl := fun k cur e hk he e' => by
    rw [e', q1] at hk; simp at hk; exact he hk.2.symm
  have hne : ∀ i, F i → i ≠ gl := fun i hi e => h.nf.2 (by rw [← e]; exact hi)
  refine ⟨h.dev.keep hs (fun i hi e => hne i hi e), ?_, h.five.step hs (by omega), (hs.block _ (lt _ _ h.res) (ty _ _ _ h.res (by decide))).trans h.res, (hs.block _ (lt _ _ h.gotb) (ty _ _ _ h.gotb (by decide))).trans h.gotb, ⟨c1, (hs.block _ (lt _ _ p1) (ty _ _ _ p1 (by decide))).trans p1, p2⟩, ⟨_, set_row (set_row (set_row (set_row q1))), by simpa using q2, fun j hj1 hj2 => ?_⟩, owns_step h.rb hs (fun g hg => ?_), owns_step h.rs hs (fun g hg => ?_), h.nb, h.ns, h.lo, h.nf, h.n1⟩
  · refine ⟨hs.os.trans h.step.os, hs.tape.trans h.step.tape, hs.output.trans h.step.output, Nat.le_trans h.step.size hs.size, fun i hi hn => ?_, h.step.sub⟩
    exact (hs.block i (Nat.lt_of_lt_of_le hi h.step.size) (by omega)).trans (h.step.block i hi hn)
  · rw [Array.getElem?_setIfInBounds_ne (by omega), Array.getElem?_setIfInBounds_ne (by omega), Array.getElem?_setIfInBounds_ne (by omega), Array.getElem?_setIfInBounds_ne (by omega)]
    exact q3 j (by omega) hj2
  · obtain ⟨_, _, cur, hc⟩ := owns_blk h.rb g hg
    exact ty _ _ _ hc (by decide)
  · obtain ⟨_, _, cur, hc⟩ := owns_blk h.rs g hg
    exact ty _ _ _ hc (by decide)
/-- One of the bytes that were handed in is written over. -/
theorem LA.blot {w wr : World} {b : Nat} {F0 F : Nat → Prop} {r : Dev × SaidD} {s : Stp} {fv : Value} {gp gl p10 LP k : Nat} {vb vs : Value} (h : LA w wr b F0 F r s fv gp gl p10 LP k vb vs) (j : Nat) (u : Value) : LA w (wr.setCell ⟨gp, j, none⟩ u) b F0 F r s fv gp gl p10 LP k vb vs := by
  have hs := step_set (w := wr) (g := gp) (j := j) (v := u)
  obtain ⟨c2, q1, q2, q3⟩ := h.lw
  obtain ⟨c1, p1, p2⟩ := h.pw
  obtain ⟨o1, o2, o3⟩ := h.lo
  have lt : ∀ k o, wr.heap[k]? = some o → k < wr.heap.size := fun k o hk => (Array.getElem?_eq_some_iff.1 hk).1
  have ty : ∀ k cur e, wr.heap[k]? = some (.cells cur e (0, 0)) → e ≠ 5 → k ≠ gp := fun k cur e hk he e' => by
    rw [e', p1] at hk; simp at hk; exact he hk.2.symm
  refine ⟨h.dev.keep hs (fun i hi e => h.nf.1 (by rw [← e]; exact hi)), ?_, h.five.step hs (by omega), (hs.block _ (lt _ _ h.res) (ty _ _ _ h.res (by decide))).trans h.res, (hs.block _ (lt _ _ h.gotb) (ty _ _ _ h.gotb (by decide))).trans h.gotb, ⟨_, set_row p1, by simpa using p2⟩, ⟨c2, (hs.block _ (lt _ _ q1) (ty _ _ _ q1 (by decide))).trans q1, q2, q3⟩, owns_step h.rb hs (fun g hg => (h.nb g hg).2), owns_step h.rs hs (fun g hg => ?_), h.nb, h.ns, h.lo, h.nf, h.n1⟩
  · refine ⟨hs.os.trans h.step.os, hs.tape.trans h.step.tape, hs.output.trans h.step.output, Nat.le_trans h.step.size hs.size, fun i hi hn => ?_, h.step.sub⟩
    exact (hs.block i (Nat.lt_of_lt_of_le hi h.step.size) (by omega)).trans (h.step.block i hi hn)
  · obtain ⟨_, _, cur, hc⟩ := owns_blk h.rs g hg
    exact ty _ _ _ hc (by decide)

theorem owns_weak {w : World} {base e size n g cap : Nat} {xs : List Value} (h : w.ownsRow base e size (.slice (some ⟨g, 0, none⟩) n cap) n xs) : ∃ cur : Array Value, w.heap[g]? = some (.cells cur e (0, 0)) ∧ n * size ≤ cur.size ∧ ∀ j, j < n * size → cur[j]? = xs[j]? := by
  rcases h.2 with ⟨h', _⟩ | ⟨g', cap', cur, h', h1, h2, h3, h4, h5, h6⟩
  · cases h'
  · simp only [Value.slice.injEq, Option.some.injEq, Addr.mk.injEq, and_true, true_and] at h'
    obtain ⟨rfl, rfl⟩ := h'
    have hl := congrArg List.length h6
    rw [List.length_take, h.1] at hl
    refine ⟨cur, h2, ?_, fun j hj => ?_⟩
    · simp at hl; omega
    · rw [← h6, List.getElem?_take, if_pos hj]; simp
theorem HM.toLA {w wz : World} {b : Nat} {F0 F : Nat → Prop} {r : Dev × SaidD} {s : Stp} {fv : Value} {gp cp gl cl p8 p10 : Nat} {vb vs : Value} {P : List UInt8} (h : HM w wz b F r.1 s fv gp cp gl cl p8 p10 #[.int .i64 (r.2.err : Int), vb, vs, .int .i64 r.2.a, .int .i64 r.2.b, .int .i64 r.2.c] P)
    (st : Step F0 F w wz) (rb : wz.ownsRow w.heap.size 5 1 vb r.2.bytes.length (u8s r.2.bytes)) (rs : wz.ownsRow w.heap.size 68 2 vs r.2.secs.length (secCells r.2.secs)) (nb : ∀ g, vb.ownBlock = some g → ¬ F g ∧ g ≠ gp) (ns : ∀ g, vs.ownBlock = some g → ¬ F g) :
    LA w wz b F0 F r s fv gp gl p10 P.length 0 vb vs := by
  obtain ⟨c1, p1, p2, _⟩ := owns_weak h.prow
  obtain ⟨c2, q1, q2, q3⟩ := owns_weak h.lrow
  obtain ⟨_, l2, _, l4, l5⟩ := h.lo
  refine ⟨h.dev, st, h.five, h.res, h.gotb, ⟨c1, p1, by omega⟩, ⟨c2, q1, by omega, fun j _ hj => ?_⟩, rb, rs, nb, ns, ⟨l2, l4, l5⟩, ⟨h.nf.2.2.1, h.nf.2.2.2.1⟩, h.nf.2.1⟩
  rw [q3 j (by omega), fateCells_app, List.getElem?_append_left (by rw [fateCells_len]; exact hj)]

end Go.Proofs.YtdieacdkomiooabDoor

namespace Go.Proofs.YtdieacdkomiooabDoor
open Go.RowKit Go.Maps

theorem results_row_tmp {P : Program} {fn : Func} {p u : Tmp} {ty : TypeId} (h : fn.results = #[.cell p ty, .tmp u]) (tmps : Array Value) (w : World) (g : Nat) (t : TypeId) (cs : Array Value) (fr : Nat × Nat) (d : TypeDesc)
    (hp : tmps.getD p undef = .pointer (some ⟨g, 0, none⟩)) (hg : w.heap[g]? = some (.cells cs t fr)) (hu : P.underlying ty = some d) (hd : (match d with | .struct _ | .array _ _ => true | _ => false) = true) (hi : (P.info? ty).map (·.size) = some cs.size) :
    (results fn tmps).run P w = .ok (.tuple #[.agg cs, tmps.getD u undef]) w := by
  rw [results_cell_tmp h tmps P w, hp]
  simp [asAddr, run_loadVar_row w g t ty cs fr d hg hu hd hi, Result.andThen]
/-- What handed leaves. -/
structure HandP (w : World) (b : Nat) (F : Nat → Prop) (r : Dev × SaidD) (e : Ending) (w' : World) (vb vs : Value) (F' : Nat → Prop) : Prop where
  ret : e = .returned (.tuple #[.agg #[.int .i64 (r.2.err : Int), vb, vs, .int .i64 r.2.a, .int .i64 r.2.b, .int .i64 r.2.c], .bool true])
  rb : w'.ownsRow w.heap.size 5 1 vb r.2.bytes.length (u8s r.2.bytes)
  rs : w'.ownsRow w.heap.size 68 2 vs r.2.secs.length (secCells r.2.secs)
  dev : DevAt w' b F' r.1
  step : Step F F' w w'
  nb : ∀ g, vb.ownBlock = some g → ¬ F' g
  ns : ∀ g, vs.ownBlock = some g → ¬ F' g

set_option maxRecDepth 100000 in
set_option maxHeartbeats 8000000 in
theorem handed_any (base : Nat) (A : Nat → Addr) (W : World) (b : Nat) (F : Nat → Prop) (d : Dev) (w : World) (h : DevAt w b F d) (hE : ErrsB base A w) (hF : ∀ k, F k → base ≤ k) (hWb : Below W.heap.size W w) (hWF : ∀ k, F k → W.heap.size ≤ k) (K S n : Int) (D : ByteArray) (l : List Fate) (fv : Value) (hl : FatesIn W fv l) (hll : l.length ≤ 1048576) (hDD : D.size ≤ 1048576) (hs : StpOk d ⟨K, S, n, D, l⟩) (hq : (d.arms.length + 1) * 32 ≤ 140737488355328) :
    Calls Tryd.prog 25 #[.pointer (some ⟨b, 0, none⟩), .agg #[.int .i64 K, .int .i64 S, .int .i64 n, .string D, fv]] w fun e w' => ∃ vb vs F', HandP w b F (d.act ⟨K, S, n, D, l⟩) e w' vb vs F' := by
  have hFl := h.lt
  obtain ⟨i0, hi, hz0, hz1, hz2⟩ := info_parts Tryd.info92
  obtain ⟨LN, hLN⟩ : ∃ LN, LN = l.length := ⟨_, rfl⟩
  have HLN := Hid.mk2 hLN
  obtain ⟨fa, fc, rfl⟩ : ∃ a c, fv = .slice a LN c := by obtain ⟨a, c, _, _, h, _⟩ := hl; exact ⟨a, c, by rw [hLN]; exact h⟩
  obtain ⟨RR, hRR⟩ : ∃ RR, RR = d.act ⟨K, S, n, D, l⟩ := ⟨_, rfl⟩
  rw [← hRR]
  have HRR := Hid.mk2 hRR
  obtain ⟨PL, hPL⟩ : ∃ PL, PL = bl D ++ [98, 101, 104, 105, 110, 100] := ⟨_, rfl⟩
  have HPL := Hid.mk2 hPL
  obtain ⟨PN, hPN⟩ : ∃ PN, PN = PL.length := ⟨_, rfl⟩
  have HPN := Hid.mk2 hPN
  have HPD : Hid (PN = D.size + 6) := by show PN = _; rw [hPN, hPL, List.length_append, bl_len]; rfl
  obtain ⟨w2, hw2⟩ : ∃ w2, w2 = (w.alloc (.cells #[.int .i64 K, .int .i64 S, .int .i64 n, .string D, .slice fa LN fc] 35)).alloc (.cells #[.int .i64 0, .slice none 0 0, .slice none 0 0, .int .i64 0, .int .i64 0, .int .i64 0] 38) := ⟨_, rfl⟩
  have hin : ActIn w w2 [.int .i64 K, .int .i64 S, .int .i64 n, .string D, .slice fa LN fc] := by rw [hw2]; exact actIn w #[.int .i64 K, .int .i64 S, .int .i64 n, .string D, .slice fa LN fc]
  have HIN := Hid.mk2 hin
  have HFl := Hid.mk2 hFl
  have HF := Hid.mk2 hF
  have HD := Hid.mk2 h
  have HE := Hid.mk2 hE
  have HL := Hid.mk2 hl
  have HWB := Hid.mk2 hWb
  have HWF := Hid.mk2 hWF
  have HS := Hid.mk2 hs
  have h5 : Five w2 w.heap.size ⟨K, S, n, D, l⟩ (.slice fa LN fc) := ⟨hin.box.2 0 (by simp), hin.box.2 1 (by simp), hin.box.2 2 (by simp), hin.box.2 3 (by simp), hin.box.2 4 (by simp)⟩
  have k3 : w2.cell? ⟨w.heap.size, 3, none⟩ = some (.string D) := h5.s3
  have H52 := Hid.mk2 h5
  have HBY : Hid (∀ w', Calls Tryd.prog 44 #[.string (D ++ bhd)] w' fun e w'' => ∃ v, e = .returned v ∧ w''.ownsRow w'.heap.size 5 1 v PN (u8s PL) ∧ Below w'.heap.size w' w'') := fun w' => by
    have h := bytes_any (D ++ bhd) w' (by rw [bhd_size]; omega)
    rw [bhd_list, ← hPL, bhd_size, ← HPD.out] at h
    exact h
  clear hPL hPN hRR hLN
  clear h hE hF hl hin hFl hs hWb hWF h5
  go_enter Tryd.func25, Tryd.ntmps25
  go_wp2_with fail
  rw [← hw2]
  refine (HBY.out _).mono ?_
  rintro e w3 ⟨vp, rfl, hrp, hb3⟩
  have HRP := Hid.mk2 hrp
  have HB3 := Hid.mk2 hb3
  have H53 := Hid.mk2 (H52.out.below hb3)
  have k4 : w3.cell? ⟨w.heap.size, 4, none⟩ = some (.slice fa LN fc) := H53.out.s4
  have HFT := Hid.mk2 (fates_any l (.slice fa LN fc) w3 (HL.out.keep (Below.next HWB.out (Below.next HIN.out.bel hb3))))
  obtain ⟨gp, cp, rfl⟩ : ∃ g c, vp = .slice (some ⟨g, 0, none⟩) PN c := by
    obtain ⟨a, c, h1, h2⟩ := owns_form hrp
    obtain ⟨g, rfl⟩ := h2 (by have := HPD.out; omega)
    exact ⟨g, c, h1⟩
  clear hrp hb3 hw2 k3
  go_wp2_with fail
  refine HFT.out.mono ?_
  rintro e w4 ⟨vl, rfl, hrl, hb4⟩
  rw [← HLN.out] at hrl
  have HRL := Hid.mk2 hrl
  have HB4 := Hid.mk2 hb4
  obtain ⟨la, lc, rfl, -⟩ := owns_form hrl
  clear hrl hb4 HFT k4
  obtain ⟨w5, hw5⟩ : ∃ w5, w5 = w4.alloc (.cells #[.int .i64 (-5), .int .i64 0, .int .i64 0, .string { data := #[98, 101, 104, 105, 110, 100] }] 92) := ⟨_, rfl⟩
  have HW5 := Hid.mk2 hw5
  have hb5 : Below w4.heap.size w4 w5 := by rw [hw5]; exact below_new _ _
  have HL5 : Hid (w5.heap[w4.heap.size]? = some (.cells #[.int .i64 (-5), .int .i64 0, .int .i64 0, .string bhd] 92 (0, 0))) := by show _ = _; rw [hw5]; exact heap_alloc_new _ _
  have HRL5 := Hid.mk2 (owns_below HRL.out hb5)
  have HB5 := Hid.mk2 hb5
  have hsz5 : w5.heap.size = w4.heap.size + 1 := by rw [hw5]; simp
  have HSZ5 := Hid.mk2 hsz5
  have x0 : w5.cell? ⟨w4.heap.size, 0, none⟩ = some (.int .i64 (-5)) := by rw [cell_of_row _ _ _ _ _ _ HL5.out]; rfl
  have x1 : w5.cell? ⟨w4.heap.size, 1, none⟩ = some (.int .i64 0) := by rw [cell_of_row _ _ _ _ _ _ HL5.out]; rfl
  have x2 : w5.cell? ⟨w4.heap.size, 2, none⟩ = some (.int .i64 0) := by rw [cell_of_row _ _ _ _ _ _ HL5.out]; rfl
  have x3 : w5.cell? ⟨w4.heap.size, 3, none⟩ = some (.string { data := #[98, 101, 104, 105, 110, 100] }) := by rw [cell_of_row _ _ _ _ _ _ HL5.out]; rfl
  rw [hw5] at x0 x1 x2 x3 HRL5
  clear hb5 hw5 hsz5
  go_wp2_with (first
    | (at_builtin; refine wpList_append_lies _ rfl _ _ 26 rfl w3.heap.size 92 i0 (.agg #[.int .i64 0, .int .i64 0, .int .i64 0, .string ⟨#[]⟩]) 4 40 Tryd.underlying26 hi hz0 hz1 hz2 rfl (by decide) _ _ _ rfl (HRL5.out.alloc _) ⟨w4.heap.size + 1, 0, none⟩ 1 1 [.int .i64 (-5), .int .i64 0, .int .i64 0, .string { data := #[98, 101, 104, 105, 110, 100] }] rfl rfl ?c1 ?c2 ?c3 ?c4 ?c5 ?c6 (w4.heap.size + 2) ?c7 ?_))
  case c1 => exact World.news_of_block (by have := heap_alloc_new (w4.alloc (.cells #[.int .i64 (-5), .int .i64 0, .int .i64 0, .string { data := #[98, 101, 104, 105, 110, 100] }] 92)) (.cells #[.int .i64 (-5), .int .i64 0, .int .i64 0, .string { data := #[98, 101, 104, 105, 110, 100] }] 92); simpa using this)
  case c2 => intro u hu; simp at hu; rcases hu with rfl | rfl | rfl <;> rfl
  case c3 => decide
  case c4 => unfold maxLen; have := HLN.out; omega
  case c5 => have := HLN.out; omega
  case c6 => have := HB4.out.size; simp; omega
  case c7 => simp
  intro gl cl w6 hown6 hgrow6 hat6 hlg6
  obtain ⟨wa, hwa⟩ : ∃ wa, wa = (w4.alloc (.cells #[.int .i64 (-5), .int .i64 0, .int .i64 0, .string { data := #[98, 101, 104, 105, 110, 100] }] 92)).alloc (.cells #[.int .i64 (-5), .int .i64 0, .int .i64 0, .string { data := #[98, 101, 104, 105, 110, 100] }] 92) := ⟨_, rfl⟩
  rw [← hwa] at hgrow6
  have hb4a : Below w4.heap.size w4 wa := by rw [hwa]; exact Below.next (below_new _ _) (below_new _ _)
  have hza : wa.heap.size = w4.heap.size + 2 := by rw [hwa]; simp
  have hzw : w2.heap.size = w.heap.size + 2 := HIN.out.size
  have sG : Step (fun k => (Value.slice la LN lc).ownBlock = some k) (fun k => (Value.slice la LN lc).ownBlock = some k) wa w6 := Step.of_grown hgrow6 (fun j hj => .inl hj)
  have hown : ∀ k, (Value.slice la LN lc).ownBlock = some k → w3.heap.size ≤ k ∧ k < w4.heap.size ∧ ∃ cur, wa.heap[k]? = some (.cells cur 92 (0, 0)) := fun k hk => by
    obtain ⟨q1, q2, cur, q3⟩ := owns_blk HRL.out k hk
    exact ⟨q1, q2, cur, (hb4a.block k q2).trans q3⟩
  have hb26 : Below w2.heap.size w2 w6 := by
    have h1 : Below w2.heap.size w2 wa := Below.next HB3.out (Below.next HB4.out hb4a)
    refine ⟨sG.os.trans h1.os, sG.tape.trans h1.tape, sG.output.trans h1.output, Nat.le_trans h1.size sG.size, fun k hk => ?_⟩
    rw [sG.block k (Nat.lt_of_lt_of_le hk h1.size) (fun e => by have := (hown k e).1; have := HB3.out.size; omega)]
    exact h1.block k hk
  obtain ⟨w7, hw7⟩ : ∃ w7, w7 = w6.alloc (.cells #[.int .i64 0, .slice none 0 0, .slice none 0 0, .int .i64 0, .int .i64 0, .int .i64 0] 38) := ⟨_, rfl⟩
  have hb67 : Below w6.heap.size w6 w7 := by rw [hw7]; exact below_new _ _
  have hb27 := Below.next hb26 hb67
  have hgp := owns_blk HRP.out gp rfl
  have HM0 : HM w w7 b F d ⟨K, S, n, D, l⟩ (.slice fa LN fc) gp cp gl cl w4.heap.size w6.heap.size zSaid PL := by
    have hdw := (HD.out.below HIN.out.bel).below hb27
    have hlt : ∀ k, F k → k < w.heap.size := HFl.out
    have hs4 := HB4.out.size
    have hs3 := HB3.out.size
    have hs6 := sG.size
    have hgl : w3.heap.size ≤ gl := by rcases hat6 with h1 | h1
                                       · exact (hown gl h1).1
                                       · omega
    have hgl2 : gl ≠ w4.heap.size := by rcases hat6 with h1 | h1
                                        · have := (hown gl h1).2.1; omega
                                        · omega
    refine ⟨hdw, H52.out.below hb27, ?_, ?_, ?_, ?_, ?_, ⟨by omega, by omega, hgl2, by have := hgp.1; omega, by omega⟩, ⟨fun h => by have := hlt _ h; omega, fun h => by have := hlt _ h; omega, fun h => by have := hlt _ h; have := hgp.1; omega, fun h => by have := hlt _ h; omega, fun h => by have := hlt _ h; omega, fun h => by have := hlt _ h; omega⟩⟩
    · exact (hb27.block _ (by omega)).trans HIN.out.ans
    · have h1 := owns_below (owns_below HRP.out HB4.out) hb4a
      have h2 := owns_step h1 sG (fun g hg hk => by
        obtain ⟨_, _, c, hc⟩ := owns_blk h1 g hg
        obtain ⟨_, _, c', hc'⟩ := hown g hk
        rw [hc] at hc'; simp at hc')
      have h3 := owns_below h2 hb67
      rw [← HPN.out]
      exact ⟨h3.1, h3.2.imp id fun ⟨g, cap, cur, q1, q2, q3⟩ => ⟨g, cap, cur, q1, by omega, q3⟩⟩
    · have h3 := owns_below hown6 hb67
      rw [fateCells_app]
      show w7.ownsRow w.heap.size 92 4 (.slice (some ⟨gl, 0, none⟩) (l.length + 1) cl) (l.length + 1) (fateCells l ++ [.int .i64 (-5), .int .i64 0, .int .i64 0, .string bhd])
      rw [← HLN.out]
      exact ⟨h3.1, h3.2.imp id fun ⟨g, cap, cur, q1, q2, q3⟩ => ⟨g, cap, cur, q1, by omega, q3⟩⟩
    · have h1 : wa.heap[w4.heap.size]? = some (.cells #[.int .i64 (-5), .int .i64 0, .int .i64 0, .string bhd] 92 (0, 0)) := by
        rw [hwa, (below_new _ _).block w4.heap.size (by simp)]; exact heap_alloc_new _ _
      have h2 := (sG.block w4.heap.size (by omega) (fun e => by have := (hown _ e).2.1; omega)).trans h1
      exact (hb67.block _ (by omega)).trans h2
    · rw [hw7]; exact heap_alloc_new _ _
  have HMM := Hid.mk2 HM0
  have HBW : Hid (Below w.heap.size w w7) := Below.next HIN.out.bel hb27
  have y4 : w6.cell? ⟨w.heap.size, 4, none⟩ = some (.slice fa LN fc) := (H52.out.below hb26).s4
  have z0 : w7.cell? ⟨w.heap.size, 0, none⟩ = some (.int .i64 K) := HM0.five.s0
  have z1 : w7.cell? ⟨w.heap.size, 1, none⟩ = some (.int .i64 S) := HM0.five.s1
  have z2 : w7.cell? ⟨w.heap.size, 2, none⟩ = some (.int .i64 n) := HM0.five.s2
  have z3 : w7.cell? ⟨w.heap.size, 3, none⟩ = some (.string D) := HM0.five.s3
  have z4 : w7.cell? ⟨w.heap.size, 4, none⟩ = some (.slice fa LN fc) := HM0.five.s4
  have HCP : Hid (PN ≤ cp ∧ LN + 1 ≤ cl) := by
    constructor
    · rcases HRP.out.2 with ⟨h', _⟩ | ⟨g', cap', cur, h', _, _, h1, _⟩
      · cases h'
      · simp only [Value.slice.injEq] at h'
        rw [h'.2.2]; exact h1
    · rcases hown6.2 with ⟨h', _⟩ | ⟨g', cap', cur, h', _, _, h1, _⟩
      · cases h'
      · simp only [Value.slice.injEq] at h'
        rw [h'.2.2]; exact h1
  obtain ⟨p8, hp8⟩ : ∃ p8, p8 = w4.heap.size := ⟨_, rfl⟩
  obtain ⟨p10, hp10⟩ : ∃ p10, p10 = w6.heap.size := ⟨_, rfl⟩
  rw [← hp8, ← hp10] at HMM
  have HP8 := Hid.mk2 hp8
  have HP10 := Hid.mk2 hp10
  have HW7 := Hid.mk2 hw7
  rw [hw7] at z0 z1 z2 z3 z4
  clear hown6 hgrow6 hat6 hlg6 hwa hb4a hza sG hown hb26 hb67 hb27 hgp HM0 x0 x1 x2 x3 HRL5 HL5 HRL HRP HB3 HB4 HB5 HW5 HSZ5 hw7 H52 H53 hzw hp8 hp10 hi hz0 hz1 hz2
  rcases (show K = 1 ∨ K = 4 ∨ K = 5 ∨ (K ≠ 1 ∧ K ≠ 4 ∧ K ≠ 5) by omega) with hk | hk | hk | hk
  · have e1 : (K == 1) = true := by simp [hk]
    have HACT : Hid (d.act ⟨K, S, n, D, l⟩ = ((d.write S (bl D)).1, { said0 with err := (d.write S (bl D)).2 })) := by
      show d.act _ = _
      simp [Dev.act, hk]
    have HRA := Hid.mk2 (HRR.out.trans HACT.out)
    have hcp : (D.size : Int) ≤ (cp : Int) := by have := HCP.out.1; have := HPD.out; omega
    have hcp2 : D.size ≤ cp := by omega
    have HWR : Hid (∀ w', Below w7.heap.size w7 w' → Calls Tryd.prog 39 #[.pointer (some ⟨b, 0, none⟩), .int .i64 S, .slice (some ⟨gp, 0, none⟩) D.size cp] w' fun e w'' => e = .returned (errV A (d.write S (bl D)).2) ∧ DevPost w' b F (d.write S (bl D)).1 w'') := fun w' hb' => by
      have M := HMM.out.up hb'
      have hlen : (bl D).length = D.size := bl_len D
      refine write_any base A b F d w' M.dev ((HE.out.up HBW.out).up hb') HF.out S _ (bl D) ⟨some ⟨gp, 0, none⟩, cp, gp, by rw [hlen], by rw [hlen]; exact hcp2, by rw [hlen]; omega, fun _ => ⟨rfl, M.nf.2.2.1⟩, fun j hj => ?_⟩ (by rw [hlen]; exact HS.out.room) (opdone_any _ A b _)
      refine owns_cell M.prow rfl j _ ?_
      rw [HPL.out, u8s, List.getElem?_map, List.getElem?_append_left hj, List.getElem?_eq_getElem hj]
      rfl
    have HER := errs_write d S (bl D)
    generalize hd' : d.write S (bl D) = r at *
    clear hd' hk
    go_wp2_with fail
    rw [← HW7.out]
    rw [← HW7.out] at z0 z1 z2 z3 z4
    go_region_held3 (fun w' => w'.cell? ⟨w.heap.size, 1, none⟩ = some (.int .i64 S) ∧ w'.cell? ⟨w.heap.size, 3, none⟩ = some (.string D)) (go_keep)
      (first
        | (go_at_call 39; refine (HWR.out _ (by first | exact bdrew1 (Below.refl _ _) | exact Below.refl _ _)).mono ?_; rintro e w8 ⟨rfl, F', h8, s8'⟩; have s8 : Step F F' w7 w8 := (by first | exact s8' | exact (Step.of_below (bdrew1 (Below.refl _ _))).trans s8'); have M8 := HMM.out.step h8 s8; have t1 := M8.five.s1; have t3 := M8.five.s3; simp only [] at t1 t3))
    have HM8 := Hid.mk2 M8
    have HS8 := Hid.mk2 ((Step.of_below HBW.out).trans s8)
    have HNM : Hid (Calls Tryd.prog 22 #[errV A r.2] w8 fun e w' => e = .returned (.int .i64 (r.2 : Int)) ∧ w8 = w') := num_any A w8 ((HE.out.up HBW.out).step s8 HF.out).at' r.2 HER
    obtain ⟨ev, hev⟩ : ∃ ev, ev = errV A r.2 := ⟨_, rfl⟩
    rw [← hev] at HNM ⊢
    clear M8 h8 s8 s8' t1 t3 hev HWR z0 z1 z2 z3 z4
    go_wp2_with fail
    refine HNM.out.mono ?_
    rintro e w9 ⟨rfl, rfl⟩
    clear HNM
    have hst := said_store w8 p10 zSaid #[.int .i64 (r.2 : Int), .slice none 0 0, .slice none 0 0, .int .i64 0, .int .i64 0, .int .i64 0] HM8.out.gotb rfl rfl (by simp [Value.oneCell'])
    obtain ⟨wz, hwz⟩ : ∃ wz, wz = w8.setRow p10 #[.int .i64 (r.2 : Int), .slice none 0 0, .slice none 0 0, .int .i64 0, .int .i64 0, .int .i64 0] := ⟨_, rfl⟩
    rw [← hwz] at hst
    rw [HP10.out] at hst
    have HZ : Hid (HM w wz b F' r.1 ⟨K, S, n, D, l⟩ (.slice fa LN fc) gp cp gl cl p8 p10 #[.int .i64 (r.2 : Int), .slice none 0 0, .slice none 0 0, .int .i64 0, .int .i64 0, .int .i64 0] PL) := by show HM _ _ _ _ _ _ _ _ _ _ _ _ _ _ _; rw [hwz]; exact HM8.out.got _
    have HLA : Hid (LA w wz b F F' RR ⟨K, S, n, D, l⟩ (.slice fa LN fc) gp gl p10 PN 0 (.slice none 0 0) (.slice none 0 0)) := by
      show LA _ _ _ _ _ _ _ _ _ _ _ _ _ _ _
      rw [HRA.out, HPN.out]
      have hstp : Step F F' w wz := by
        have hs := HS8.out
        refine ⟨by rw [hwz]; exact hs.os, by rw [hwz]; exact hs.tape, by rw [hwz]; exact hs.output, by rw [hwz]; simp [World.setRow]; exact hs.size, fun k hk hn => ?_, hs.sub⟩
        rw [hwz, setRow_other (by have := HM8.out.lo.2.1; omega)]
        exact hs.block k hk hn
      exact HM.toLA (r := (r.1, { said0 with err := r.2 })) HZ.out hstp (owns_nilB _ _) (owns_nilS _ _) (fun g hg => by simp [Value.ownBlock] at hg) no_blk
    clear hwz HM8 HS8
    obtain ⟨vb, hvb⟩ : ∃ vb : Value, vb = .slice none 0 0 := ⟨_, rfl⟩
    obtain ⟨vs, hvs⟩ : ∃ vs : Value, vs = .slice none 0 0 := ⟨_, rfl⟩
    have HLB : Hid (LA w wz b F F' RR ⟨K, S, n, D, l⟩ (.slice fa LN fc) gp gl p10 PN 0 vb vs) := by rw [hvb, hvs]; exact HLA.out
    clear HLA hvb hvs
    go_wp2_with (refine wpList_store_eq rfl 38 _ _ rfl _ _ rfl rfl hst ?_)
    clear hst
    have hp8 := HP8.out
    have hp10 := HP10.out
    subst hp8 hp10
    have t3 : wz.cell? ⟨w.heap.size, 3, none⟩ = some (.string D) := HZ.out.five.s3
    have hfl : (fateCells (l ++ [lastF])).length = (LN + 1) * 4 := by rw [fateCells_len, List.length_append, HLN.out]; rfl
    have hlc : ∀ j u, (fateCells [lastF])[j]? = some u → wz.cell? ⟨gl, LN * 4 + j, none⟩ = some u := fun j u hu => by
      refine owns_cell HZ.out.lrow rfl _ _ ?_
      rw [show (⟨K, S, n, D, l⟩ : Stp).fates = l from rfl, fateCells_app, List.getElem?_append_right (by rw [fateCells_len, HLN.out]; omega), fateCells_len, HLN.out, Nat.add_sub_cancel_left]
      exact hu
    have a0 : wz.cell? ⟨gl, LN * 4, none⟩ = some (.int .i64 (-5)) := hlc 0 _ rfl
    have a1 : wz.cell? ⟨gl, LN * 4 + 1, none⟩ = some (.int .i64 0) := hlc 1 _ rfl
    have a2 : wz.cell? ⟨gl, LN * 4 + 2, none⟩ = some (.int .i64 0) := hlc 2 _ rfl
    have a3 : wz.cell? ⟨gl, LN * 4 + 3, none⟩ = some (.string { data := #[98, 101, 104, 105, 110, 100] }) := hlc 3 _ rfl
    have b0 : wz.cell? ⟨w4.heap.size, 0, none⟩ = some (.int .i64 (-5)) := by rw [cell_of_row _ _ _ _ _ _ HZ.out.last]; rfl
    have b1 : wz.cell? ⟨w4.heap.size, 1, none⟩ = some (.int .i64 0) := by rw [cell_of_row _ _ _ _ _ _ HZ.out.last]; rfl
    have b2 : wz.cell? ⟨w4.heap.size, 2, none⟩ = some (.int .i64 0) := by rw [cell_of_row _ _ _ _ _ _ HZ.out.last]; rfl
    have b3 : wz.cell? ⟨w4.heap.size, 3, none⟩ = some (.string { data := #[98, 101, 104, 105, 110, 100] }) := by rw [cell_of_row _ _ _ _ _ _ HZ.out.last]; rfl
    have hcat : ∀ w', (binOp .add 9 (.string D) (.string { data := #[98, 101, 104, 105, 110, 100] })).run Tryd.prog w' = .ok (.string (D ++ { data := #[98, 101, 104, 105, 110, 100] })) w' := fun w' => by simp [go_sem]; omega
    have hdz : D.size ≤ 9223372036854775801 := by omega
    have hdz2 : D.size + 6 ≤ 9223372036854775807 := by omega
    have hfs := fun w => fate_self w (-5) 0 0 { data := #[98, 101, 104, 105, 110, 100] }
    have hi1 : (0 : Int) ≤ (LN : Int) := Int.natCast_nonneg _
    have hi2 : (LN : Int) < (LN : Int) + 1 := by omega
    have HSB : Hid (∀ w1 v1, Below wz.heap.size wz w1 → w1.ownsRow wz.heap.size 5 1 v1 PN (u8s PL) → Calls Tryd.prog 50 #[.slice (some ⟨gp, 0, none⟩) PN cp, v1] w1 fun e w'' => e = .returned (.bool true) ∧ Below w1.heap.size w1 w'') := fun w1 v1 hb hr => by
      have hpl : PL.length ≤ 140737488355328 := by rw [← HPN.out, HPD.out]; omega
      refine sameb_any PL _ _ w1 ?_ (bytesIn_own (base := wz.heap.size) (by rw [← HPN.out]; exact hr) hpl)
      have h1 := bytesIn_own (owns_below HZ.out.prow hb) hpl
      rw [← HPN.out] at h1
      exact h1
    clear hlc hfl
    go_wp2_with fail
    go_region_held (fun w' => w'.cell? ⟨w.heap.size, 3, none⟩ = some (.string D) ∧ (w'.cell? ⟨gl, LN * 4, none⟩ = some (.int .i64 (-5)) ∧ w'.cell? ⟨gl, LN * 4 + 1, none⟩ = some (.int .i64 0) ∧ w'.cell? ⟨gl, LN * 4 + 2, none⟩ = some (.int .i64 0) ∧ w'.cell? ⟨gl, LN * 4 + 3, none⟩ = some (.string { data := #[98, 101, 104, 105, 110, 100] })) ∧ (w'.cell? ⟨w4.heap.size, 0, none⟩ = some (.int .i64 (-5)) ∧ w'.cell? ⟨w4.heap.size, 1, none⟩ = some (.int .i64 0) ∧ w'.cell? ⟨w4.heap.size, 2, none⟩ = some (.int .i64 0) ∧ w'.cell? ⟨w4.heap.size, 3, none⟩ = some (.string { data := #[98, 101, 104, 105, 110, 100] }))) (go_keep)
      (first
        | (go_at_call 50; refine (HSB.out w10 _ hb10 hr10).mono ?_; rintro e w11 ⟨rfl, hb11'⟩; have hb11 := Below.next hb10 hb11'; have c3 := cell_below hb11 t3; have c0 := cell_below hb11 a0; have c1 := cell_below hb11 a1; have c2 := cell_below hb11 a2; have c4 := cell_below hb11 a3; have d0 := cell_below hb11 b0; have d1 := cell_below hb11 b1; have d2 := cell_below hb11 b2; have d3 := cell_below hb11 b3)
        | (go_at_call 44; refine (HBY.out _).mono ?_; rintro e w10 ⟨v10, rfl, hr10, hbd⟩; have hb10 : Below wz.heap.size wz w10 := (by first | exact undrew hbd | exact hbd); clear hbd; have q3 := cell_below hb10 t3; have q0 := cell_below hb10 a0; have q1 := cell_below hb10 a1; have q2 := cell_below hb10 a2; have q4 := cell_below hb10 a3; have r0 := cell_below hb10 b0; have r1 := cell_below hb10 b1; have r2 := cell_below hb10 b2; have r3 := cell_below hb10 b3; obtain ⟨va10, vc10, rfl, -⟩ := owns_form hr10))
    have HL0 := Hid.mk2 (HLB.out.up hb11)
    clear hb11 hb11' hb10 hr10 c0 c1 c2 c3 c4 d0 d1 d2 d3 q0 q1 q2 q3 q4 r0 r1 r2 r3 a0 a1 a2 a3 b0 b1 b2 b3 t3 HSB HLB HZ
    go_wp2_with fail
    go_loopw [12, 13] (fun u12 u13 wr => ∃ k : Nat, k ≤ LN ∧ u12 = .bool true ∧ u13 = .int .i64 (k : Int) ∧ LA w wr b F F' RR ⟨K, S, n, D, l⟩ (.slice fa LN fc) gp gl w6.heap.size PN k vb vs) (fun _ u13 _ => LN - (intOf u13).toNat)
    case atStart => exact ⟨0, Nat.zero_le _, rfl, rfl, HL0.out⟩
    case round =>
      obtain ⟨k, hk, rfl, rfl, inv⟩ := hrel
      have HI := Hid.mk2 inv
      clear HL0
      by_cases hlt : k < LN
      · have hkl : k < l.length := by rw [← HLN.out]; exact hlt
        have hbW : Below W.heap.size W wr := HWB.out.trans (inv.step.below HWF.out HWB.out.size)
        obtain ⟨fa', fc', fg, fo, hfe, _, hfa', hfc'⟩ := (HL.out.keep hbW).cells
        rw [← HLN.out] at hfe hfa'
        simp only [Value.slice.injEq] at hfe
        obtain ⟨rfl, -, rfl⟩ := hfe
        obtain rfl := hfa' (by omega)
        obtain ⟨f0, f1, f2, f3⟩ := hfc' k hkl
        obtain ⟨cur, hg, hsz, hcur⟩ := inv.lw
        have hsz' : (LN + 1) * 4 ≤ cur.size := by rw [HLN.out]; exact hsz
        obtain ⟨g0, g1, g2, g3⟩ := fateCells_get l k hkl
        have c0 : wr.cell? ⟨gl, k * 4, none⟩ = some (.int .i64 l[k].ix) := by rw [cell_of_row _ _ _ _ _ _ hg, hcur (k * 4) (by omega) (by show _ < l.length * 4; omega)]; exact g0
        have c1 : wr.cell? ⟨gl, k * 4 + 1, none⟩ = some (.int .i64 l[k].kind) := by rw [cell_of_row _ _ _ _ _ _ hg, hcur (k * 4 + 1) (by omega) (by show _ < l.length * 4; omega)]; exact g1
        have c2 : wr.cell? ⟨gl, k * 4 + 2, none⟩ = some (.int .i64 l[k].cut) := by rw [cell_of_row _ _ _ _ _ _ hg, hcur (k * 4 + 2) (by omega) (by show _ < l.length * 4; omega)]; exact g2
        have c3 : wr.cell? ⟨gl, k * 4 + 3, none⟩ = some (.string l[k].junk) := by rw [cell_of_row _ _ _ _ _ _ hg, hcur (k * 4 + 3) (by omega) (by show _ < l.length * 4; omega)]; exact g3
        have z0 : wr.frozen? ⟨gl, k * 4, none⟩ = false := frozen_row hg
        have z1 : wr.frozen? ⟨gl, k * 4 + 1, none⟩ = false := frozen_row hg
        have z2 : wr.frozen? ⟨gl, k * 4 + 2, none⟩ = false := frozen_row hg
        have z3 : wr.frozen? ⟨gl, k * 4 + 3, none⟩ = false := frozen_row hg
        have t4 : wr.cell? ⟨w.heap.size, 4, none⟩ = some (.slice (some ⟨fg, fo, none⟩) LN fc) := inv.five.s4
        generalize l[k] = fk at *
        obtain ⟨fi, fk', fcu, fj⟩ := fk
        simp only [] at f0 f1 f2 f3 c0 c1 c2 c3
        have hfs2 := fun w => fate_self w fi fk' fcu fj
        have k0 : (0 : Int) ≤ (k : Int) := Int.natCast_nonneg _
        have k1 : (k : Int) < (LN : Int) := by omega
        have k2 : (k : Int) < (LN : Int) + 1 := by omega
        clear inv hg hsz hcur hsz' g0 g1 g2 g3 hfc' hfa' hbW hfs
        have HSP := fun m => (LA.up HI.out (below_drewN (Below.refl _ wr) m)).spoil (.int .i64 0) (.int .i64 3) (.int .i64 0) (.string { data := #[115, 112, 111, 105, 108, 116] })
        have HSPH := Hid.mk2 HSP
        clear HSP
        go_wp2_with fail
        go_quiet (fail)
        go_wp2_with fail
        go_roundw
        case rel => exact ⟨k + 1, by omega, rfl, by go_num, HSPH.out _⟩
        case measure => simp [intOf]; omega
      · have k1 : ¬ (k : Int) < (LN : Int) := by omega
        have hPNb : PN ≤ 1048582 := by rw [HPD.out]; omega
        clear inv
        go_wp2_with fail
        go_loopw [14] (fun u14 wr => ∃ j : Nat, j ≤ PN ∧ u14 = .int .i64 (j : Int) ∧ LA w wr b F F' RR ⟨K, S, n, D, l⟩ (.slice fa LN fc) gp gl w6.heap.size PN k vb vs) (fun u14 _ => PN - (intOf u14).toNat)
        case atStart => exact ⟨0, Nat.zero_le _, rfl, HI.out⟩
        case round =>
          obtain ⟨j, hj, rfl, inv⟩ := hrel
          have HJ := Hid.mk2 inv
          clear HI
          by_cases hjl : j < PN
          · obtain ⟨cur, hg, hsz⟩ := inv.pw
            have c0 : wr.cell? ⟨gp, j, none⟩ = some (cur[j]'(by omega)) := (cell_of_row wr gp j _ _ _ hg).trans (Array.getElem?_eq_getElem (by omega))
            have z0 : wr.frozen? ⟨gp, j, none⟩ = false := frozen_row hg
            have j0 : (0 : Int) ≤ (j : Int) := Int.natCast_nonneg _
            have j1 : (j : Int) < (PN : Int) := by omega
            have HBL := Hid.mk2 (HJ.out.blot j (.int .u8 238))
            clear inv hg
            go_wp2_with fail
            go_roundw
            case rel => exact ⟨j + 1, by omega, by go_num, HBL.out⟩
            case measure => simp [intOf]; omega
          · have j1 : ¬ (j : Int) < (PN : Int) := by omega
            obtain ⟨va, vn, vc, rfl⟩ : ∃ a n c, vb = .slice a n c := by obtain ⟨a, c, h, _⟩ := owns_form inv.rb; exact ⟨a, _, c, h⟩
            obtain ⟨sa, sn, sc, rfl⟩ : ∃ a n c, vs = .slice a n c := by obtain ⟨a, c, h, _⟩ := owns_form inv.rs; exact ⟨a, _, c, h⟩
            have hgb := inv.gotb
            have c0 : wr.cell? ⟨w6.heap.size, 0, none⟩ = some (.int .i64 (RR.2.err : Int)) := by rw [cell_of_row _ _ _ _ _ _ hgb]; rfl
            have c1 : wr.cell? ⟨w6.heap.size, 1, none⟩ = some (.slice va vn vc) := by rw [cell_of_row _ _ _ _ _ _ hgb]; rfl
            have c2 : wr.cell? ⟨w6.heap.size, 2, none⟩ = some (.slice sa sn sc) := by rw [cell_of_row _ _ _ _ _ _ hgb]; rfl
            have c3 : wr.cell? ⟨w6.heap.size, 3, none⟩ = some (.int .i64 RR.2.a) := by rw [cell_of_row _ _ _ _ _ _ hgb]; rfl
            have c4 : wr.cell? ⟨w6.heap.size, 4, none⟩ = some (.int .i64 RR.2.b) := by rw [cell_of_row _ _ _ _ _ _ hgb]; rfl
            have c5 : wr.cell? ⟨w6.heap.size, 5, none⟩ = some (.int .i64 RR.2.c) := by rw [cell_of_row _ _ _ _ _ _ hgb]; rfl
            have hst := said_store wr (w.heap.size + 1) zSaid #[.int .i64 (RR.2.err : Int), .slice va vn vc, .slice sa sn sc, .int .i64 RR.2.a, .int .i64 RR.2.b, .int .i64 RR.2.c] inv.res rfl rfl (by simp [Value.oneCell'])
            have HRW := Hid.mk2 (setRow_heap wr (w.heap.size + 1) zSaid #[.int .i64 (RR.2.err : Int), .slice va vn vc, .slice sa sn sc, .int .i64 RR.2.a, .int .i64 RR.2.b, .int .i64 RR.2.c] _ _ inv.res)
            have hp1 := inv.lo
            have hs1 := setRow_step (w := wr) (p := w.heap.size + 1) (X := #[.int .i64 (RR.2.err : Int), .slice va vn vc, .slice sa sn sc, .int .i64 RR.2.a, .int .i64 RR.2.b, .int .i64 RR.2.c])
            have hF1 := inv.n1
            have HEND : Hid (HandP w b F RR (.returned (.tuple #[.agg #[.int .i64 (RR.2.err : Int), .slice va vn vc, .slice sa sn sc, .int .i64 RR.2.a, .int .i64 RR.2.b, .int .i64 RR.2.c], .bool true])) (wr.setRow (w.heap.size + 1) #[.int .i64 (RR.2.err : Int), .slice va vn vc, .slice sa sn sc, .int .i64 RR.2.a, .int .i64 RR.2.b, .int .i64 RR.2.c]) (.slice va vn vc) (.slice sa sn sc) F') := by
              have ty : ∀ k cur e, wr.heap[k]? = some (.cells cur e (0, 0)) → e ≠ 38 → k ≠ w.heap.size + 1 := fun k cur e hk he e' => by
                rw [e', inv.res] at hk; simp at hk; exact he hk.2.symm
              refine ⟨rfl, owns_step inv.rb hs1 (fun g hg => ?_), owns_step inv.rs hs1 (fun g hg => ?_), inv.dev.keep hs1 (fun i hi e => hF1 (by rw [← e]; exact hi)), ?_, fun g hg => (inv.nb g hg).1, inv.ns⟩
              · obtain ⟨_, _, cur, hc⟩ := owns_blk inv.rb g hg
                exact ty _ _ _ hc (by decide)
              · obtain ⟨_, _, cur, hc⟩ := owns_blk inv.rs g hg
                exact ty _ _ _ hc (by decide)
              · refine ⟨hs1.os.trans inv.step.os, hs1.tape.trans inv.step.tape, hs1.output.trans inv.step.output, Nat.le_trans inv.step.size hs1.size, fun i hi hn => ?_, inv.step.sub⟩
                exact (hs1.block i (Nat.lt_of_lt_of_le hi inv.step.size) (by omega)).trans (inv.step.block i hi hn)
            clear inv hgb hs1 hF1
            go_wp2_with (refine wpList_store_eq rfl 38 _ _ rfl _ _ rfl rfl hst ?_)
            (try simp only [Exit.inBlock, Exit.then])
            refine bodyPost_ret (results_row_tmp rfl _ _ (w.heap.size + 1) 38 _ (0, 0) _ rfl HRW.out Tryd.underlying38 rfl (by rw [sizeSaid]; rfl)) rfl ?_
            exact ⟨_, _, _, HEND.out⟩
  · have e1 : (K == 1) = false := by simp [hk]
    have e4 : (K == 4) = true := by simp [hk]
    have HACT : Hid (d.act ⟨K, S, n, D, l⟩ = (d.crash l, said0)) := by
      show d.act _ = _
      simp [Dev.act, hk]
    have HRA := Hid.mk2 (HRR.out.trans HACT.out)
    have hcl : (LN : Int) ≤ (cl : Int) := by have := HCP.out.2; omega
    have hcl2 : LN ≤ cl := by omega
    have HLR : Hid (∀ w', Below w7.heap.size w7 w' → w'.ownsRow 0 92 4 (.slice (some ⟨gl, 0, none⟩) LN cl) l.length (fateCells l)) := fun w' hb' => by
      have h1 := (HMM.out.up hb').lrow
      rw [show (⟨K, S, n, D, l⟩ : Stp).fates = l from rfl, fateCells_app] at h1
      have h2 := owns_head h1 (fateCells_len l)
      rw [← HLN.out] at h2 ⊢
      exact ⟨h2.1, h2.2.imp id fun ⟨g, cap, cur, q1, _, q3⟩ => ⟨g, cap, cur, q1, Nat.zero_le _, q3⟩⟩
    have HCR := Hid.mk2 (crash_any b F d w7 HMM.out.dev l (.slice (some ⟨gl, 0, none⟩) LN cl) (HLR.out w7 (Below.refl _ _)) (by have := HS.out.room; simp only [] at this; omega))
    clear hk
    go_wp2_with fail
    rw [← HW7.out]
    refine HCR.out.mono ?_
    rintro e wz ⟨rfl, F', h8, s8⟩
    have M8 := HMM.out.step h8 s8
    clear HCR HLR h8 z0 z1 z2 z3 z4
    have HZ : Hid (HM w wz b F' RR.1 ⟨K, S, n, D, l⟩ (.slice fa LN fc) gp cp gl cl p8 p10 #[.int .i64 (RR.2.err : Int), .slice none 0 0, .slice none 0 0, .int .i64 RR.2.a, .int .i64 RR.2.b, .int .i64 RR.2.c] PL) := by show HM _ _ _ _ _ _ _ _ _ _ _ _ _ _ _; rw [HRA.out]; exact M8
    have HLB0 : Hid (LA w wz b F F' RR ⟨K, S, n, D, l⟩ (.slice fa LN fc) gp gl p10 PN 0 (.slice none 0 0) (.slice none 0 0)) := by
      show LA _ _ _ _ _ _ _ _ _ _ _ _ _ _ _
      rw [HPN.out]
      exact HM.toLA HZ.out ((Step.of_below HBW.out).trans s8) (by rw [HRA.out]; exact owns_nilB _ _) (by rw [HRA.out]; exact owns_nilS _ _) (fun g hg => by simp [Value.ownBlock] at hg) no_blk
    obtain ⟨vb, hvb⟩ : ∃ vb : Value, vb = .slice none 0 0 := ⟨_, rfl⟩
    obtain ⟨vs, hvs⟩ : ∃ vs : Value, vs = .slice none 0 0 := ⟨_, rfl⟩
    have HLB : Hid (LA w wz b F F' RR ⟨K, S, n, D, l⟩ (.slice fa LN fc) gp gl p10 PN 0 vb vs) := by rw [hvb, hvs]; exact HLB0.out
    clear HLB0 hvb hvs M8 s8
    have hp8 := HP8.out
    have hp10 := HP10.out
    subst hp8 hp10
    have t3 : wz.cell? ⟨w.heap.size, 3, none⟩ = some (.string D) := HZ.out.five.s3
    have hfl : (fateCells (l ++ [lastF])).length = (LN + 1) * 4 := by rw [fateCells_len, List.length_append, HLN.out]; rfl
    have hlc : ∀ j u, (fateCells [lastF])[j]? = some u → wz.cell? ⟨gl, LN * 4 + j, none⟩ = some u := fun j u hu => by
      refine owns_cell HZ.out.lrow rfl _ _ ?_
      rw [show (⟨K, S, n, D, l⟩ : Stp).fates = l from rfl, fateCells_app, List.getElem?_append_right (by rw [fateCells_len, HLN.out]; omega), fateCells_len, HLN.out, Nat.add_sub_cancel_left]
      exact hu
    have a0 : wz.cell? ⟨gl, LN * 4, none⟩ = some (.int .i64 (-5)) := hlc 0 _ rfl
    have a1 : wz.cell? ⟨gl, LN * 4 + 1, none⟩ = some (.int .i64 0) := hlc 1 _ rfl
    have a2 : wz.cell? ⟨gl, LN * 4 + 2, none⟩ = some (.int .i64 0) := hlc 2 _ rfl
    have a3 : wz.cell? ⟨gl, LN * 4 + 3, none⟩ = some (.string { data := #[98, 101, 104, 105, 110, 100] }) := hlc 3 _ rfl
    have b0 : wz.cell? ⟨w4.heap.size, 0, none⟩ = some (.int .i64 (-5)) := by rw [cell_of_row _ _ _ _ _ _ HZ.out.last]; rfl
    have b1 : wz.cell? ⟨w4.heap.size, 1, none⟩ = some (.int .i64 0) := by rw [cell_of_row _ _ _ _ _ _ HZ.out.last]; rfl
    have b2 : wz.cell? ⟨w4.heap.size, 2, none⟩ = some (.int .i64 0) := by rw [cell_of_row _ _ _ _ _ _ HZ.out.last]; rfl
    have b3 : wz.cell? ⟨w4.heap.size, 3, none⟩ = some (.string { data := #[98, 101, 104, 105, 110, 100] }) := by rw [cell_of_row _ _ _ _ _ _ HZ.out.last]; rfl
    have hcat : ∀ w', (binOp .add 9 (.string D) (.string { data := #[98, 101, 104, 105, 110, 100] })).run Tryd.prog w' = .ok (.string (D ++ { data := #[98, 101, 104, 105, 110, 100] })) w' := fun w' => by simp [go_sem]; omega
    have hdz : D.size ≤ 9223372036854775801 := by omega
    have hdz2 : D.size + 6 ≤ 9223372036854775807 := by omega
    have hfs := fun w => fate_self w (-5) 0 0 { data := #[98, 101, 104, 105, 110, 100] }
    have hi1 : (0 : Int) ≤ (LN : Int) := Int.natCast_nonneg _
    have hi2 : (LN : Int) < (LN : Int) + 1 := by omega
    have HSB : Hid (∀ w1 v1, Below wz.heap.size wz w1 → w1.ownsRow wz.heap.size 5 1 v1 PN (u8s PL) → Calls Tryd.prog 50 #[.slice (some ⟨gp, 0, none⟩) PN cp, v1] w1 fun e w'' => e = .returned (.bool true) ∧ Below w1.heap.size w1 w'') := fun w1 v1 hb hr => by
      have hpl : PL.length ≤ 140737488355328 := by rw [← HPN.out, HPD.out]; omega
      refine sameb_any PL _ _ w1 ?_ (bytesIn_own (base := wz.heap.size) (by rw [← HPN.out]; exact hr) hpl)
      have h1 := bytesIn_own (owns_below HZ.out.prow hb) hpl
      rw [← HPN.out] at h1
      exact h1
    clear hlc hfl
    go_wp2_with fail
    go_region_held (fun w' => w'.cell? ⟨w.heap.size, 3, none⟩ = some (.string D) ∧ (w'.cell? ⟨gl, LN * 4, none⟩ = some (.int .i64 (-5)) ∧ w'.cell? ⟨gl, LN * 4 + 1, none⟩ = some (.int .i64 0) ∧ w'.cell? ⟨gl, LN * 4 + 2, none⟩ = some (.int .i64 0) ∧ w'.cell? ⟨gl, LN * 4 + 3, none⟩ = some (.string { data := #[98, 101, 104, 105, 110, 100] })) ∧ (w'.cell? ⟨w4.heap.size, 0, none⟩ = some (.int .i64 (-5)) ∧ w'.cell? ⟨w4.heap.size, 1, none⟩ = some (.int .i64 0) ∧ w'.cell? ⟨w4.heap.size, 2, none⟩ = some (.int .i64 0) ∧ w'.cell? ⟨w4.heap.size, 3, none⟩ = some (.string { data := #[98, 101, 104, 105, 110, 100] }))) (go_keep)
      (first
        | (go_at_call 50; refine (HSB.out w10 _ hb10 hr10).mono ?_; rintro e w11 ⟨rfl, hb11'⟩; have hb11 := Below.next hb10 hb11'; have c3 := cell_below hb11 t3; have c0 := cell_below hb11 a0; have c1 := cell_below hb11 a1; have c2 := cell_below hb11 a2; have c4 := cell_below hb11 a3; have d0 := cell_below hb11 b0; have d1 := cell_below hb11 b1; have d2 := cell_below hb11 b2; have d3 := cell_below hb11 b3)
        | (go_at_call 44; refine (HBY.out _).mono ?_; rintro e w10 ⟨v10, rfl, hr10, hbd⟩; have hb10 : Below wz.heap.size wz w10 := (by first | exact undrew hbd | exact hbd); clear hbd; have q3 := cell_below hb10 t3; have q0 := cell_below hb10 a0; have q1 := cell_below hb10 a1; have q2 := cell_below hb10 a2; have q4 := cell_below hb10 a3; have r0 := cell_below hb10 b0; have r1 := cell_below hb10 b1; have r2 := cell_below hb10 b2; have r3 := cell_below hb10 b3; obtain ⟨va10, vc10, rfl, -⟩ := owns_form hr10))
    have HL0 := Hid.mk2 (HLB.out.up hb11)
    clear hb11 hb11' hb10 hr10 c0 c1 c2 c3 c4 d0 d1 d2 d3 q0 q1 q2 q3 q4 r0 r1 r2 r3 a0 a1 a2 a3 b0 b1 b2 b3 t3 HSB HLB HZ
    go_wp2_with fail
    go_loopw [12, 13] (fun u12 u13 wr => ∃ k : Nat, k ≤ LN ∧ u12 = .bool true ∧ u13 = .int .i64 (k : Int) ∧ LA w wr b F F' RR ⟨K, S, n, D, l⟩ (.slice fa LN fc) gp gl w6.heap.size PN k vb vs) (fun _ u13 _ => LN - (intOf u13).toNat)
    case atStart => exact ⟨0, Nat.zero_le _, rfl, rfl, HL0.out⟩
    case round =>
      obtain ⟨k, hk, rfl, rfl, inv⟩ := hrel
      have HI := Hid.mk2 inv
      clear HL0
      by_cases hlt : k < LN
      · have hkl : k < l.length := by rw [← HLN.out]; exact hlt
        have hbW : Below W.heap.size W wr := HWB.out.trans (inv.step.below HWF.out HWB.out.size)
        obtain ⟨fa', fc', fg, fo, hfe, _, hfa', hfc'⟩ := (HL.out.keep hbW).cells
        rw [← HLN.out] at hfe hfa'
        simp only [Value.slice.injEq] at hfe
        obtain ⟨rfl, -, rfl⟩ := hfe
        obtain rfl := hfa' (by omega)
        obtain ⟨f0, f1, f2, f3⟩ := hfc' k hkl
        obtain ⟨cur, hg, hsz, hcur⟩ := inv.lw
        have hsz' : (LN + 1) * 4 ≤ cur.size := by rw [HLN.out]; exact hsz
        obtain ⟨g0, g1, g2, g3⟩ := fateCells_get l k hkl
        have c0 : wr.cell? ⟨gl, k * 4, none⟩ = some (.int .i64 l[k].ix) := by rw [cell_of_row _ _ _ _ _ _ hg, hcur (k * 4) (by omega) (by show _ < l.length * 4; omega)]; exact g0
        have c1 : wr.cell? ⟨gl, k * 4 + 1, none⟩ = some (.int .i64 l[k].kind) := by rw [cell_of_row _ _ _ _ _ _ hg, hcur (k * 4 + 1) (by omega) (by show _ < l.length * 4; omega)]; exact g1
        have c2 : wr.cell? ⟨gl, k * 4 + 2, none⟩ = some (.int .i64 l[k].cut) := by rw [cell_of_row _ _ _ _ _ _ hg, hcur (k * 4 + 2) (by omega) (by show _ < l.length * 4; omega)]; exact g2
        have c3 : wr.cell? ⟨gl, k * 4 + 3, none⟩ = some (.string l[k].junk) := by rw [cell_of_row _ _ _ _ _ _ hg, hcur (k * 4 + 3) (by omega) (by show _ < l.length * 4; omega)]; exact g3
        have z0 : wr.frozen? ⟨gl, k * 4, none⟩ = false := frozen_row hg
        have z1 : wr.frozen? ⟨gl, k * 4 + 1, none⟩ = false := frozen_row hg
        have z2 : wr.frozen? ⟨gl, k * 4 + 2, none⟩ = false := frozen_row hg
        have z3 : wr.frozen? ⟨gl, k * 4 + 3, none⟩ = false := frozen_row hg
        have t4 : wr.cell? ⟨w.heap.size, 4, none⟩ = some (.slice (some ⟨fg, fo, none⟩) LN fc) := inv.five.s4
        generalize l[k] = fk at *
        obtain ⟨fi, fk', fcu, fj⟩ := fk
        simp only [] at f0 f1 f2 f3 c0 c1 c2 c3
        have hfs2 := fun w => fate_self w fi fk' fcu fj
        have k0 : (0 : Int) ≤ (k : Int) := Int.natCast_nonneg _
        have k1 : (k : Int) < (LN : Int) := by omega
        have k2 : (k : Int) < (LN : Int) + 1 := by omega
        clear inv hg hsz hcur hsz' g0 g1 g2 g3 hfc' hfa' hbW hfs
        have HSP := fun m => (LA.up HI.out (below_drewN (Below.refl _ wr) m)).spoil (.int .i64 0) (.int .i64 3) (.int .i64 0) (.string { data := #[115, 112, 111, 105, 108, 116] })
        have HSPH := Hid.mk2 HSP
        clear HSP
        go_wp2_with fail
        go_quiet (fail)
        go_wp2_with fail
        go_roundw
        case rel => exact ⟨k + 1, by omega, rfl, by go_num, HSPH.out _⟩
        case measure => simp [intOf]; omega
      · have k1 : ¬ (k : Int) < (LN : Int) := by omega
        have hPNb : PN ≤ 1048582 := by rw [HPD.out]; omega
        clear inv
        go_wp2_with fail
        go_loopw [14] (fun u14 wr => ∃ j : Nat, j ≤ PN ∧ u14 = .int .i64 (j : Int) ∧ LA w wr b F F' RR ⟨K, S, n, D, l⟩ (.slice fa LN fc) gp gl w6.heap.size PN k vb vs) (fun u14 _ => PN - (intOf u14).toNat)
        case atStart => exact ⟨0, Nat.zero_le _, rfl, HI.out⟩
        case round =>
          obtain ⟨j, hj, rfl, inv⟩ := hrel
          have HJ := Hid.mk2 inv
          clear HI
          by_cases hjl : j < PN
          · obtain ⟨cur, hg, hsz⟩ := inv.pw
            have c0 : wr.cell? ⟨gp, j, none⟩ = some (cur[j]'(by omega)) := (cell_of_row wr gp j _ _ _ hg).trans (Array.getElem?_eq_getElem (by omega))
            have z0 : wr.frozen? ⟨gp, j, none⟩ = false := frozen_row hg
            have j0 : (0 : Int) ≤ (j : Int) := Int.natCast_nonneg _
            have j1 : (j : Int) < (PN : Int) := by omega
            have HBL := Hid.mk2 (HJ.out.blot j (.int .u8 238))
            clear inv hg
            go_wp2_with fail
            go_roundw
            case rel => exact ⟨j + 1, by omega, by go_num, HBL.out⟩
            case measure => simp [intOf]; omega
          · have j1 : ¬ (j : Int) < (PN : Int) := by omega
            obtain ⟨va, vn, vc, rfl⟩ : ∃ a n c, vb = .slice a n c := by obtain ⟨a, c, h, _⟩ := owns_form inv.rb; exact ⟨a, _, c, h⟩
            obtain ⟨sa, sn, sc, rfl⟩ : ∃ a n c, vs = .slice a n c := by obtain ⟨a, c, h, _⟩ := owns_form inv.rs; exact ⟨a, _, c, h⟩
            have hgb := inv.gotb
            have c0 : wr.cell? ⟨w6.heap.size, 0, none⟩ = some (.int .i64 (RR.2.err : Int)) := by rw [cell_of_row _ _ _ _ _ _ hgb]; rfl
            have c1 : wr.cell? ⟨w6.heap.size, 1, none⟩ = some (.slice va vn vc) := by rw [cell_of_row _ _ _ _ _ _ hgb]; rfl
            have c2 : wr.cell? ⟨w6.heap.size, 2, none⟩ = some (.slice sa sn sc) := by rw [cell_of_row _ _ _ _ _ _ hgb]; rfl
            have c3 : wr.cell? ⟨w6.heap.size, 3, none⟩ = some (.int .i64 RR.2.a) := by rw [cell_of_row _ _ _ _ _ _ hgb]; rfl
            have c4 : wr.cell? ⟨w6.heap.size, 4, none⟩ = some (.int .i64 RR.2.b) := by rw [cell_of_row _ _ _ _ _ _ hgb]; rfl
            have c5 : wr.cell? ⟨w6.heap.size, 5, none⟩ = some (.int .i64 RR.2.c) := by rw [cell_of_row _ _ _ _ _ _ hgb]; rfl
            have hst := said_store wr (w.heap.size + 1) zSaid #[.int .i64 (RR.2.err : Int), .slice va vn vc, .slice sa sn sc, .int .i64 RR.2.a, .int .i64 RR.2.b, .int .i64 RR.2.c] inv.res rfl rfl (by simp [Value.oneCell'])
            have HRW := Hid.mk2 (setRow_heap wr (w.heap.size + 1) zSaid #[.int .i64 (RR.2.err : Int), .slice va vn vc, .slice sa sn sc, .int .i64 RR.2.a, .int .i64 RR.2.b, .int .i64 RR.2.c] _ _ inv.res)
            have hp1 := inv.lo
            have hs1 := setRow_step (w := wr) (p := w.heap.size + 1) (X := #[.int .i64 (RR.2.err : Int), .slice va vn vc, .slice sa sn sc, .int .i64 RR.2.a, .int .i64 RR.2.b, .int .i64 RR.2.c])
            have hF1 := inv.n1
            have HEND : Hid (HandP w b F RR (.returned (.tuple #[.agg #[.int .i64 (RR.2.err : Int), .slice va vn vc, .slice sa sn sc, .int .i64 RR.2.a, .int .i64 RR.2.b, .int .i64 RR.2.c], .bool true])) (wr.setRow (w.heap.size + 1) #[.int .i64 (RR.2.err : Int), .slice va vn vc, .slice sa sn sc, .int .i64 RR.2.a, .int .i64 RR.2.b, .int .i64 RR.2.c]) (.slice va vn vc) (.slice sa sn sc) F') := by
              have ty : ∀ k cur e, wr.heap[k]? = some (.cells cur e (0, 0)) → e ≠ 38 → k ≠ w.heap.size + 1 := fun k cur e hk he e' => by
                rw [e', inv.res] at hk; simp at hk; exact he hk.2.symm
              refine ⟨rfl, owns_step inv.rb hs1 (fun g hg => ?_), owns_step inv.rs hs1 (fun g hg => ?_), inv.dev.keep hs1 (fun i hi e => hF1 (by rw [← e]; exact hi)), ?_, fun g hg => (inv.nb g hg).1, inv.ns⟩
              · obtain ⟨_, _, cur, hc⟩ := owns_blk inv.rb g hg
                exact ty _ _ _ hc (by decide)
              · obtain ⟨_, _, cur, hc⟩ := owns_blk inv.rs g hg
                exact ty _ _ _ hc (by decide)
              · refine ⟨hs1.os.trans inv.step.os, hs1.tape.trans inv.step.tape, hs1.output.trans inv.step.output, Nat.le_trans inv.step.size hs1.size, fun i hi hn => ?_, inv.step.sub⟩
                exact (hs1.block i (Nat.lt_of_lt_of_le hi inv.step.size) (by omega)).trans (inv.step.block i hi hn)
            clear inv hgb hs1 hF1
            go_wp2_with (refine wpList_store_eq rfl 38 _ _ rfl _ _ rfl rfl hst ?_)
            (try simp only [Exit.inBlock, Exit.then])
            refine bodyPost_ret (results_row_tmp rfl _ _ (w.heap.size + 1) 38 _ (0, 0) _ rfl HRW.out Tryd.underlying38 rfl (by rw [sizeSaid]; rfl)) rfl ?_
            exact ⟨_, _, _, HEND.out⟩
  · have e1 : (K == 1) = false := by simp [hk]
    have e4 : (K == 4) = false := by simp [hk]
    have e5 : (K == 5) = true := by simp [hk]
    have HACT : Hid (d.act ⟨K, S, n, D, l⟩ = (d.arm n l, said0)) := by
      show d.act _ = _
      simp [Dev.act, hk]
    have HRA := Hid.mk2 (HRR.out.trans HACT.out)
    have hcl : (LN : Int) ≤ (cl : Int) := by have := HCP.out.2; omega
    have hcl2 : LN ≤ cl := by omega
    have HLR : Hid (∀ w', Below w7.heap.size w7 w' → w'.ownsRow 0 92 4 (.slice (some ⟨gl, 0, none⟩) LN cl) l.length (fateCells l)) := fun w' hb' => by
      have h1 := (HMM.out.up hb').lrow
      rw [show (⟨K, S, n, D, l⟩ : Stp).fates = l from rfl, fateCells_app] at h1
      have h2 := owns_head h1 (fateCells_len l)
      rw [← HLN.out] at h2 ⊢
      exact ⟨h2.1, h2.2.imp id fun ⟨g, cap, cur, q1, _, q3⟩ => ⟨g, cap, cur, q1, Nat.zero_le _, q3⟩⟩
    have HAM : Hid (∀ w', Below w7.heap.size w7 w' → Calls Tryd.prog 45 #[.pointer (some ⟨b, 0, none⟩), .int .i64 n, .slice (some ⟨gl, 0, none⟩) LN cl] w' fun e w'' => e = .returned (.tuple #[]) ∧ DevPost w' b F (d.arm n l) w'') := fun w' hb' => arm_any b F d w' (HMM.out.up hb').dev n l _ (HLR.out w' hb') (by omega) HS.out.n hq
    clear hk
    go_wp2_with fail
    rw [← HW7.out]
    rw [← HW7.out] at z0 z1 z2 z3 z4
    go_region_held3 (fun w' => w'.cell? ⟨w.heap.size, 2, none⟩ = some (.int .i64 n)) (go_keep)
      (first
        | (go_at_call 45; refine (HAM.out _ (by first | exact bdrew1 (Below.refl _ _) | exact Below.refl _ _)).mono ?_; rintro e wz ⟨rfl, F', h8, s8'⟩; have s8 : Step F F' w7 wz := (by first | exact s8' | exact (Step.of_below (bdrew1 (Below.refl _ _))).trans s8'); have M8 := HMM.out.step h8 s8; have t2 := M8.five.s2; simp only [] at t2))
    clear HAM HLR h8 s8' t2 z0 z1 z2 z3 z4
    have HZ : Hid (HM w wz b F' RR.1 ⟨K, S, n, D, l⟩ (.slice fa LN fc) gp cp gl cl p8 p10 #[.int .i64 (RR.2.err : Int), .slice none 0 0, .slice none 0 0, .int .i64 RR.2.a, .int .i64 RR.2.b, .int .i64 RR.2.c] PL) := by show HM _ _ _ _ _ _ _ _ _ _ _ _ _ _ _; rw [HRA.out]; exact M8
    have HLB0 : Hid (LA w wz b F F' RR ⟨K, S, n, D, l⟩ (.slice fa LN fc) gp gl p10 PN 0 (.slice none 0 0) (.slice none 0 0)) := by
      show LA _ _ _ _ _ _ _ _ _ _ _ _ _ _ _
      rw [HPN.out]
      exact HM.toLA HZ.out ((Step.of_below HBW.out).trans s8) (by rw [HRA.out]; exact owns_nilB _ _) (by rw [HRA.out]; exact owns_nilS _ _) (fun g hg => by simp [Value.ownBlock] at hg) no_blk
    obtain ⟨vb, hvb⟩ : ∃ vb : Value, vb = .slice none 0 0 := ⟨_, rfl⟩
    obtain ⟨vs, hvs⟩ : ∃ vs : Value, vs = .slice none 0 0 := ⟨_, rfl⟩
    have HLB : Hid (LA w wz b F F' RR ⟨K, S, n, D, l⟩ (.slice fa LN fc) gp gl p10 PN 0 vb vs) := by rw [hvb, hvs]; exact HLB0.out
    clear HLB0 hvb hvs M8 s8
    have hp8 := HP8.out
    have hp10 := HP10.out
    subst hp8 hp10
    have t3 : wz.cell? ⟨w.heap.size, 3, none⟩ = some (.string D) := HZ.out.five.s3
    have hfl : (fateCells (l ++ [lastF])).length = (LN + 1) * 4 := by rw [fateCells_len, List.length_append, HLN.out]; rfl
    have hlc : ∀ j u, (fateCells [lastF])[j]? = some u → wz.cell? ⟨gl, LN * 4 + j, none⟩ = some u := fun j u hu => by
      refine owns_cell HZ.out.lrow rfl _ _ ?_
      rw [show (⟨K, S, n, D, l⟩ : Stp).fates = l from rfl, fateCells_app, List.getElem?_append_right (by rw [fateCells_len, HLN.out]; omega), fateCells_len, HLN.out, Nat.add_sub_cancel_left]
      exact hu
    have a0 : wz.cell? ⟨gl, LN * 4, none⟩ = some (.int .i64 (-5)) := hlc 0 _ rfl
    have a1 : wz.cell? ⟨gl, LN * 4 + 1, none⟩ = some (.int .i64 0) := hlc 1 _ rfl
    have a2 : wz.cell? ⟨gl, LN * 4 + 2, none⟩ = some (.int .i64 0) := hlc 2 _ rfl
    have a3 : wz.cell? ⟨gl, LN * 4 + 3, none⟩ = some (.string { data := #[98, 101, 104, 105, 110, 100] }) := hlc 3 _ rfl
    have b0 : wz.cell? ⟨w4.heap.size, 0, none⟩ = some (.int .i64 (-5)) := by rw [cell_of_row _ _ _ _ _ _ HZ.out.last]; rfl
    have b1 : wz.cell? ⟨w4.heap.size, 1, none⟩ = some (.int .i64 0) := by rw [cell_of_row _ _ _ _ _ _ HZ.out.last]; rfl
    have b2 : wz.cell? ⟨w4.heap.size, 2, none⟩ = some (.int .i64 0) := by rw [cell_of_row _ _ _ _ _ _ HZ.out.last]; rfl
    have b3 : wz.cell? ⟨w4.heap.size, 3, none⟩ = some (.string { data := #[98, 101, 104, 105, 110, 100] }) := by rw [cell_of_row _ _ _ _ _ _ HZ.out.last]; rfl
    have hcat : ∀ w', (binOp .add 9 (.string D) (.string { data := #[98, 101, 104, 105, 110, 100] })).run Tryd.prog w' = .ok (.string (D ++ { data := #[98, 101, 104, 105, 110, 100] })) w' := fun w' => by simp [go_sem]; omega
    have hdz : D.size ≤ 9223372036854775801 := by omega
    have hdz2 : D.size + 6 ≤ 9223372036854775807 := by omega
    have hfs := fun w => fate_self w (-5) 0 0 { data := #[98, 101, 104, 105, 110, 100] }
    have hi1 : (0 : Int) ≤ (LN : Int) := Int.natCast_nonneg _
    have hi2 : (LN : Int) < (LN : Int) + 1 := by omega
    have HSB : Hid (∀ w1 v1, Below wz.heap.size wz w1 → w1.ownsRow wz.heap.size 5 1 v1 PN (u8s PL) → Calls Tryd.prog 50 #[.slice (some ⟨gp, 0, none⟩) PN cp, v1] w1 fun e w'' => e = .returned (.bool true) ∧ Below w1.heap.size w1 w'') := fun w1 v1 hb hr => by
      have hpl : PL.length ≤ 140737488355328 := by rw [← HPN.out, HPD.out]; omega
      refine sameb_any PL _ _ w1 ?_ (bytesIn_own (base := wz.heap.size) (by rw [← HPN.out]; exact hr) hpl)
      have h1 := bytesIn_own (owns_below HZ.out.prow hb) hpl
      rw [← HPN.out] at h1
      exact h1
    clear hlc hfl
    go_wp2_with fail
    go_region_held (fun w' => w'.cell? ⟨w.heap.size, 3, none⟩ = some (.string D) ∧ (w'.cell? ⟨gl, LN * 4, none⟩ = some (.int .i64 (-5)) ∧ w'.cell? ⟨gl, LN * 4 + 1, none⟩ = some (.int .i64 0) ∧ w'.cell? ⟨gl, LN * 4 + 2, none⟩ = some (.int .i64 0) ∧ w'.cell? ⟨gl, LN * 4 + 3, none⟩ = some (.string { data := #[98, 101, 104, 105, 110, 100] })) ∧ (w'.cell? ⟨w4.heap.size, 0, none⟩ = some (.int .i64 (-5)) ∧ w'.cell? ⟨w4.heap.size, 1, none⟩ = some (.int .i64 0) ∧ w'.cell? ⟨w4.heap.size, 2, none⟩ = some (.int .i64 0) ∧ w'.cell? ⟨w4.heap.size, 3, none⟩ = some (.string { data := #[98, 101, 104, 105, 110, 100] }))) (go_keep)
      (first
        | (go_at_call 50; refine (HSB.out w10 _ hb10 hr10).mono ?_; rintro e w11 ⟨rfl, hb11'⟩; have hb11 := Below.next hb10 hb11'; have c3 := cell_below hb11 t3; have c0 := cell_below hb11 a0; have c1 := cell_below hb11 a1; have c2 := cell_below hb11 a2; have c4 := cell_below hb11 a3; have d0 := cell_below hb11 b0; have d1 := cell_below hb11 b1; have d2 := cell_below hb11 b2; have d3 := cell_below hb11 b3)
        | (go_at_call 44; refine (HBY.out _).mono ?_; rintro e w10 ⟨v10, rfl, hr10, hbd⟩; have hb10 : Below wz.heap.size wz w10 := (by first | exact undrew hbd | exact hbd); clear hbd; have q3 := cell_below hb10 t3; have q0 := cell_below hb10 a0; have q1 := cell_below hb10 a1; have q2 := cell_below hb10 a2; have q4 := cell_below hb10 a3; have r0 := cell_below hb10 b0; have r1 := cell_below hb10 b1; have r2 := cell_below hb10 b2; have r3 := cell_below hb10 b3; obtain ⟨va10, vc10, rfl, -⟩ := owns_form hr10))
    have HL0 := Hid.mk2 (HLB.out.up hb11)
    clear hb11 hb11' hb10 hr10 c0 c1 c2 c3 c4 d0 d1 d2 d3 q0 q1 q2 q3 q4 r0 r1 r2 r3 a0 a1 a2 a3 b0 b1 b2 b3 t3 HSB HLB HZ
    go_wp2_with fail
    go_loopw [12, 13] (fun u12 u13 wr => ∃ k : Nat, k ≤ LN ∧ u12 = .bool true ∧ u13 = .int .i64 (k : Int) ∧ LA w wr b F F' RR ⟨K, S, n, D, l⟩ (.slice fa LN fc) gp gl w6.heap.size PN k vb vs) (fun _ u13 _ => LN - (intOf u13).toNat)
    case atStart => exact ⟨0, Nat.zero_le _, rfl, rfl, HL0.out⟩
    case round =>
      obtain ⟨k, hk, rfl, rfl, inv⟩ := hrel
      have HI := Hid.mk2 inv
      clear HL0
      by_cases hlt : k < LN
      · have hkl : k < l.length := by rw [← HLN.out]; exact hlt
        have hbW : Below W.heap.size W wr := HWB.out.trans (inv.step.below HWF.out HWB.out.size)
        obtain ⟨fa', fc', fg, fo, hfe, _, hfa', hfc'⟩ := (HL.out.keep hbW).cells
        rw [← HLN.out] at hfe hfa'
        simp only [Value.slice.injEq] at hfe
        obtain ⟨rfl, -, rfl⟩ := hfe
        obtain rfl := hfa' (by omega)
        obtain ⟨f0, f1, f2, f3⟩ := hfc' k hkl
        obtain ⟨cur, hg, hsz, hcur⟩ := inv.lw
        have hsz' : (LN + 1) * 4 ≤ cur.size := by rw [HLN.out]; exact hsz
        obtain ⟨g0, g1, g2, g3⟩ := fateCells_get l k hkl
        have c0 : wr.cell? ⟨gl, k * 4, none⟩ = some (.int .i64 l[k].ix) := by rw [cell_of_row _ _ _ _ _ _ hg, hcur (k * 4) (by omega) (by show _ < l.length * 4; omega)]; exact g0
        have c1 : wr.cell? ⟨gl, k * 4 + 1, none⟩ = some (.int .i64 l[k].kind) := by rw [cell_of_row _ _ _ _ _ _ hg, hcur (k * 4 + 1) (by omega) (by show _ < l.length * 4; omega)]; exact g1
        have c2 : wr.cell? ⟨gl, k * 4 + 2, none⟩ = some (.int .i64 l[k].cut) := by rw [cell_of_row _ _ _ _ _ _ hg, hcur (k * 4 + 2) (by omega) (by show _ < l.length * 4; omega)]; exact g2
        have c3 : wr.cell? ⟨gl, k * 4 + 3, none⟩ = some (.string l[k].junk) := by rw [cell_of_row _ _ _ _ _ _ hg, hcur (k * 4 + 3) (by omega) (by show _ < l.length * 4; omega)]; exact g3
        have z0 : wr.frozen? ⟨gl, k * 4, none⟩ = false := frozen_row hg
        have z1 : wr.frozen? ⟨gl, k * 4 + 1, none⟩ = false := frozen_row hg
        have z2 : wr.frozen? ⟨gl, k * 4 + 2, none⟩ = false := frozen_row hg
        have z3 : wr.frozen? ⟨gl, k * 4 + 3, none⟩ = false := frozen_row hg
        have t4 : wr.cell? ⟨w.heap.size, 4, none⟩ = some (.slice (some ⟨fg, fo, none⟩) LN fc) := inv.five.s4
        generalize l[k] = fk at *
        obtain ⟨fi, fk', fcu, fj⟩ := fk
        simp only [] at f0 f1 f2 f3 c0 c1 c2 c3
        have hfs2 := fun w => fate_self w fi fk' fcu fj
        have k0 : (0 : Int) ≤ (k : Int) := Int.natCast_nonneg _
        have k1 : (k : Int) < (LN : Int) := by omega
        have k2 : (k : Int) < (LN : Int) + 1 := by omega
        clear inv hg hsz hcur hsz' g0 g1 g2 g3 hfc' hfa' hbW hfs
        have HSP := fun m => (LA.up HI.out (below_drewN (Below.refl _ wr) m)).spoil (.int .i64 0) (.int .i64 3) (.int .i64 0) (.string { data := #[115, 112, 111, 105, 108, 116] })
        have HSPH := Hid.mk2 HSP
        clear HSP
        go_wp2_with fail
        go_quiet (fail)
        go_wp2_with fail
        go_roundw
        case rel => exact ⟨k + 1, by omega, rfl, by go_num, HSPH.out _⟩
        case measure => simp [intOf]; omega
      · have k1 : ¬ (k : Int) < (LN : Int) := by omega
        have hPNb : PN ≤ 1048582 := by rw [HPD.out]; omega
        clear inv
        go_wp2_with fail
        go_loopw [14] (fun u14 wr => ∃ j : Nat, j ≤ PN ∧ u14 = .int .i64 (j : Int) ∧ LA w wr b F F' RR ⟨K, S, n, D, l⟩ (.slice fa LN fc) gp gl w6.heap.size PN k vb vs) (fun u14 _ => PN - (intOf u14).toNat)
        case atStart => exact ⟨0, Nat.zero_le _, rfl, HI.out⟩
        case round =>
          obtain ⟨j, hj, rfl, inv⟩ := hrel
          have HJ := Hid.mk2 inv
          clear HI
          by_cases hjl : j < PN
          · obtain ⟨cur, hg, hsz⟩ := inv.pw
            have c0 : wr.cell? ⟨gp, j, none⟩ = some (cur[j]'(by omega)) := (cell_of_row wr gp j _ _ _ hg).trans (Array.getElem?_eq_getElem (by omega))
            have z0 : wr.frozen? ⟨gp, j, none⟩ = false := frozen_row hg
            have j0 : (0 : Int) ≤ (j : Int) := Int.natCast_nonneg _
            have j1 : (j : Int) < (PN : Int) := by omega
            have HBL := Hid.mk2 (HJ.out.blot j (.int .u8 238))
            clear inv hg
            go_wp2_with fail
            go_roundw
            case rel => exact ⟨j + 1, by omega, by go_num, HBL.out⟩
            case measure => simp [intOf]; omega
          · have j1 : ¬ (j : Int) < (PN : Int) := by omega
            obtain ⟨va, vn, vc, rfl⟩ : ∃ a n c, vb = .slice a n c := by obtain ⟨a, c, h, _⟩ := owns_form inv.rb; exact ⟨a, _, c, h⟩
            obtain ⟨sa, sn, sc, rfl⟩ : ∃ a n c, vs = .slice a n c := by obtain ⟨a, c, h, _⟩ := owns_form inv.rs; exact ⟨a, _, c, h⟩
            have hgb := inv.gotb
            have c0 : wr.cell? ⟨w6.heap.size, 0, none⟩ = some (.int .i64 (RR.2.err : Int)) := by rw [cell_of_row _ _ _ _ _ _ hgb]; rfl
            have c1 : wr.cell? ⟨w6.heap.size, 1, none⟩ = some (.slice va vn vc) := by rw [cell_of_row _ _ _ _ _ _ hgb]; rfl
            have c2 : wr.cell? ⟨w6.heap.size, 2, none⟩ = some (.slice sa sn sc) := by rw [cell_of_row _ _ _ _ _ _ hgb]; rfl
            have c3 : wr.cell? ⟨w6.heap.size, 3, none⟩ = some (.int .i64 RR.2.a) := by rw [cell_of_row _ _ _ _ _ _ hgb]; rfl
            have c4 : wr.cell? ⟨w6.heap.size, 4, none⟩ = some (.int .i64 RR.2.b) := by rw [cell_of_row _ _ _ _ _ _ hgb]; rfl
            have c5 : wr.cell? ⟨w6.heap.size, 5, none⟩ = some (.int .i64 RR.2.c) := by rw [cell_of_row _ _ _ _ _ _ hgb]; rfl
            have hst := said_store wr (w.heap.size + 1) zSaid #[.int .i64 (RR.2.err : Int), .slice va vn vc, .slice sa sn sc, .int .i64 RR.2.a, .int .i64 RR.2.b, .int .i64 RR.2.c] inv.res rfl rfl (by simp [Value.oneCell'])
            have HRW := Hid.mk2 (setRow_heap wr (w.heap.size + 1) zSaid #[.int .i64 (RR.2.err : Int), .slice va vn vc, .slice sa sn sc, .int .i64 RR.2.a, .int .i64 RR.2.b, .int .i64 RR.2.c] _ _ inv.res)
            have hp1 := inv.lo
            have hs1 := setRow_step (w := wr) (p := w.heap.size + 1) (X := #[.int .i64 (RR.2.err : Int), .slice va vn vc, .slice sa sn sc, .int .i64 RR.2.a, .int .i64 RR.2.b, .int .i64 RR.2.c])
            have hF1 := inv.n1
            have HEND : Hid (HandP w b F RR (.returned (.tuple #[.agg #[.int .i64 (RR.2.err : Int), .slice va vn vc, .slice sa sn sc, .int .i64 RR.2.a, .int .i64 RR.2.b, .int .i64 RR.2.c], .bool true])) (wr.setRow (w.heap.size + 1) #[.int .i64 (RR.2.err : Int), .slice va vn vc, .slice sa sn sc, .int .i64 RR.2.a, .int .i64 RR.2.b, .int .i64 RR.2.c]) (.slice va vn vc) (.slice sa sn sc) F') := by
              have ty : ∀ k cur e, wr.heap[k]? = some (.cells cur e (0, 0)) → e ≠ 38 → k ≠ w.heap.size + 1 := fun k cur e hk he e' => by
                rw [e', inv.res] at hk; simp at hk; exact he hk.2.symm
              refine ⟨rfl, owns_step inv.rb hs1 (fun g hg => ?_), owns_step inv.rs hs1 (fun g hg => ?_), inv.dev.keep hs1 (fun i hi e => hF1 (by rw [← e]; exact hi)), ?_, fun g hg => (inv.nb g hg).1, inv.ns⟩
              · obtain ⟨_, _, cur, hc⟩ := owns_blk inv.rb g hg
                exact ty _ _ _ hc (by decide)
              · obtain ⟨_, _, cur, hc⟩ := owns_blk inv.rs g hg
                exact ty _ _ _ hc (by decide)
              · refine ⟨hs1.os.trans inv.step.os, hs1.tape.trans inv.step.tape, hs1.output.trans inv.step.output, Nat.le_trans inv.step.size hs1.size, fun i hi hn => ?_, inv.step.sub⟩
                exact (hs1.block i (Nat.lt_of_lt_of_le hi inv.step.size) (by omega)).trans (inv.step.block i hi hn)
            clear inv hgb hs1 hF1
            go_wp2_with (refine wpList_store_eq rfl 38 _ _ rfl _ _ rfl rfl hst ?_)
            (try simp only [Exit.inBlock, Exit.then])
            refine bodyPost_ret (results_row_tmp rfl _ _ (w.heap.size + 1) 38 _ (0, 0) _ rfl HRW.out Tryd.underlying38 rfl (by rw [sizeSaid]; rfl)) rfl ?_
            exact ⟨_, _, _, HEND.out⟩
  · have e1 : (K == 1) = false := by simp; exact hk.1
    have e4 : (K == 4) = false := by simp; exact hk.2.1
    have e5 : (K == 5) = false := by simp; exact hk.2.2
    have HAC : Hid (Calls Tryd.prog 11 #[.pointer (some ⟨b, 0, none⟩), .agg #[.int .i64 K, .int .i64 S, .int .i64 n, .string D, .slice fa LN fc]] w7 fun e w' => ∃ vb vs F', ActPost w7 b F RR e w' vb vs F') := by
      show Calls _ _ _ _ _
      rw [HRR.out]
      exact act_all base A b F d w7 HMM.out.dev (HE.out.up HBW.out) HF.out ⟨K, S, n, D, l⟩ _ (HL.out.keep (Below.next HWB.out HBW.out)) HS.out hq
    clear hk
    go_wp2_with fail
    rw [← HW7.out]
    refine HAC.out.mono ?_
    rintro e w8 ⟨vb, vs, F', P8⟩
    obtain rfl := P8.ret
    have M8 := HMM.out.step P8.dev P8.step
    obtain ⟨va', vc', hvb, -⟩ := owns_form P8.rb
    obtain ⟨sa', sc', hvs, -⟩ := owns_form P8.rs
    have hst := said_store w8 p10 zSaid #[.int .i64 (RR.2.err : Int), vb, vs, .int .i64 RR.2.a, .int .i64 RR.2.b, .int .i64 RR.2.c] M8.gotb rfl rfl (by rw [hvb, hvs]; simp [Value.oneCell'])
    obtain ⟨wz, hwz⟩ : ∃ wz, wz = w8.setRow p10 #[.int .i64 (RR.2.err : Int), vb, vs, .int .i64 RR.2.a, .int .i64 RR.2.b, .int .i64 RR.2.c] := ⟨_, rfl⟩
    rw [← hwz] at hst
    rw [HP10.out] at hst
    have HZ : Hid (HM w wz b F' RR.1 ⟨K, S, n, D, l⟩ (.slice fa LN fc) gp cp gl cl p8 p10 #[.int .i64 (RR.2.err : Int), vb, vs, .int .i64 RR.2.a, .int .i64 RR.2.b, .int .i64 RR.2.c] PL) := by show HM _ _ _ _ _ _ _ _ _ _ _ _ _ _ _; rw [hwz]; exact M8.got _
    have HLB : Hid (LA w wz b F F' RR ⟨K, S, n, D, l⟩ (.slice fa LN fc) gp gl p10 PN 0 vb vs) := by
      show LA _ _ _ _ _ _ _ _ _ _ _ _ _ _ _
      rw [HPN.out]
      have hs := (Step.of_below (F := F) HBW.out).trans P8.step
      have hw7 := HBW.out.size
      have hs1 := setRow_step (w := w8) (p := p10) (X := #[.int .i64 (RR.2.err : Int), vb, vs, .int .i64 RR.2.a, .int .i64 RR.2.b, .int .i64 RR.2.c])
      have ty : ∀ k cur e, w8.heap[k]? = some (.cells cur e (0, 0)) → e ≠ 38 → k ≠ p10 := fun k cur e hk he e' => by
        rw [e', M8.gotb] at hk; simp at hk; exact he hk.2.symm
      have weak : ∀ (e size n : Nat) (v : Value) (xs : List Value), w8.ownsRow w7.heap.size e size v n xs → w8.ownsRow w.heap.size e size v n xs := fun e size n v xs h => by
        refine ⟨h.1, h.2.imp id ?_⟩
        rintro ⟨g, cap, cur, h1, h2, h3⟩
        exact ⟨g, cap, cur, h1, by omega, h3⟩
      refine HM.toLA HZ.out ⟨by rw [hwz]; exact hs.os, by rw [hwz]; exact hs.tape, by rw [hwz]; exact hs.output, by rw [hwz]; simp [World.setRow]; exact hs.size, fun k hk hn => ?_, hs.sub⟩ ?_ ?_ (fun g hg => ⟨P8.nb g hg, fun e => ?_⟩) P8.ns
      · rw [hwz, setRow_other (by have := M8.lo.2.1; omega)]
        exact hs.block k hk hn
      · rw [hwz]
        refine owns_step (weak _ _ _ _ _ P8.rb) hs1 (fun g hg => ?_)
        obtain ⟨_, _, cur, hc⟩ := owns_blk P8.rb g hg
        exact ty _ _ _ hc (by decide)
      · rw [hwz]
        refine owns_step (weak _ _ _ _ _ P8.rs) hs1 (fun g hg => ?_)
        obtain ⟨_, _, cur, hc⟩ := owns_blk P8.rs g hg
        exact ty _ _ _ hc (by decide)
      · have h1 := (owns_blk P8.rb g hg).1
        have h2 := (owns_blk HMM.out.prow gp rfl).2.1
        omega
    subst hvb hvs
    clear hwz M8 P8 HAC z0 z1 z2 z3 z4
    obtain ⟨vb, hvb⟩ : ∃ vb, vb = Value.slice va' RR.2.bytes.length vc' := ⟨_, rfl⟩
    obtain ⟨vs, hvs⟩ : ∃ vs, vs = Value.slice sa' RR.2.secs.length sc' := ⟨_, rfl⟩
    rw [← hvb, ← hvs] at HLB
    clear hvb hvs
    go_wp2_with (refine wpList_store_eq rfl 38 _ _ rfl _ _ rfl rfl hst ?_)
    clear hst
    have hp8 := HP8.out
    have hp10 := HP10.out
    subst hp8 hp10
    have t3 : wz.cell? ⟨w.heap.size, 3, none⟩ = some (.string D) := HZ.out.five.s3
    have hfl : (fateCells (l ++ [lastF])).length = (LN + 1) * 4 := by rw [fateCells_len, List.length_append, HLN.out]; rfl
    have hlc : ∀ j u, (fateCells [lastF])[j]? = some u → wz.cell? ⟨gl, LN * 4 + j, none⟩ = some u := fun j u hu => by
      refine owns_cell HZ.out.lrow rfl _ _ ?_
      rw [show (⟨K, S, n, D, l⟩ : Stp).fates = l from rfl, fateCells_app, List.getElem?_append_right (by rw [fateCells_len, HLN.out]; omega), fateCells_len, HLN.out, Nat.add_sub_cancel_left]
      exact hu
    have a0 : wz.cell? ⟨gl, LN * 4, none⟩ = some (.int .i64 (-5)) := hlc 0 _ rfl
    have a1 : wz.cell? ⟨gl, LN * 4 + 1, none⟩ = some (.int .i64 0) := hlc 1 _ rfl
    have a2 : wz.cell? ⟨gl, LN * 4 + 2, none⟩ = some (.int .i64 0) := hlc 2 _ rfl
    have a3 : wz.cell? ⟨gl, LN * 4 + 3, none⟩ = some (.string { data := #[98, 101, 104, 105, 110, 100] }) := hlc 3 _ rfl
    have b0 : wz.cell? ⟨w4.heap.size, 0, none⟩ = some (.int .i64 (-5)) := by rw [cell_of_row _ _ _ _ _ _ HZ.out.last]; rfl
    have b1 : wz.cell? ⟨w4.heap.size, 1, none⟩ = some (.int .i64 0) := by rw [cell_of_row _ _ _ _ _ _ HZ.out.last]; rfl
    have b2 : wz.cell? ⟨w4.heap.size, 2, none⟩ = some (.int .i64 0) := by rw [cell_of_row _ _ _ _ _ _ HZ.out.last]; rfl
    have b3 : wz.cell? ⟨w4.heap.size, 3, none⟩ = some (.string { data := #[98, 101, 104, 105, 110, 100] }) := by rw [cell_of_row _ _ _ _ _ _ HZ.out.last]; rfl
    have hcat : ∀ w', (binOp .add 9 (.string D) (.string { data := #[98, 101, 104, 105, 110, 100] })).run Tryd.prog w' = .ok (.string (D ++ { data := #[98, 101, 104, 105, 110, 100] })) w' := fun w' => by simp [go_sem]; omega
    have hdz : D.size ≤ 9223372036854775801 := by omega
    have hdz2 : D.size + 6 ≤ 9223372036854775807 := by omega
    have hfs := fun w => fate_self w (-5) 0 0 { data := #[98, 101, 104, 105, 110, 100] }
    have hi1 : (0 : Int) ≤ (LN : Int) := Int.natCast_nonneg _
    have hi2 : (LN : Int) < (LN : Int) + 1 := by omega
    have HSB : Hid (∀ w1 v1, Below wz.heap.size wz w1 → w1.ownsRow wz.heap.size 5 1 v1 PN (u8s PL) → Calls Tryd.prog 50 #[.slice (some ⟨gp, 0, none⟩) PN cp, v1] w1 fun e w'' => e = .returned (.bool true) ∧ Below w1.heap.size w1 w'') := fun w1 v1 hb hr => by
      have hpl : PL.length ≤ 140737488355328 := by rw [← HPN.out, HPD.out]; omega
      refine sameb_any PL _ _ w1 ?_ (bytesIn_own (base := wz.heap.size) (by rw [← HPN.out]; exact hr) hpl)
      have h1 := bytesIn_own (owns_below HZ.out.prow hb) hpl
      rw [← HPN.out] at h1
      exact h1
    clear hlc hfl
    go_wp2_with fail
    go_region_held (fun w' => w'.cell? ⟨w.heap.size, 3, none⟩ = some (.string D) ∧ (w'.cell? ⟨gl, LN * 4, none⟩ = some (.int .i64 (-5)) ∧ w'.cell? ⟨gl, LN * 4 + 1, none⟩ = some (.int .i64 0) ∧ w'.cell? ⟨gl, LN * 4 + 2, none⟩ = some (.int .i64 0) ∧ w'.cell? ⟨gl, LN * 4 + 3, none⟩ = some (.string { data := #[98, 101, 104, 105, 110, 100] })) ∧ (w'.cell? ⟨w4.heap.size, 0, none⟩ = some (.int .i64 (-5)) ∧ w'.cell? ⟨w4.heap.size, 1, none⟩ = some (.int .i64 0) ∧ w'.cell? ⟨w4.heap.size, 2, none⟩ = some (.int .i64 0) ∧ w'.cell? ⟨w4.heap.size, 3, none⟩ = some (.string { data := #[98, 101, 104, 105, 110, 100] }))) (go_keep)
      (first
        | (go_at_call 50; refine (HSB.out w10 _ hb10 hr10).mono ?_; rintro e w11 ⟨rfl, hb11'⟩; have hb11 := Below.next hb10 hb11'; have c3 := cell_below hb11 t3; have c0 := cell_below hb11 a0; have c1 := cell_below hb11 a1; have c2 := cell_below hb11 a2; have c4 := cell_below hb11 a3; have d0 := cell_below hb11 b0; have d1 := cell_below hb11 b1; have d2 := cell_below hb11 b2; have d3 := cell_below hb11 b3)
        | (go_at_call 44; refine (HBY.out _).mono ?_; rintro e w10 ⟨v10, rfl, hr10, hbd⟩; have hb10 : Below wz.heap.size wz w10 := (by first | exact undrew hbd | exact hbd); clear hbd; have q3 := cell_below hb10 t3; have q0 := cell_below hb10 a0; have q1 := cell_below hb10 a1; have q2 := cell_below hb10 a2; have q4 := cell_below hb10 a3; have r0 := cell_below hb10 b0; have r1 := cell_below hb10 b1; have r2 := cell_below hb10 b2; have r3 := cell_below hb10 b3; obtain ⟨va10, vc10, rfl, -⟩ := owns_form hr10))
    have HL0 := Hid.mk2 (HLB.out.up hb11)
    clear hb11 hb11' hb10 hr10 c0 c1 c2 c3 c4 d0 d1 d2 d3 q0 q1 q2 q3 q4 r0 r1 r2 r3 a0 a1 a2 a3 b0 b1 b2 b3 t3 HSB HLB HZ
    go_wp2_with fail
    go_loopw [12, 13] (fun u12 u13 wr => ∃ k : Nat, k ≤ LN ∧ u12 = .bool true ∧ u13 = .int .i64 (k : Int) ∧ LA w wr b F F' RR ⟨K, S, n, D, l⟩ (.slice fa LN fc) gp gl w6.heap.size PN k vb vs) (fun _ u13 _ => LN - (intOf u13).toNat)
    case atStart => exact ⟨0, Nat.zero_le _, rfl, rfl, HL0.out⟩
    case round =>
      obtain ⟨k, hk, rfl, rfl, inv⟩ := hrel
      have HI := Hid.mk2 inv
      clear HL0
      by_cases hlt : k < LN
      · have hkl : k < l.length := by rw [← HLN.out]; exact hlt
        have hbW : Below W.heap.size W wr := HWB.out.trans (inv.step.below HWF.out HWB.out.size)
        obtain ⟨fa', fc', fg, fo, hfe, _, hfa', hfc'⟩ := (HL.out.keep hbW).cells
        rw [← HLN.out] at hfe hfa'
        simp only [Value.slice.injEq] at hfe
        obtain ⟨rfl, -, rfl⟩ := hfe
        obtain rfl := hfa' (by omega)
        obtain ⟨f0, f1, f2, f3⟩ := hfc' k hkl
        obtain ⟨cur, hg, hsz, hcur⟩ := inv.lw
        have hsz' : (LN + 1) * 4 ≤ cur.size := by rw [HLN.out]; exact hsz
        obtain ⟨g0, g1, g2, g3⟩ := fateCells_get l k hkl
        have c0 : wr.cell? ⟨gl, k * 4, none⟩ = some (.int .i64 l[k].ix) := by rw [cell_of_row _ _ _ _ _ _ hg, hcur (k * 4) (by omega) (by show _ < l.length * 4; omega)]; exact g0
        have c1 : wr.cell? ⟨gl, k * 4 + 1, none⟩ = some (.int .i64 l[k].kind) := by rw [cell_of_row _ _ _ _ _ _ hg, hcur (k * 4 + 1) (by omega) (by show _ < l.length * 4; omega)]; exact g1
        have c2 : wr.cell? ⟨gl, k * 4 + 2, none⟩ = some (.int .i64 l[k].cut) := by rw [cell_of_row _ _ _ _ _ _ hg, hcur (k * 4 + 2) (by omega) (by show _ < l.length * 4; omega)]; exact g2
        have c3 : wr.cell? ⟨gl, k * 4 + 3, none⟩ = some (.string l[k].junk) := by rw [cell_of_row _ _ _ _ _ _ hg, hcur (k * 4 + 3) (by omega) (by show _ < l.length * 4; omega)]; exact g3
        have z0 : wr.frozen? ⟨gl, k * 4, none⟩ = false := frozen_row hg
        have z1 : wr.frozen? ⟨gl, k * 4 + 1, none⟩ = false := frozen_row hg
        have z2 : wr.frozen? ⟨gl, k * 4 + 2, none⟩ = false := frozen_row hg
        have z3 : wr.frozen? ⟨gl, k * 4 + 3, none⟩ = false := frozen_row hg
        have t4 : wr.cell? ⟨w.heap.size, 4, none⟩ = some (.slice (some ⟨fg, fo, none⟩) LN fc) := inv.five.s4
        generalize l[k] = fk at *
        obtain ⟨fi, fk', fcu, fj⟩ := fk
        simp only [] at f0 f1 f2 f3 c0 c1 c2 c3
        have hfs2 := fun w => fate_self w fi fk' fcu fj
        have k0 : (0 : Int) ≤ (k : Int) := Int.natCast_nonneg _
        have k1 : (k : Int) < (LN : Int) := by omega
        have k2 : (k : Int) < (LN : Int) + 1 := by omega
        clear inv hg hsz hcur hsz' g0 g1 g2 g3 hfc' hfa' hbW hfs
        have HSP := fun m => (LA.up HI.out (below_drewN (Below.refl _ wr) m)).spoil (.int .i64 0) (.int .i64 3) (.int .i64 0) (.string { data := #[115, 112, 111, 105, 108, 116] })
        have HSPH := Hid.mk2 HSP
        clear HSP
        go_wp2_with fail
        go_quiet (fail)
        go_wp2_with fail
        go_roundw
        case rel => exact ⟨k + 1, by omega, rfl, by go_num, HSPH.out _⟩
        case measure => simp [intOf]; omega
      · have k1 : ¬ (k : Int) < (LN : Int) := by omega
        have hPNb : PN ≤ 1048582 := by rw [HPD.out]; omega
        clear inv
        go_wp2_with fail
        go_loopw [14] (fun u14 wr => ∃ j : Nat, j ≤ PN ∧ u14 = .int .i64 (j : Int) ∧ LA w wr b F F' RR ⟨K, S, n, D, l⟩ (.slice fa LN fc) gp gl w6.heap.size PN k vb vs) (fun u14 _ => PN - (intOf u14).toNat)
        case atStart => exact ⟨0, Nat.zero_le _, rfl, HI.out⟩
        case round =>
          obtain ⟨j, hj, rfl, inv⟩ := hrel
          have HJ := Hid.mk2 inv
          clear HI
          by_cases hjl : j < PN
          · obtain ⟨cur, hg, hsz⟩ := inv.pw
            have c0 : wr.cell? ⟨gp, j, none⟩ = some (cur[j]'(by omega)) := (cell_of_row wr gp j _ _ _ hg).trans (Array.getElem?_eq_getElem (by omega))
            have z0 : wr.frozen? ⟨gp, j, none⟩ = false := frozen_row hg
            have j0 : (0 : Int) ≤ (j : Int) := Int.natCast_nonneg _
            have j1 : (j : Int) < (PN : Int) := by omega
            have HBL := Hid.mk2 (HJ.out.blot j (.int .u8 238))
            clear inv hg
            go_wp2_with fail
            go_roundw
            case rel => exact ⟨j + 1, by omega, by go_num, HBL.out⟩
            case measure => simp [intOf]; omega
          · have j1 : ¬ (j : Int) < (PN : Int) := by omega
            obtain ⟨va, vn, vc, rfl⟩ : ∃ a n c, vb = .slice a n c := by obtain ⟨a, c, h, _⟩ := owns_form inv.rb; exact ⟨a, _, c, h⟩
            obtain ⟨sa, sn, sc, rfl⟩ : ∃ a n c, vs = .slice a n c := by obtain ⟨a, c, h, _⟩ := owns_form inv.rs; exact ⟨a, _, c, h⟩
            have hgb := inv.gotb
            have c0 : wr.cell? ⟨w6.heap.size, 0, none⟩ = some (.int .i64 (RR.2.err : Int)) := by rw [cell_of_row _ _ _ _ _ _ hgb]; rfl
            have c1 : wr.cell? ⟨w6.heap.size, 1, none⟩ = some (.slice va vn vc) := by rw [cell_of_row _ _ _ _ _ _ hgb]; rfl
            have c2 : wr.cell? ⟨w6.heap.size, 2, none⟩ = some (.slice sa sn sc) := by rw [cell_of_row _ _ _ _ _ _ hgb]; rfl
            have c3 : wr.cell? ⟨w6.heap.size, 3, none⟩ = some (.int .i64 RR.2.a) := by rw [cell_of_row _ _ _ _ _ _ hgb]; rfl
            have c4 : wr.cell? ⟨w6.heap.size, 4, none⟩ = some (.int .i64 RR.2.b) := by rw [cell_of_row _ _ _ _ _ _ hgb]; rfl
            have c5 : wr.cell? ⟨w6.heap.size, 5, none⟩ = some (.int .i64 RR.2.c) := by rw [cell_of_row _ _ _ _ _ _ hgb]; rfl
            have hst := said_store wr (w.heap.size + 1) zSaid #[.int .i64 (RR.2.err : Int), .slice va vn vc, .slice sa sn sc, .int .i64 RR.2.a, .int .i64 RR.2.b, .int .i64 RR.2.c] inv.res rfl rfl (by simp [Value.oneCell'])
            have HRW := Hid.mk2 (setRow_heap wr (w.heap.size + 1) zSaid #[.int .i64 (RR.2.err : Int), .slice va vn vc, .slice sa sn sc, .int .i64 RR.2.a, .int .i64 RR.2.b, .int .i64 RR.2.c] _ _ inv.res)
            have hp1 := inv.lo
            have hs1 := setRow_step (w := wr) (p := w.heap.size + 1) (X := #[.int .i64 (RR.2.err : Int), .slice va vn vc, .slice sa sn sc, .int .i64 RR.2.a, .int .i64 RR.2.b, .int .i64 RR.2.c])
            have hF1 := inv.n1
            have HEND : Hid (HandP w b F RR (.returned (.tuple #[.agg #[.int .i64 (RR.2.err : Int), .slice va vn vc, .slice sa sn sc, .int .i64 RR.2.a, .int .i64 RR.2.b, .int .i64 RR.2.c], .bool true])) (wr.setRow (w.heap.size + 1) #[.int .i64 (RR.2.err : Int), .slice va vn vc, .slice sa sn sc, .int .i64 RR.2.a, .int .i64 RR.2.b, .int .i64 RR.2.c]) (.slice va vn vc) (.slice sa sn sc) F') := by
              have ty : ∀ k cur e, wr.heap[k]? = some (.cells cur e (0, 0)) → e ≠ 38 → k ≠ w.heap.size + 1 := fun k cur e hk he e' => by
                rw [e', inv.res] at hk; simp at hk; exact he hk.2.symm
              refine ⟨rfl, owns_step inv.rb hs1 (fun g hg => ?_), owns_step inv.rs hs1 (fun g hg => ?_), inv.dev.keep hs1 (fun i hi e => hF1 (by rw [← e]; exact hi)), ?_, fun g hg => (inv.nb g hg).1, inv.ns⟩
              · obtain ⟨_, _, cur, hc⟩ := owns_blk inv.rb g hg
                exact ty _ _ _ hc (by decide)
              · obtain ⟨_, _, cur, hc⟩ := owns_blk inv.rs g hg
                exact ty _ _ _ hc (by decide)
              · refine ⟨hs1.os.trans inv.step.os, hs1.tape.trans inv.step.tape, hs1.output.trans inv.step.output, Nat.le_trans inv.step.size hs1.size, fun i hi hn => ?_, inv.step.sub⟩
                exact (hs1.block i (Nat.lt_of_lt_of_le hi inv.step.size) (by omega)).trans (inv.step.block i hi hn)
            clear inv hgb hs1 hF1
            go_wp2_with (refine wpList_store_eq rfl 38 _ _ rfl _ _ rfl rfl hst ?_)
            (try simp only [Exit.inBlock, Exit.then])
            refine bodyPost_ret (results_row_tmp rfl _ _ (w.heap.size + 1) 38 _ (0, 0) _ rfl HRW.out Tryd.underlying38 rfl (by rw [sizeSaid]; rfl)) rfl ?_
            exact ⟨_, _, _, HEND.out⟩

end Go.Proofs.YtdieacdkomiooabDoor

namespace Go.Proofs.YtdieacdkomiooabDoor
open Go.RowKit Go.Maps

/-- A row reads so long as its block does. -/
theorem owns_pre {w : World} {base e size n m cap g : Nat} {xs : List Value} (h : w.ownsRow base e size (.slice (some ⟨g, 0, none⟩) n cap) n xs) (hm : m ≤ n) : w.ownsRow base e size (.slice (some ⟨g, 0, none⟩) m cap) m (xs.take (m * size)) := by
  have hl := h.1
  have hms : m * size ≤ n * size := Nat.mul_le_mul_right _ hm
  rcases h.2 with ⟨h', _⟩ | ⟨g', cap', cur, h', h1, h2, h3, h4, h5, h6⟩
  · cases h'
  · simp only [Value.slice.injEq, Option.some.injEq, Addr.mk.injEq, and_true, true_and] at h'
    obtain ⟨rfl, rfl⟩ := h'
    refine ⟨by rw [List.length_take]; omega, .inr ⟨g, cap, cur, rfl, h1, h2, by omega, h4, h5, ?_⟩⟩
    rw [← h6, List.take_take, Nat.min_eq_left hms]
theorem info5 : (Tryd.prog.info? 5).map (fun i => (i.zero, i.size, i.bytes)) = some (some (.int .u8 0), 1, 1) := by kernel_rfl
theorem add_plain5 (b o c : Nat) : (⟨b, o, none⟩ : Addr).add c = ⟨b, o + c, none⟩ := by
  unfold Addr.add
  split
  · rename_i h; rw [h, Nat.add_zero]
  · rfl

/-- A list is grown by one element: in its own block, or in a new one. -/
theorem grow_b {w : World} {n c : Nat} {a : Option Addr} {xs : List Value} {base : Nat} (x : Int) (t : TypeId) (h : w.ownsRow base 5 1 (.slice a n c) n xs) (hn : n ≤ 5864062014700) (hbase : base ≤ w.heap.size) :
    ∃ a' c' w', (Builtin.append_ #[36, 36] 36 #[.slice a n c, .slice (some ⟨w.heap.size, 0, none⟩) 1 1]).run Tryd.prog (w.alloc (.cells #[.int .u8 x] t)) = .ok (.slice a' (n + 1) c') w' ∧ w'.ownsRow base 5 1 (.slice a' (n + 1) c') (n + 1) (xs ++ [.int .u8 x]) ∧
      ((∃ g, a = some ⟨g, 0, none⟩ ∧ a' = a ∧ c' = c ∧ w.heap.size ≤ w'.heap.size ∧ w'.os = w.os ∧ w'.tape = w.tape ∧ w'.output = w.output ∧ ∀ k, k < w.heap.size → k ≠ g → w'.heap[k]? = w.heap[k]?) ∨ (Below w.heap.size w w' ∧ ∃ g, a' = some ⟨g, 0, none⟩ ∧ w.heap.size ≤ g)) := by
  obtain ⟨i0, hi, hz, hsz, hby⟩ := info_parts info5
  have hb := below_new w (.cells #[.int .u8 x] t)
  have h2 := owns_below h hb
  have hone : ∀ u ∈ ([.int .u8 x] : List Value), u.oneCell' = true := by intro u hu; simp at hu; subst hu; rfl
  have hnews : ∀ j u, ([.int .u8 x] : List Value)[j]? = some u → (w.alloc (.cells #[.int .u8 x] t)).cell? ((⟨w.heap.size, 0, none⟩ : Addr).add j) = some u := fun j u hj => by
    have hbx := boxed_new w #[.int .u8 x] t
    have hj' : j < 1 := by have := (List.getElem?_eq_some_iff.1 hj).1; simpa using this
    rw [add_plain5, Nat.zero_add]
    have e := hbx.2 j hj'
    rw [e]
    rw [List.getElem?_eq_getElem hj'] at hj
    exact hj
  rcases h2.2 with ⟨h', h0⟩ | ⟨g, cap, cur, h', hbg, hg, hnc, hcm, hcs, htk⟩
  · simp only [Value.slice.injEq] at h'
    obtain ⟨rfl, -, rfl⟩ := h'
    subst h0
    obtain rfl : xs = [] := List.length_eq_zero_iff.1 (by have := h.1; omega)
    obtain ⟨v', w', hr, ho, hgr, _⟩ := run_append_own (P := Tryd.prog) (w.alloc (.cells #[.int .u8 x] t)) w.heap.size 36 36 5 i0 _ 1 1 Tryd.underlying36 hi hz hsz hby rfl (by decide) (.slice none 0 0) 0 [] (World.ownsRow_nil _ _ _ _) ⟨w.heap.size, 0, none⟩ 1 1 [.int .u8 x] rfl hnews hone (by decide) (by decide) (by simp)
    obtain ⟨g', c', rfl, hb', _⟩ := World.ownsRow.form ho (by decide)
    have hbw : Below w.heap.size w w' := hb.grown hgr (by simp) (fun j hj => by cases hj)
    refine ⟨_, c', w', hr, ?_, .inr ⟨hbw, g', rfl, hb'⟩⟩
    have ho' : w'.ownsRow w.heap.size 5 1 (.slice (some ⟨g', 0, none⟩) (0 + 1) c') (0 + 1) ([] ++ [.int .u8 x]) := ho
    exact ⟨ho'.1, ho'.2.imp id fun ⟨g, cap, cur, q1, q2, q3⟩ => ⟨g, cap, cur, q1, Nat.le_trans hbase q2, q3⟩⟩
  · simp only [Value.slice.injEq] at h'
    obtain ⟨rfl, -, rfl⟩ := h'
    by_cases hroom : n + 1 ≤ c
    · obtain ⟨w', hr, ho, hgr⟩ := run_append_own_spare (P := Tryd.prog) (w.alloc (.cells #[.int .u8 x] t)) base 36 36 5 i0 1 Tryd.underlying36 hi hsz g n c xs h2 ⟨w.heap.size, 0, none⟩ 1 1 [.int .u8 x] rfl hnews hone hroom
      exact ⟨_, c, w', hr, ho, .inl ⟨g, rfl, rfl, rfl, Nat.le_trans hb.size hgr.size, hgr.os.trans hb.os, hgr.tape.trans hb.tape, hgr.output.trans hb.output, fun k hk hn => (hgr.block k (Nat.lt_of_lt_of_le hk hb.size) (fun e => hn (by simpa using e))).trans (hb.block k hk)⟩⟩
    · obtain ⟨v', w', hr, ho, hgr⟩ := run_append_arg_grows (P := Tryd.prog) (w.alloc (.cells #[.int .u8 x] t)) 36 36 5 i0 _ 1 1 Tryd.underlying36 hi hz hsz hby rfl (by decide) ⟨g, 0, none⟩ n c xs h.1 (fun j u hj => by
        have hj' := (List.getElem?_eq_some_iff.1 hj).1
        rw [h.1] at hj'
        rw [add_plain5, Nat.zero_add, World.ownsRow.cellAt h2 j hj']; exact hj) ⟨w.heap.size, 0, none⟩ 1 1 [.int .u8 x] rfl hnews (by omega) (by unfold maxLen; omega) (by omega)
      obtain ⟨g', c', rfl, hb', hl'⟩ := World.ownsRow.form ho (by omega)
      have hbw : Below w.heap.size w w' := hb.grown hgr (by simp) (fun j hj => by cases hj)
      refine ⟨_, c', w', hr, ?_, .inr ⟨hbw, g', rfl, by simp at hb'; omega⟩⟩
      exact ⟨ho.1, ho.2.imp id fun ⟨g, cap, cur, q1, q2, q3⟩ => ⟨g, cap, cur, q1, by simp at q2; omega, q3⟩⟩

/-- A list is grown by one element: in its own block, or in a new one. -/
theorem grow_s {w : World} {n c : Nat} {a : Option Addr} {xs : List Value} {base : Nat} (x : Int) (y : ByteArray) (t : TypeId) (h : w.ownsRow base 68 2 (.slice a n c) n xs) (hn : n ≤ 5864062014700) (hbase : base ≤ w.heap.size) :
    ∃ a' c' w', (Builtin.append_ #[22, 22] 22 #[.slice a n c, .slice (some ⟨w.heap.size, 0, none⟩) 1 1]).run Tryd.prog (w.alloc (.cells #[.int .i64 x, .string y] t)) = .ok (.slice a' (n + 1) c') w' ∧ w'.ownsRow base 68 2 (.slice a' (n + 1) c') (n + 1) (xs ++ [.int .i64 x, .string y]) ∧
      ((∃ g, a = some ⟨g, 0, none⟩ ∧ a' = a ∧ c' = c ∧ w.heap.size ≤ w'.heap.size ∧ w'.os = w.os ∧ w'.tape = w.tape ∧ w'.output = w.output ∧ ∀ k, k < w.heap.size → k ≠ g → w'.heap[k]? = w.heap[k]?) ∨ (Below w.heap.size w w' ∧ ∃ g, a' = some ⟨g, 0, none⟩ ∧ w.heap.size ≤ g)) := by
  obtain ⟨i0, hi, hz, hsz, hby⟩ := info_parts Tryd.info68
  have hb := below_new w (.cells #[.int .i64 x, .string y] t)
  have h2 := owns_below h hb
  have hone : ∀ u ∈ ([.int .i64 x, .string y] : List Value), u.oneCell' = true := by intro u hu; simp at hu; rcases hu with rfl | rfl <;> rfl
  have hnews : ∀ j u, ([.int .i64 x, .string y] : List Value)[j]? = some u → (w.alloc (.cells #[.int .i64 x, .string y] t)).cell? ((⟨w.heap.size, 0, none⟩ : Addr).add j) = some u := fun j u hj => by
    have hbx := boxed_new w #[.int .i64 x, .string y] t
    have hj' : j < 2 := by have := (List.getElem?_eq_some_iff.1 hj).1; simpa using this
    rw [add_plain5, Nat.zero_add]
    have e := hbx.2 j hj'
    rw [e]
    rw [List.getElem?_eq_getElem hj'] at hj
    exact hj
  rcases h2.2 with ⟨h', h0⟩ | ⟨g, cap, cur, h', hbg, hg, hnc, hcm, hcs, htk⟩
  · simp only [Value.slice.injEq] at h'
    obtain ⟨rfl, -, rfl⟩ := h'
    subst h0
    obtain rfl : xs = [] := List.length_eq_zero_iff.1 (by have := h.1; omega)
    obtain ⟨v', w', hr, ho, hgr, _⟩ := run_append_own (P := Tryd.prog) (w.alloc (.cells #[.int .i64 x, .string y] t)) w.heap.size 22 22 68 i0 _ 2 24 Tryd.underlying22 hi hz hsz hby rfl (by decide) (.slice none 0 0) 0 [] (World.ownsRow_nil _ _ _ _) ⟨w.heap.size, 0, none⟩ 1 1 [.int .i64 x, .string y] rfl hnews hone (by decide) (by decide) (by simp)
    obtain ⟨g', c', rfl, hb', _⟩ := World.ownsRow.form ho (by decide)
    have hbw : Below w.heap.size w w' := hb.grown hgr (by simp) (fun j hj => by cases hj)
    refine ⟨_, c', w', hr, ?_, .inr ⟨hbw, g', rfl, hb'⟩⟩
    have ho' : w'.ownsRow w.heap.size 68 2 (.slice (some ⟨g', 0, none⟩) (0 + 1) c') (0 + 1) ([] ++ [.int .i64 x, .string y]) := ho
    exact ⟨ho'.1, ho'.2.imp id fun ⟨g, cap, cur, q1, q2, q3⟩ => ⟨g, cap, cur, q1, Nat.le_trans hbase q2, q3⟩⟩
  · simp only [Value.slice.injEq] at h'
    obtain ⟨rfl, -, rfl⟩ := h'
    by_cases hroom : n + 1 ≤ c
    · obtain ⟨w', hr, ho, hgr⟩ := run_append_own_spare (P := Tryd.prog) (w.alloc (.cells #[.int .i64 x, .string y] t)) base 22 22 68 i0 2 Tryd.underlying22 hi hsz g n c xs h2 ⟨w.heap.size, 0, none⟩ 1 1 [.int .i64 x, .string y] rfl hnews hone hroom
      exact ⟨_, c, w', hr, ho, .inl ⟨g, rfl, rfl, rfl, Nat.le_trans hb.size hgr.size, hgr.os.trans hb.os, hgr.tape.trans hb.tape, hgr.output.trans hb.output, fun k hk hn => (hgr.block k (Nat.lt_of_lt_of_le hk hb.size) (fun e => hn (by simpa using e))).trans (hb.block k hk)⟩⟩
    · obtain ⟨v', w', hr, ho, hgr⟩ := run_append_arg_grows (P := Tryd.prog) (w.alloc (.cells #[.int .i64 x, .string y] t)) 22 22 68 i0 _ 2 24 Tryd.underlying22 hi hz hsz hby rfl (by decide) ⟨g, 0, none⟩ n c xs h.1 (fun j u hj => by
        have hj' := (List.getElem?_eq_some_iff.1 hj).1
        rw [h.1] at hj'
        rw [add_plain5, Nat.zero_add, World.ownsRow.cellAt h2 j hj']; exact hj) ⟨w.heap.size, 0, none⟩ 1 1 [.int .i64 x, .string y] rfl hnews (by omega) (by unfold maxLen; omega) (by omega)
      obtain ⟨g', c', rfl, hb', hl'⟩ := World.ownsRow.form ho (by omega)
      have hbw : Below w.heap.size w w' := hb.grown hgr (by simp) (fun j hj => by cases hj)
      refine ⟨_, c', w', hr, ?_, .inr ⟨hbw, g', rfl, by simp at hb'; omega⟩⟩
      exact ⟨ho.1, ho.2.imp id fun ⟨g, cap, cur, q1, q2, q3⟩ => ⟨g, cap, cur, q1, by simp at q2; omega, q3⟩⟩

end Go.Proofs.YtdieacdkomiooabDoor

namespace Go.Proofs.YtdieacdkomiooabDoor
open Go.RowKit Go.Maps

/-- The blocks of some lists. -/
def inL (L : List Value) (k : Nat) : Prop := ∃ v ∈ L, v.ownBlock = some k
theorem inL_get {L : List Value} {i : Nat} {v : Value} {k : Nat} (h : L[i]? = some v) (hk : v.ownBlock = some k) : inL L k := ⟨v, List.mem_of_getElem? h, hk⟩
theorem inL_some {L : List Value} {k : Nat} (h : inL L k) : ∃ (i : Nat) (v : Value), L[i]? = some v ∧ v.ownBlock = some k := by
  obtain ⟨v, hv, hk⟩ := h
  obtain ⟨i, hi⟩ := List.mem_iff_getElem?.1 hv
  exact ⟨i, v, hi, hk⟩
/-- Lists that were handed out: each in a block of its own. -/
structure RowsA (w : World) (base E z : Nat) (L : List Value) (C : Nat → List Value) : Prop where
  own : ∀ (i : Nat) (v : Value), L[i]? = some v → ∃ a n c, v = .slice a n c ∧ w.ownsRow base E z v n (C i) ∧ n ≤ 5864062014000
  apart : ∀ (i j : Nat) (v u : Value) (g : Nat), L[i]? = some v → L[j]? = some u → v.ownBlock = some g → u.ownBlock = some g → i = j
theorem RowsA.blk {w : World} {base E z : Nat} {L : List Value} {C : Nat → List Value} (h : RowsA w base E z L C) {k : Nat} (hk : inL L k) : base ≤ k ∧ k < w.heap.size ∧ ∃ cur, w.heap[k]? = some (.cells cur E (0, 0)) := by
  obtain ⟨i, v, hi, hv⟩ := inL_some hk
  obtain ⟨a, n, c, rfl, h1, _⟩ := h.own i v hi
  exact owns_blk h1 k hv
theorem RowsA.same {w w' : World} {base E z : Nat} {L : List Value} {C : Nat → List Value} (h : RowsA w base E z L C) (hb : ∀ k, inL L k → w'.heap[k]? = w.heap[k]?) : RowsA w' base E z L C :=
  ⟨fun i v hi => by
    obtain ⟨a, n, c, rfl, h1, h2⟩ := h.own i v hi
    exact ⟨a, n, c, rfl, owns_block h1 (fun g hg => hb g (inL_get hi hg)), h2⟩, h.apart⟩
/-- One of the lists has turned. -/
theorem RowsA.turn {w w' : World} {base E z : Nat} {L : List Value} {C : Nat → List Value} (h : RowsA w base E z L C) {i : Nat} {a : Option Addr} {n c : Nat} {xs : List Value} (hi : L[i]? = some (.slice a n c)) (hn : n ≤ 5864062014000) (ho : w'.ownsRow base E z (.slice a n c) n xs)
    (hb : ∀ k, inL L k → (Value.slice a n c).ownBlock ≠ some k → w'.heap[k]? = w.heap[k]?) : RowsA w' base E z L (fun j => if j = i then xs else C j) :=
  ⟨fun j v hj => by
    by_cases e : j = i
    · subst e
      rw [hi] at hj
      cases hj
      exact ⟨a, n, c, rfl, by simpa using ho, hn⟩
    · obtain ⟨a', n', c', rfl, h1, h2⟩ := h.own j v hj
      refine ⟨a', n', c', rfl, ?_, h2⟩
      rw [if_neg e]
      exact owns_block h1 (fun g hg => hb g (inL_get hj hg) (fun hg' => e (h.apart j i _ _ g hj hi hg hg'))), h.apart⟩

/-- All that full looks at. -/
structure FS (w0 w : World) (base pm : Nat) (bv sv : Value) (LB LS : List Value) (CB CS : Nat → List Value) : Prop where
  blk : w.heap[pm]? = some (.cells #[bv, sv] 64 (0, 0))
  brow : w.ownsRow base 36 1 bv LB.length LB
  srow : w.ownsRow base 22 1 sv LS.length LS
  rb : RowsA w base 5 1 LB CB
  rs : RowsA w base 68 2 LS CS
  step : Step (fun k => inL LB k ∨ inL LS k) (fun k => inL LB k ∨ inL LS k) w0 w
  lt : ∀ k, inL LB k ∨ inL LS k → k < w0.heap.size
  lo : base ≤ w0.heap.size
theorem FS.below {w0 w w' : World} {base pm : Nat} {bv sv : Value} {LB LS : List Value} {CB CS : Nat → List Value} (h : FS w0 w base pm bv sv LB LS CB CS) (hb : Below w.heap.size w w') : FS w0 w' base pm bv sv LB LS CB CS :=
  ⟨(hb.block pm ((Array.getElem?_eq_some_iff.1 h.blk).1)).trans h.blk, owns_below h.brow hb, owns_below h.srow hb, h.rb.same (fun k hk => hb.block k (h.rb.blk hk).2.1), h.rs.same (fun k hk => hb.block k (h.rs.blk hk).2.1), h.step.trans (Step.of_below hb), h.lt, h.lo⟩
/-- Only one of the blocks of bytes has turned, or a block that is new. -/
theorem FS.turnB {w0 w w' : World} {base pm : Nat} {bv sv : Value} {LB LS : List Value} {CB CS CB' : Nat → List Value} (h : FS w0 w base pm bv sv LB LS CB CS) (g : Nat) (hos : w'.os = w.os) (htp : w'.tape = w.tape) (hou : w'.output = w.output) (hsz : w.heap.size ≤ w'.heap.size) (hblk : ∀ k, k < w.heap.size → k ≠ g → w'.heap[k]? = w.heap[k]?)
    (hg : ∃ cur, w.heap[g]? = some (.cells cur 5 (0, 0))) (hin : inL LB g ∨ w0.heap.size ≤ g) (hr : RowsA w' base 5 1 LB CB') : FS w0 w' base pm bv sv LB LS CB' CS := by
  obtain ⟨cur, hg⟩ := hg
  have ty : ∀ (k : Nat) (c : Array Value) (e : TypeId), w.heap[k]? = some (Obj.cells c e (0, 0)) → e ≠ 5 → w'.heap[k]? = w.heap[k]? := fun k c e hk he => hblk k ((Array.getElem?_eq_some_iff.1 hk).1) (fun e' => by rw [e', hg] at hk; simp at hk; exact he hk.2.symm)
  refine ⟨(ty _ _ _ h.blk (by decide)).trans h.blk, owns_block h.brow (fun k hk => ?_), owns_block h.srow (fun k hk => ?_), hr, h.rs.same (fun k hk => ?_), ⟨hos.trans h.step.os, htp.trans h.step.tape, hou.trans h.step.output, Nat.le_trans h.step.size hsz, fun k hk hn => ?_, fun _ h => .inl h⟩, h.lt, h.lo⟩
  · obtain ⟨_, _, c, hc⟩ := owns_blk h.brow k hk
    exact ty _ _ _ hc (by decide)
  · obtain ⟨_, _, c, hc⟩ := owns_blk h.srow k hk
    exact ty _ _ _ hc (by decide)
  · obtain ⟨_, _, c, hc⟩ := h.rs.blk hk
    exact ty _ _ _ hc (by decide)
  · refine (hblk k (Nat.lt_of_lt_of_le hk h.step.size) (fun e => ?_)).trans (h.step.block k hk hn)
    rcases hin with h1 | h1
    · exact hn (.inl (by rw [e]; exact h1))
    · omega
theorem FS.turnS {w0 w w' : World} {base pm : Nat} {bv sv : Value} {LB LS : List Value} {CB CS CS' : Nat → List Value} (h : FS w0 w base pm bv sv LB LS CB CS) (g : Nat) (hos : w'.os = w.os) (htp : w'.tape = w.tape) (hou : w'.output = w.output) (hsz : w.heap.size ≤ w'.heap.size) (hblk : ∀ k, k < w.heap.size → k ≠ g → w'.heap[k]? = w.heap[k]?)
    (hg : ∃ cur, w.heap[g]? = some (.cells cur 68 (0, 0))) (hin : inL LS g ∨ w0.heap.size ≤ g) (hr : RowsA w' base 68 2 LS CS') : FS w0 w' base pm bv sv LB LS CB CS' := by
  obtain ⟨cur, hg⟩ := hg
  have ty : ∀ (k : Nat) (c : Array Value) (e : TypeId), w.heap[k]? = some (Obj.cells c e (0, 0)) → e ≠ 68 → w'.heap[k]? = w.heap[k]? := fun k c e hk he => hblk k ((Array.getElem?_eq_some_iff.1 hk).1) (fun e' => by rw [e', hg] at hk; simp at hk; exact he hk.2.symm)
  refine ⟨(ty _ _ _ h.blk (by decide)).trans h.blk, owns_block h.brow (fun k hk => ?_), owns_block h.srow (fun k hk => ?_), h.rb.same (fun k hk => ?_), hr, ⟨hos.trans h.step.os, htp.trans h.step.tape, hou.trans h.step.output, Nat.le_trans h.step.size hsz, fun k hk hn => ?_, fun _ h => .inl h⟩, h.lt, h.lo⟩
  · obtain ⟨_, _, c, hc⟩ := owns_blk h.brow k hk
    exact ty _ _ _ hc (by decide)
  · obtain ⟨_, _, c, hc⟩ := owns_blk h.srow k hk
    exact ty _ _ _ hc (by decide)
  · obtain ⟨_, _, c, hc⟩ := h.rb.blk hk
    exact ty _ _ _ hc (by decide)
  · refine (hblk k (Nat.lt_of_lt_of_le hk h.step.size) (fun e => ?_)).trans (h.step.block k hk hn)
    rcases hin with h1 | h1
    · exact hn (.inr (by rw [e]; exact h1))
    · omega
theorem setCell_blk {w : World} {g j k : Nat} {u : Value} (h : k ≠ g) : (w.setCell ⟨g, j, none⟩ u).heap[k]? = w.heap[k]? := Below.heap_setCell w ⟨g, j, none⟩ u k (fun e => h e)
/-- A byte is stored. -/
theorem FS.setB {w0 w : World} {base pm : Nat} {bv sv : Value} {LB LS : List Value} {CB CS : Nat → List Value} (h : FS w0 w base pm bv sv LB LS CB CS) {i g n c : Nat} (hi : LB[i]? = some (.slice (some ⟨g, 0, none⟩) n c)) (j : Nat) (u : Value) : FS w0 (w.setCell ⟨g, j, none⟩ u) base pm bv sv LB LS (fun k => if k = i then (CB i).set j u else CB k) CS := by
  obtain ⟨a', n', c', he, h1, h2⟩ := h.rb.own i _ hi
  simp only [Value.slice.injEq] at he
  obtain ⟨-, rfl, rfl⟩ := he
  have hin : inL LB g := inL_get hi rfl
  obtain ⟨_, _, cur, hc⟩ := h.rb.blk hin
  exact h.turnB g rfl rfl rfl (by simp [World.setCell]) (fun k _ hk => setCell_blk hk) ⟨cur, hc⟩ (.inl hin) (h.rb.turn hi h2 (h1.stored j u).1 (fun k _ hk => setCell_blk (fun e => hk (by rw [e]; rfl))))
/-- A sector is stored. -/
theorem FS.setS {w0 w : World} {base pm : Nat} {bv sv : Value} {LB LS : List Value} {CB CS : Nat → List Value} (h : FS w0 w base pm bv sv LB LS CB CS) {i g n c : Nat} (hi : LS[i]? = some (.slice (some ⟨g, 0, none⟩) n c)) (j : Nat) (u v : Value) : FS w0 ((w.setCell ⟨g, j * 2, none⟩ u).setCell ⟨g, j * 2 + 1, none⟩ v) base pm bv sv LB LS CB (fun k => if k = i then ((CS i).set (j * 2) u).set (j * 2 + 1) v else CS k) := by
  obtain ⟨a', n', c', he, h1, h2⟩ := h.rs.own i _ hi
  simp only [Value.slice.injEq] at he
  obtain ⟨-, rfl, rfl⟩ := he
  have hin : inL LS g := inL_get hi rfl
  obtain ⟨_, _, cur, hc⟩ := h.rs.blk hin
  exact h.turnS g rfl rfl rfl (by simp [World.setCell]) (fun k _ hk => (setCell_blk hk).trans (setCell_blk hk)) ⟨cur, hc⟩ (.inl hin) (h.rs.turn hi h2 (((h1.stored (j * 2) u).1).stored (j * 2 + 1) v).1 (fun k _ hk => (setCell_blk (fun e => hk (by rw [e]; rfl))).trans (setCell_blk (fun e => hk (by rw [e]; rfl)))))
/-- A list that grows out of one of the lists of bytes. -/
structure GB (w0 w : World) (base pm : Nat) (bv sv : Value) (LB LS : List Value) (CB CS : Nat → List Value) (i m q : Nat) (vi : Value) (a : Option Addr) (c : Nat) : Prop where
  fs : FS w0 w base pm bv sv LB LS CB CS
  own : w.ownsRow base 5 1 (.slice a (m + q) c) (m + q) (CB i ++ List.replicate q (.int .u8 255))
  whr : vi = .slice a m c ∨ ∃ g, a = some ⟨g, 0, none⟩ ∧ w0.heap.size ≤ g
theorem GB.step {w0 w : World} {base pm : Nat} {bv sv : Value} {LB LS : List Value} {CB CS : Nat → List Value} {i m q : Nat} {vi : Value} {a : Option Addr} {c : Nat} (h : GB w0 w base pm bv sv LB LS CB CS i m q vi a c) (hi : LB[i]? = some vi) (hm : (CB i).length = m) (hq : q ≤ 64) (hmn : m ≤ 5864062014000) (t : TypeId) :
    ∃ a' c' w', (Builtin.append_ #[36, 36] 36 #[.slice a (m + q) c, .slice (some ⟨w.heap.size, 0, none⟩) 1 1]).run Tryd.prog (w.alloc (.cells #[.int .u8 255] t)) = .ok (.slice a' (m + q + 1) c') w' ∧ GB w0 w' base pm bv sv LB LS CB CS i m (q + 1) vi a' c' := by
  have hbase : base ≤ w.heap.size := Nat.le_trans h.fs.lo h.fs.step.size
  obtain ⟨a', c', w', hr, ho, hcase⟩ := grow_b 255 t h.own (by omega) hbase
  have ho' : w'.ownsRow base 5 1 (.slice a' (m + (q + 1)) c') (m + (q + 1)) (CB i ++ List.replicate (q + 1) (.int .u8 255)) := by
    rw [List.replicate_succ', ← List.append_assoc, ← Nat.add_assoc]; exact ho
  refine ⟨a', c', w', hr, ?_⟩
  rcases hcase with ⟨g, rfl, rfl, rfl, hsz, hos, htp, hou, hblk⟩ | ⟨hb, g, rfl, hg⟩
  · obtain ⟨_, _, cur, hcur⟩ := owns_blk h.own g rfl
    rcases h.whr with he | ⟨g', he, hg'⟩
    · have hin : inL LB g := inL_get hi (by rw [he]; rfl)
      refine ⟨?_, ho', .inl he⟩
      have hp := owns_pre ho' (m := m) (by omega)
      rw [Nat.mul_one, List.take_append_of_le_length (by omega), List.take_of_length_le (by omega)] at hp
      rw [he] at hi
      have ht := h.fs.rb.turn (w' := w') hi hmn hp (fun k hk hne => hblk k (h.fs.rb.blk hk).2.1 (fun e => hne (by rw [e]; rfl)))
      have hC : (fun j => if j = i then CB i else CB j) = CB := by
        funext j; split
        · rename_i e; rw [e]
        · rfl
      rw [hC] at ht
      exact h.fs.turnB g hos htp hou hsz hblk ⟨cur, hcur⟩ (.inl hin) ht
    · have hgg : g = g' := by simpa using he
      subst hgg
      exact ⟨h.fs.turnB g hos htp hou hsz hblk ⟨cur, hcur⟩ (.inr hg') (h.fs.rb.same (fun k hk => hblk k (h.fs.rb.blk hk).2.1 (fun e => by have := h.fs.lt k (.inl hk); omega))), ho', .inr ⟨g, rfl, hg'⟩⟩
  · exact ⟨h.fs.below hb, ho', .inr ⟨g, rfl, Nat.le_trans h.fs.step.size hg⟩⟩
/-- A list that grows out of one of the lists of sectors. -/
structure GS (w0 w : World) (base pm : Nat) (bv sv : Value) (LB LS : List Value) (CB CS : Nat → List Value) (i m q : Nat) (vi : Value) (a : Option Addr) (c : Nat) : Prop where
  fs : FS w0 w base pm bv sv LB LS CB CS
  own : ∃ ys, w.ownsRow base 68 2 (.slice a (m + q) c) (m + q) (CS i ++ ys)
  whr : vi = .slice a m c ∨ ∃ g, a = some ⟨g, 0, none⟩ ∧ w0.heap.size ≤ g
theorem GS.step {w0 w : World} {base pm : Nat} {bv sv : Value} {LB LS : List Value} {CB CS : Nat → List Value} {i m q : Nat} {vi : Value} {a : Option Addr} {c : Nat} (h : GS w0 w base pm bv sv LB LS CB CS i m q vi a c) (hi : LS[i]? = some vi) (hm : (CS i).length = m * 2) (hq : q ≤ 64) (hmn : m ≤ 5864062014000) (t : TypeId) :
    ∃ a' c' w', (Builtin.append_ #[22, 22] 22 #[.slice a (m + q) c, .slice (some ⟨w.heap.size, 0, none⟩) 1 1]).run Tryd.prog (w.alloc (.cells #[.int .i64 (-1), .string ⟨#[]⟩] t)) = .ok (.slice a' (m + q + 1) c') w' ∧ GS w0 w' base pm bv sv LB LS CB CS i m (q + 1) vi a' c' := by
  have hbase : base ≤ w.heap.size := Nat.le_trans h.fs.lo h.fs.step.size
  obtain ⟨ys, hown⟩ := h.own
  obtain ⟨a', c', w', hr, ho, hcase⟩ := grow_s (-1) ⟨#[]⟩ t hown (by omega) hbase
  have ho' : w'.ownsRow base 68 2 (.slice a' (m + (q + 1)) c') (m + (q + 1)) (CS i ++ (ys ++ [.int .i64 (-1), .string ⟨#[]⟩])) := by
    rw [← List.append_assoc, ← Nat.add_assoc]; exact ho
  refine ⟨a', c', w', hr, ?_⟩
  rcases hcase with ⟨g, rfl, rfl, rfl, hsz, hos, htp, hou, hblk⟩ | ⟨hb, g, rfl, hg⟩
  · obtain ⟨_, _, cur, hcur⟩ := owns_blk hown g rfl
    rcases h.whr with he | ⟨g', he, hg'⟩
    · have hin : inL LS g := inL_get hi (by rw [he]; rfl)
      refine ⟨?_, ⟨_, ho'⟩, .inl he⟩
      have hp := owns_pre ho' (m := m) (by omega)
      rw [List.take_append_of_le_length (by omega), List.take_of_length_le (by omega)] at hp
      rw [he] at hi
      have ht := h.fs.rs.turn (w' := w') hi hmn hp (fun k hk hne => hblk k (h.fs.rs.blk hk).2.1 (fun e => hne (by rw [e]; rfl)))
      have hC : (fun j => if j = i then CS i else CS j) = CS := by
        funext j; split
        · rename_i e; rw [e]
        · rfl
      rw [hC] at ht
      exact h.fs.turnS g hos htp hou hsz hblk ⟨cur, hcur⟩ (.inl hin) ht
    · have hgg : g = g' := by simpa using he
      subst hgg
      exact ⟨h.fs.turnS g hos htp hou hsz hblk ⟨cur, hcur⟩ (.inr hg') (h.fs.rs.same (fun k hk => hblk k (h.fs.rs.blk hk).2.1 (fun e => by have := h.fs.lt k (.inr hk); omega))), ⟨_, ho'⟩, .inr ⟨g, rfl, hg'⟩⟩
  · exact ⟨h.fs.below hb, ⟨_, ho'⟩, .inr ⟨g, rfl, Nat.le_trans h.fs.step.size hg⟩⟩

end Go.Proofs.YtdieacdkomiooabDoor

namespace Go.Proofs.YtdieacdkomiooabDoor
open Go.RowKit Go.Maps

def mB (i : Nat) : Value := .int .u8 ((i % 251 : Nat) : Int)
def AllB (C : Nat → List Value) (i : Nat) : Prop := ∀ j, j < (C i).length → (C i)[j]? = some (mB i)
def AllS (C : Nat → List Value) (i : Nat) : Prop := ∀ j, j * 2 < (C i).length → (C i)[j * 2]? = some (.int .i64 (i : Int)) ∧ (C i)[j * 2 + 1]? = some (.string { data := #[109, 97, 114, 107] })
theorem wrap_u8 (r : Nat) (h : r < 256) : IntKind.u8.wrap (r : Int) = (r : Int) := by
  unfold IntKind.wrap
  have h1 : IntKind.u8.bits = 8 := rfl
  have h2 : IntKind.u8.signed = false := rfl
  rw [h1, h2]
  simp
  omega
set_option maxHeartbeats 400000 in
theorem mark_any (i : Int) (w : World) : Calls Tryd.prog 67 #[.int .i64 i] w fun e w' => e = .returned (.agg #[.int .i64 i, .string { data := #[109, 97, 114, 107] }]) ∧ Below w.heap.size w w' := by
  have HB := Hid.mk2 (below_new w (.cells #[.int .i64 i, .string { data := #[109, 97, 114, 107] }] 68))
  have HR := Hid.mk2 (heap_alloc_new w (.cells #[.int .i64 i, .string { data := #[109, 97, 114, 107] }] 68))
  go_enter Tryd.func67, Tryd.ntmps67
  go_wp2_with fail
  (try simp only [Exit.inBlock, Exit.then])
  refine bodyPost_ret (results_cell_row rfl _ _ w.heap.size 68 _ (0, 0) _ rfl HR.out Tryd.underlying68 rfl (by kernel_rfl)) rfl ?_
  exact ⟨rfl, HB.out⟩
/-- A list of lists: where it lies. -/
theorem row_at {w : World} {base e : Nat} {v : Value} {L : List Value} (h : w.ownsRow base e 1 v L.length L) (k : Nat) (u : Value) (hk : L[k]? = some u) : ∃ g c, v = .slice (some ⟨g, 0, none⟩) L.length c ∧ w.cell? ⟨g, k, none⟩ = some u := by
  have hlt := (List.getElem?_eq_some_iff.1 hk).1
  obtain ⟨a, c, h1, h2⟩ := owns_form h
  obtain ⟨g, rfl⟩ := h2 (by omega)
  exact ⟨g, c, h1, owns_cell h h1 k u hk⟩

set_option maxRecDepth 100000 in
set_option maxHeartbeats 8000000 in
theorem full_any (base pm : Nat) (bv sv : Value) (LB LS : List Value) (CB CS : Nat → List Value) (w : World) (h : FS w w base pm bv sv LB LS CB CS) (hNB : LB.length ≤ 1073741824) (hNS : LS.length ≤ 1073741824) :
    Calls Tryd.prog 27 #[.pointer (some ⟨pm, 0, none⟩)] w fun e w' => e = .returned (.bool true) ∧ Step (fun k => inL LB k ∨ inL LS k) (fun k => inL LB k ∨ inL LS k) w w' := by
  obtain ⟨NB, hNBe⟩ : ∃ NB, NB = LB.length := ⟨_, rfl⟩
  obtain ⟨NS, hNSe⟩ : ∃ NS, NS = LS.length := ⟨_, rfl⟩
  obtain ⟨ba, bc, hbv⟩ : ∃ a c, bv = .slice a NB c := by obtain ⟨a, c, h1, _⟩ := owns_form h.brow; exact ⟨a, c, by rw [hNBe]; exact h1⟩
  obtain ⟨sa, sc, hsv⟩ : ∃ a c, sv = .slice a NS c := by obtain ⟨a, c, h1, _⟩ := owns_form h.srow; exact ⟨a, c, by rw [hNSe]; exact h1⟩
  subst hbv hsv
  have HNB := Hid.mk2 hNBe
  have HNS := Hid.mk2 hNSe
  rw [← hNBe] at hNB
  rw [← hNSe] at hNS
  have HF0 := Hid.mk2 h
  have HP0 : Hid (∀ wr CB CS, FS w wr base pm (.slice ba NB bc) (.slice sa NS sc) LB LS CB CS → wr.cell? ⟨pm, 0, none⟩ = some (.slice ba NB bc) ∧ wr.cell? ⟨pm, 1, none⟩ = some (.slice sa NS sc)) := fun wr CB CS h => by
    constructor
    · rw [cell_of_row _ _ _ _ _ _ h.blk]; rfl
    · rw [cell_of_row _ _ _ _ _ _ h.blk]; rfl
  have HBR : Hid (∀ wr CB CS, FS w wr base pm (.slice ba NB bc) (.slice sa NS sc) LB LS CB CS → ∀ k, k < NB → ∃ gb va n vc, ba = some ⟨gb, 0, none⟩ ∧ wr.cell? ⟨gb, k, none⟩ = some (.slice va n vc) ∧ LB[k]? = some (.slice va n vc) ∧ wr.ownsRow base 5 1 (.slice va n vc) n (CB k) ∧ n ≤ 5864062014000) := fun wr CB CS h k hk => by
    have hk' : k < LB.length := by rw [← HNB.out]; exact hk
    obtain ⟨va, n, vc, hv, h1, h2⟩ := h.rb.own k _ (List.getElem?_eq_getElem hk')
    have hbr := h.brow
    obtain ⟨gb, cb, e1, e2⟩ := row_at hbr k _ (List.getElem?_eq_getElem hk')
    simp only [Value.slice.injEq] at e1
    rw [hv] at e2 h1
    exact ⟨gb, va, n, vc, e1.1, e2, by rw [List.getElem?_eq_getElem hk', hv], h1, h2⟩
  have HSR : Hid (∀ wr CB CS, FS w wr base pm (.slice ba NB bc) (.slice sa NS sc) LB LS CB CS → ∀ k, k < NS → ∃ gs va n vc, sa = some ⟨gs, 0, none⟩ ∧ wr.cell? ⟨gs, k, none⟩ = some (.slice va n vc) ∧ LS[k]? = some (.slice va n vc) ∧ wr.ownsRow base 68 2 (.slice va n vc) n (CS k) ∧ n ≤ 5864062014000) := fun wr CB CS h k hk => by
    have hk' : k < LS.length := by rw [← HNS.out]; exact hk
    obtain ⟨va, n, vc, hv, h1, h2⟩ := h.rs.own k _ (List.getElem?_eq_getElem hk')
    have hbr := h.srow
    obtain ⟨gb, cb, e1, e2⟩ := row_at hbr k _ (List.getElem?_eq_getElem hk')
    simp only [Value.slice.injEq] at e1
    rw [hv] at e2 h1
    exact ⟨gb, va, n, vc, e1.1, e2, by rw [List.getElem?_eq_getElem hk', hv], h1, h2⟩
  clear h hNBe hNSe
  go_enter Tryd.func27, Tryd.ntmps27
  go_wp2_with fail
  go_loopw [3] (fun i wr => ∃ (k : Nat) (CB' : Nat → List Value), k ≤ NB ∧ i = .int .i64 (k : Int) ∧ FS w wr base pm (.slice ba NB bc) (.slice sa NS sc) LB LS CB' CS ∧ ∀ i, i < k → AllB CB' i) (fun i _ => NB - (intOf i).toNat)
  case atStart => exact ⟨0, CB, Nat.zero_le _, rfl, HF0.out, fun i hi => absurd hi (by omega)⟩
  case round =>
    obtain ⟨k, CB1, hk, rfl, hfs, hall⟩ := hrel
    have HFS := Hid.mk2 hfs
    have HALL := Hid.mk2 hall
    obtain ⟨p0, p1⟩ := HP0.out wr CB1 CS hfs
    clear HF0 hfs hall
    by_cases hlt : k < NB
    · have hk1 : (k : Int) < (NB : Int) := by omega
      have hk0 : (0 : Int) ≤ (k : Int) := Int.natCast_nonneg _
      obtain ⟨gb, va, n, vc, rfl, x1, hi1, hr1, hn1⟩ := HBR.out wr CB1 CS HFS.out k hlt
      have HI1 := Hid.mk2 hi1
      have hcl : (CB1 k).length = n := by have := hr1.1; omega
      have HCL := Hid.mk2 hcl
      obtain ⟨r, hr⟩ : ∃ r, r = k % 251 := ⟨_, rfl⟩
      have HR := Hid.mk2 hr
      have m1 : (k : Int).tmod 251 = (r : Int) := by rw [hr, Int.tmod_eq_emod_of_nonneg (by omega)]; omega
      have m2 : (k : Int) % 251 = (r : Int) := by rw [hr]; omega
      have m3 : IntKind.u8.wrap (r : Int) = (r : Int) := wrap_u8 r (by omega)
      have m4 : r < 251 := by omega
      clear hi1 hr1 hcl hr x1
      go_wp2_with fail
      go_loopw [4] (fun u4 wr => ∃ (j : Nat) (CB' : Nat → List Value), j ≤ n ∧ u4 = .int .i64 (j : Int) ∧ FS w wr base pm (.slice (some ⟨gb, 0, none⟩) NB bc) (.slice sa NS sc) LB LS CB' CS ∧ (∀ i, i < k → AllB CB' i) ∧ (CB' k).length = n ∧ ∀ j', j' < j → (CB' k)[j']? = some (mB k)) (fun u4 _ => n - (intOf u4).toNat)
      case atStart => exact ⟨0, CB1, Nat.zero_le _, rfl, HFS.out, HALL.out, HCL.out, fun j' hj' => absurd hj' (by omega)⟩
      case round =>
        obtain ⟨j, CB2, hj, rfl, hfs2, hall2, hlen2, hpre2⟩ := hrel
        have HFS2 := Hid.mk2 hfs2
        have HALL2 := Hid.mk2 (And.intro hall2 (And.intro hlen2 hpre2))
        obtain ⟨p0', p1'⟩ := HP0.out wr CB2 CS hfs2
        obtain ⟨gb', va', n', vc', hgb, x1, hi2, hr2, hn2⟩ := HBR.out wr CB2 CS hfs2 k hlt
        have he := hi2.symm.trans HI1.out
        simp only [Option.some.injEq, Value.slice.injEq] at he hgb
        obtain ⟨rfl, rfl, rfl⟩ := he
        obtain rfl : gb = gb' := by simpa using hgb
        clear HFS HALL hfs2 hall2 hlen2 hpre2 hgb p0 p1
        by_cases hjl : j < n'
        · obtain ⟨a', c', hsl, hsm⟩ := owns_form hr2
          obtain ⟨g, rfl⟩ : ∃ g, va' = some ⟨g, 0, none⟩ := by
            simp only [Value.slice.injEq] at hsl
            obtain ⟨g, hg⟩ := hsm (by omega)
            exact ⟨g, by rw [hsl.1, hg]⟩
          have c0 : ∃ u, wr.cell? ⟨g, j, none⟩ = some u := by
            rw [World.ownsRow.cellAt hr2 j (by omega)]
            exact ⟨_, List.getElem?_eq_getElem (by rw [hr2.1]; omega)⟩
          obtain ⟨u0, c0⟩ := c0
          have z0 : wr.frozen? ⟨g, j, none⟩ = false := World.ownsRow.frozenAt hr2 j
          have j1 : (j : Int) < (n' : Int) := by omega
          have j0 : (0 : Int) ≤ (j : Int) := Int.natCast_nonneg _
          have HST := Hid.mk2 (HFS2.out.setB hi2 j (.int .u8 (r : Int)))
          clear hr2 hsl hsm hi2
          go_wp2_with fail
          go_roundw
          case rel =>
            refine ⟨j + 1, _, by omega, by go_num, HST.out, fun i hi => ?_, ?_, fun j' hj' => ?_⟩
            · intro q hq
              simp only [if_neg (show ¬ i = k by omega)] at hq ⊢
              exact HALL2.out.1 i hi q hq
            · simp only [↓reduceIte, List.length_set]; exact HALL2.out.2.1
            · simp only [↓reduceIte]
              by_cases e : j' = j
              · subst e
                rw [List.getElem?_set_self (by rw [HALL2.out.2.1]; omega), HR.out]; rfl
              · rw [List.getElem?_set_ne (fun h => e h.symm)]
                exact HALL2.out.2.2 j' (by omega)
          case measure => simp [intOf]; omega
        · have j1 : ¬ (j : Int) < (n' : Int) := by omega
          clear hr2 hi2
          go_wp2_with fail
          go_roundw
          case rel =>
            refine ⟨k + 1, CB2, by omega, by go_num, HFS2.out, fun i hi => ?_⟩
            by_cases e : i = k
            · subst e
              intro q hq
              exact HALL2.out.2.2 q (by have := HALL2.out.2.1; omega)
            · exact HALL2.out.1 i (by omega)
          case measure => simp [intOf]; omega
    · have hk1 : ¬ (k : Int) < (NB : Int) := by omega
      have HB1 : Hid (∀ i, i < NB → AllB CB1 i) := fun i hi => HALL.out i (by omega)
      have HFA := HFS
      clear HALL HFS
      go_wp2_with fail
      clear p0 p1
      obtain ⟨w1, hw1⟩ : ∃ w1, w1 = wr := ⟨_, rfl⟩
      rw [← hw1] at HFA ⊢
      clear hw1
      go_loopw [5] (fun i wr => ∃ (k : Nat) (CS' : Nat → List Value), k ≤ NS ∧ i = .int .i64 (k : Int) ∧ FS w wr base pm (.slice ba NB bc) (.slice sa NS sc) LB LS CB1 CS' ∧ ∀ i, i < k → AllS CS' i) (fun i _ => NS - (intOf i).toNat)
      case atStart => exact ⟨0, CS, Nat.zero_le _, rfl, HFA.out, fun i hi => absurd hi (by omega)⟩
      case round =>
        obtain ⟨k, CS1, hk, rfl, hfs, hall⟩ := hrel
        have HFS := Hid.mk2 hfs
        have HALL := Hid.mk2 hall
        obtain ⟨p0, p1⟩ := HP0.out wr CB1 CS1 hfs
        clear HFA hfs hall
        by_cases hlt : k < NS
        · have hk1 : (k : Int) < (NS : Int) := by omega
          have hk0 : (0 : Int) ≤ (k : Int) := Int.natCast_nonneg _
          obtain ⟨gs, va, n, vc, rfl, x1, hi1, hr1, hn1⟩ := HSR.out wr CB1 CS1 HFS.out k hlt
          have HI1 := Hid.mk2 hi1
          have hcl : (CS1 k).length = n * 2 := hr1.1
          have HCL := Hid.mk2 hcl
          clear hi1 hr1 hcl x1
          go_wp2_with fail
          go_loopw [6] (fun u4 wr => ∃ (j : Nat) (CS' : Nat → List Value), j ≤ n ∧ u4 = .int .i64 (j : Int) ∧ FS w wr base pm (.slice ba NB bc) (.slice (some ⟨gs, 0, none⟩) NS sc) LB LS CB1 CS' ∧ (∀ i, i < k → AllS CS' i) ∧ (CS' k).length = n * 2 ∧ ∀ j', j' < j → (CS' k)[j' * 2]? = some (.int .i64 (k : Int)) ∧ (CS' k)[j' * 2 + 1]? = some (.string { data := #[109, 97, 114, 107] })) (fun u4 _ => n - (intOf u4).toNat)
          case atStart => exact ⟨0, CS1, Nat.zero_le _, rfl, HFS.out, HALL.out, HCL.out, fun j' hj' => absurd hj' (by omega)⟩
          case round =>
            obtain ⟨j, CS2, hj, rfl, hfs2, hall2, hlen2, hpre2⟩ := hrel
            have HFS2 := Hid.mk2 hfs2
            have HALL2 := Hid.mk2 (And.intro hall2 (And.intro hlen2 hpre2))
            obtain ⟨p0', p1'⟩ := HP0.out wr CB1 CS2 hfs2
            obtain ⟨gs', va', n', vc', hgb, x1, hi2, hr2, hn2⟩ := HSR.out wr CB1 CS2 hfs2 k hlt
            have he := hi2.symm.trans HI1.out
            simp only [Option.some.injEq, Value.slice.injEq] at he hgb
            obtain ⟨rfl, rfl, rfl⟩ := he
            obtain rfl : gs = gs' := by simpa using hgb
            clear HFS HALL hfs2 hall2 hlen2 hpre2 hgb p0 p1
            by_cases hjl : j < n'
            · obtain ⟨a', c', hsl, hsm⟩ := owns_form hr2
              obtain ⟨g, rfl⟩ : ∃ g, va' = some ⟨g, 0, none⟩ := by
                simp only [Value.slice.injEq] at hsl
                obtain ⟨g, hg⟩ := hsm (by omega)
                exact ⟨g, by rw [hsl.1, hg]⟩
              have HROW := Hid.mk2 hr2
              have HCE : Hid (∀ wq, Below wr.heap.size wr wq → ((∃ u, wq.cell? ⟨g, j * 2, none⟩ = some u) ∧ (∃ u, wq.cell? ⟨g, j * 2 + 1, none⟩ = some u)) ∧ wq.frozen? ⟨g, j * 2, none⟩ = false ∧ wq.frozen? ⟨g, j * 2 + 1, none⟩ = false) := fun wq hb => by
                have hr := owns_below HROW.out hb
                refine ⟨⟨?_, ?_⟩, World.ownsRow.frozenAt hr _, World.ownsRow.frozenAt hr _⟩
                · rw [World.ownsRow.cellAt hr (j * 2) (by omega)]; exact ⟨_, List.getElem?_eq_getElem (by rw [hr.1]; omega)⟩
                · rw [World.ownsRow.cellAt hr (j * 2 + 1) (by omega)]; exact ⟨_, List.getElem?_eq_getElem (by rw [hr.1]; omega)⟩
              have j1 : (j : Int) < (n' : Int) := by omega
              have j0 : (0 : Int) ≤ (j : Int) := Int.natCast_nonneg _
              have HST : Hid (∀ wq, Below wr.heap.size wr wq → FS w ((wq.setCell ⟨g, j * 2, none⟩ (.int .i64 (k : Int))).setCell ⟨g, j * 2 + 1, none⟩ (.string { data := #[109, 97, 114, 107] })) base pm (.slice ba NB bc) (.slice (some ⟨gs, 0, none⟩) NS sc) LB LS CB1 (fun q => if q = k then ((CS2 k).set (j * 2) (.int .i64 (k : Int))).set (j * 2 + 1) (.string { data := #[109, 97, 114, 107] }) else CS2 q)) := fun wq hb => (HFS2.out.below hb).setS hi2 j _ _
              have HMK := Hid.mk2 (fun w => mark_any (k : Int) w)
              obtain ⟨_, _, cur, hcur⟩ := owns_blk hr2 g rfl
              have n1 : pm ≠ g := fun e => by have := HFS2.out.blk; rw [e, hcur] at this; simp at this
              have n2 : gs ≠ g := fun e => by obtain ⟨_, _, c, hc⟩ := owns_blk HFS2.out.srow gs rfl; rw [e, hcur] at hc; simp at hc
              have n3 := n1.symm
              have n4 := n2.symm
              clear hr2 hsl hsm hi2 hcur
              go_wp2_with fail
              go_region_held3 (fun w' => w'.cell? ⟨pm, 1, none⟩ = some (.slice (some ⟨gs, 0, none⟩) NS sc) ∧ w'.cell? ⟨gs, k, none⟩ = some (.slice (some ⟨g, 0, none⟩) n' vc')) (go_keep)
                (first
                  | (go_at_call 67; refine (HMK.out _).mono ?_; rintro e w2 ⟨rfl, hbd⟩; have hb2 : Below wr.heap.size wr w2 := (by first | exact undrew hbd | exact hbd); clear hbd; have q1 := cell_below hb2 p1'; have q2 := cell_below hb2 x1; obtain ⟨⟨⟨u0, c0⟩, ⟨u1, c1⟩⟩, z0, z1⟩ := HCE.out w2 hb2))
              have HEND := Hid.mk2 (HST.out w2 hb2)
              clear hb2 HST HMK HCE
              go_wp2_with fail
              go_roundw
              case rel =>
                refine ⟨j + 1, _, by omega, by go_num, HEND.out, fun i hi => ?_, ?_, fun j' hj' => ?_⟩
                · intro q hq
                  simp only [if_neg (show ¬ i = k by omega)] at hq ⊢
                  exact HALL2.out.1 i hi q hq
                · simp only [↓reduceIte, List.length_set]; exact HALL2.out.2.1
                · simp only [↓reduceIte]
                  have hl2 := HALL2.out.2.1
                  by_cases e : j' = j
                  · subst e
                    refine ⟨?_, ?_⟩
                    · rw [List.getElem?_set_ne (by omega), List.getElem?_set_self (by omega)]
                    · rw [List.getElem?_set_self (by rw [List.length_set]; omega)]
                  · rw [List.getElem?_set_ne (by omega), List.getElem?_set_ne (by omega), List.getElem?_set_ne (by omega), List.getElem?_set_ne (by omega)]
                    exact HALL2.out.2.2 j' (by omega)
              case measure => simp [intOf]; omega
            · have j1 : ¬ (j : Int) < (n' : Int) := by omega
              clear hr2 hi2
              go_wp2_with fail
              go_roundw
              case rel =>
                refine ⟨k + 1, CS2, by omega, by go_num, HFS2.out, fun i hi => ?_⟩
                by_cases e : i = k
                · subst e
                  intro q hq
                  exact HALL2.out.2.2 q (by have := HALL2.out.2.1; omega)
                · exact HALL2.out.1 i (by omega)
              case measure => simp [intOf]; omega
        · have hk1 : ¬ (k : Int) < (NS : Int) := by omega
          have HS1 : Hid (∀ i, i < NS → AllS CS1 i) := fun i hi => HALL.out i (by omega)
          have HFA := HFS
          clear HALL HFS
          go_wp2_with fail
          clear p0 p1
          obtain ⟨w1, hw1⟩ : ∃ w1, w1 = wr := ⟨_, rfl⟩
          rw [← hw1] at HFA ⊢
          clear hw1
          go_loopw [7] (fun i wr => ∃ (k : Nat), k ≤ NB ∧ i = .int .i64 (k : Int) ∧ FS w wr base pm (.slice ba NB bc) (.slice sa NS sc) LB LS CB1 CS1) (fun i _ => NB - (intOf i).toNat)
          case atStart => exact ⟨0, Nat.zero_le _, rfl, HFA.out⟩
          case round =>
            obtain ⟨k, hk, rfl, hfs⟩ := hrel
            have HFS := Hid.mk2 hfs
            obtain ⟨p0, p1⟩ := HP0.out wr CB1 CS1 hfs
            clear HFA hfs
            by_cases hlt : k < NB
            · have hk1 : (k : Int) < (NB : Int) := by omega
              have hk0 : (0 : Int) ≤ (k : Int) := Int.natCast_nonneg _
              obtain ⟨gb, va, n, vc, hba, x1, hi1, hr1, hn1⟩ := HBR.out wr CB1 CS1 HFS.out k hlt
              have HBA := Hid.mk2 hba
              rw [hba] at p0
              have HI1 := Hid.mk2 hi1
              have HLN := Hid.mk2 hr1.1
              have HG0 : Hid (GB w wr base pm (.slice ba NB bc) (.slice sa NS sc) LB LS CB1 CS1 k n 0 (.slice va n vc) va vc) := ⟨HFS.out, (by simpa using hr1), .inl rfl⟩
              clear hi1 hr1 HFS hba
              rw [HBA.out]
              go_wp2_with fail
              clear x1 p0 p1
              go_loopw [8, 9] (fun u8 u9 wr => ∃ (q : Nat) (a : Option Addr) (c : Nat), q ≤ 64 ∧ u8 = .slice a (n + q) c ∧ u9 = .int .i64 (q : Int) ∧ GB w wr base pm (.slice ba NB bc) (.slice sa NS sc) LB LS CB1 CS1 k n q (.slice va n vc) a c) (fun _ u9 _ => 64 - (intOf u9).toNat)
              case atStart => exact ⟨0, va, vc, by omega, rfl, rfl, HG0.out⟩
              case round =>
                obtain ⟨q, a, c, hq, rfl, rfl, hg⟩ := hrel
                have HG := Hid.mk2 hg
                clear HG0 hg
                by_cases hql : q < 64
                · have q1 : (q : Int) < 64 := by omega
                  obtain ⟨a', c', w', hrun, hg'⟩ := HG.out.step HI1.out (by have := HLN.out; omega) hq hn1 5
                  have HG' := Hid.mk2 hg'
                  have HRUN := Hid.mk2 hrun
                  clear hg' hrun HG
                  go_wp2_with (first | (at_builtin; refine wpList_append_runV 36 rfl _ _ rfl rfl _ _ rfl rfl _ _ HRUN.out ?_))
                  go_roundw
                  case rel => exact ⟨q + 1, a', c', by omega, rfl, by go_num, HG'.out⟩
                  case measure => simp [intOf]; omega
                · have q1 : ¬ (q : Int) < 64 := by omega
                  go_wp2_with fail
                  go_roundw
                  case rel => exact ⟨k + 1, by omega, by go_num, by rw [← HBA.out]; exact HG.out.fs⟩
                  case measure => simp [intOf]; omega
            · have hk1 : ¬ (k : Int) < (NB : Int) := by omega
              have HFA := HFS
              clear HFS
              go_wp2_with fail
              clear p0 p1
              obtain ⟨w1, hw1⟩ : ∃ w1, w1 = wr := ⟨_, rfl⟩
              rw [← hw1] at HFA ⊢
              clear hw1
              go_loopw [10] (fun i wr => ∃ (k : Nat), k ≤ NS ∧ i = .int .i64 (k : Int) ∧ FS w wr base pm (.slice ba NB bc) (.slice sa NS sc) LB LS CB1 CS1) (fun i _ => NS - (intOf i).toNat)
              case atStart => exact ⟨0, Nat.zero_le _, rfl, HFA.out⟩
              case round =>
                obtain ⟨k, hk, rfl, hfs⟩ := hrel
                have HFS := Hid.mk2 hfs
                obtain ⟨p0, p1⟩ := HP0.out wr CB1 CS1 hfs
                clear HFA hfs
                by_cases hlt : k < NS
                · have hk1 : (k : Int) < (NS : Int) := by omega
                  have hk0 : (0 : Int) ≤ (k : Int) := Int.natCast_nonneg _
                  obtain ⟨gb, va, n, vc, hba, x1, hi1, hr1, hn1⟩ := HSR.out wr CB1 CS1 HFS.out k hlt
                  have HBA := Hid.mk2 hba
                  rw [hba] at p1
                  have HI1 := Hid.mk2 hi1
                  have HLN := Hid.mk2 hr1.1
                  have HG0 : Hid (GS w wr base pm (.slice ba NB bc) (.slice sa NS sc) LB LS CB1 CS1 k n 0 (.slice va n vc) va vc) := ⟨HFS.out, ⟨[], by simpa using hr1⟩, .inl rfl⟩
                  clear hi1 hr1 HFS hba
                  rw [HBA.out]
                  go_wp2_with fail
                  clear x1 p0 p1
                  go_loopw [11, 12] (fun u8 u9 wr => ∃ (q : Nat) (a : Option Addr) (c : Nat), q ≤ 64 ∧ u8 = .slice a (n + q) c ∧ u9 = .int .i64 (q : Int) ∧ GS w wr base pm (.slice ba NB bc) (.slice sa NS sc) LB LS CB1 CS1 k n q (.slice va n vc) a c) (fun _ u9 _ => 64 - (intOf u9).toNat)
                  case atStart => exact ⟨0, va, vc, by omega, rfl, rfl, HG0.out⟩
                  case round =>
                    obtain ⟨q, a, c, hq, rfl, rfl, hg⟩ := hrel
                    have HG := Hid.mk2 hg
                    clear HG0 hg
                    by_cases hql : q < 64
                    · have q1 : (q : Int) < 64 := by omega
                      obtain ⟨a', c', w', hrun, hg'⟩ := HG.out.step HI1.out (by have := HLN.out; omega) hq hn1 68
                      have HG' := Hid.mk2 hg'
                      have HRUN := Hid.mk2 hrun
                      clear hg' hrun HG
                      go_wp2_with (first | (at_builtin; refine wpList_append_runV 22 rfl _ _ rfl rfl _ _ rfl rfl _ _ HRUN.out ?_))
                      go_roundw
                      case rel => exact ⟨q + 1, a', c', by omega, rfl, by go_num, HG'.out⟩
                      case measure => simp [intOf]; omega
                    · have q1 : ¬ (q : Int) < 64 := by omega
                      go_wp2_with fail
                      go_roundw
                      case rel => exact ⟨k + 1, by omega, by go_num, by rw [← HBA.out]; exact HG.out.fs⟩
                      case measure => simp [intOf]; omega
                · have hk1 : ¬ (k : Int) < (NS : Int) := by omega
                  have HFA := HFS
                  clear HFS
                  go_wp2_with fail
                  clear p0 p1
                  obtain ⟨w1, hw1⟩ : ∃ w1, w1 = wr := ⟨_, rfl⟩
                  rw [← hw1] at HFA ⊢
                  clear hw1
                  go_loopw [13] (fun i wr => ∃ (k : Nat), k ≤ NB ∧ i = .int .i64 (k : Int) ∧ FS w wr base pm (.slice ba NB bc) (.slice sa NS sc) LB LS CB1 CS1) (fun i _ => NB - (intOf i).toNat)
                  case atStart => exact ⟨0, Nat.zero_le _, rfl, HFA.out⟩
                  case round =>
                    obtain ⟨k, hk, rfl, hfs⟩ := hrel
                    have HFS := Hid.mk2 hfs
                    obtain ⟨p0, p1⟩ := HP0.out wr CB1 CS1 hfs
                    clear HFA hfs
                    by_cases hlt : k < NB
                    · have hk1 : (k : Int) < (NB : Int) := by omega
                      have hk0 : (0 : Int) ≤ (k : Int) := Int.natCast_nonneg _
                      obtain ⟨r, hr⟩ : ∃ r, r = k % 251 := ⟨_, rfl⟩
                      have HR := Hid.mk2 hr
                      have m1 : (k : Int).tmod 251 = (r : Int) := by rw [hr, Int.tmod_eq_emod_of_nonneg (by omega)]; omega
                      have m2 : (k : Int) % 251 = (r : Int) := by rw [hr]; omega
                      have m3 : IntKind.u8.wrap (r : Int) = (r : Int) := wrap_u8 r (by omega)
                      have m4 : r < 251 := by omega
                      have m5 : ((r : Int) != (r : Int)) = false := by simp
                      clear hr
                      go_wp2_with fail
                      go_loopw [14] (fun u4 wr => ∃ (j : Nat), u4 = .int .i64 (j : Int) ∧ j ≤ 5864062014000 ∧ FS w wr base pm (.slice ba NB bc) (.slice sa NS sc) LB LS CB1 CS1) (fun u4 _ => 5864062014000 - (intOf u4).toNat)
                      case atStart => exact ⟨0, rfl, by omega, HFS.out⟩
                      case round =>
                        obtain ⟨j, rfl, hj, hfs2⟩ := hrel
                        have HFS2 := Hid.mk2 hfs2
                        obtain ⟨p0', p1'⟩ := HP0.out wr CB1 CS1 hfs2
                        obtain ⟨gb, va, n, vc, hba, x1, hi2, hr2, hn2⟩ := HBR.out wr CB1 CS1 hfs2 k hlt
                        rw [hba] at p0'
                        have hcl : (CB1 k).length = n := by have := hr2.1; omega
                        clear HFS hfs2 p0 p1 hba
                        by_cases hjl : j < n
                        · obtain ⟨a', c', hsl, hsm⟩ := owns_form hr2
                          obtain ⟨g, rfl⟩ : ∃ g, va = some ⟨g, 0, none⟩ := by
                            simp only [Value.slice.injEq] at hsl
                            obtain ⟨g, hg⟩ := hsm (by omega)
                            exact ⟨g, by rw [hsl.1, hg]⟩
                          have c0 : wr.cell? ⟨g, j, none⟩ = some (.int .u8 (r : Int)) := by
                            rw [World.ownsRow.cellAt hr2 j (by omega), HB1.out k hlt j (by omega), HR.out]; rfl
                          have j1 : (j : Int) < (n : Int) := by omega
                          have j0 : (0 : Int) ≤ (j : Int) := Int.natCast_nonneg _
                          clear hr2 hsl hsm hi2 hcl
                          go_wp2_with fail
                          go_roundw
                          case rel => exact ⟨j + 1, by go_num, by omega, HFS2.out⟩
                          case measure => simp [intOf]; omega
                        · have j1 : ¬ (j : Int) < (n : Int) := by omega
                          clear hr2 hi2 hcl
                          go_wp2_with fail
                          go_roundw
                          case rel => exact ⟨k + 1, by omega, by go_num, HFS2.out⟩
                          case measure => simp [intOf]; omega
                    · have hk1 : ¬ (k : Int) < (NB : Int) := by omega
                      have HFA := HFS
                      clear HFS
                      go_wp2_with fail
                      clear p0 p1
                      obtain ⟨w1, hw1⟩ : ∃ w1, w1 = wr := ⟨_, rfl⟩
                      rw [← hw1] at HFA ⊢
                      clear hw1
                      go_loopw [15] (fun i wr => ∃ (k : Nat), k ≤ NS ∧ i = .int .i64 (k : Int) ∧ FS w wr base pm (.slice ba NB bc) (.slice sa NS sc) LB LS CB1 CS1) (fun i _ => NS - (intOf i).toNat)
                      case atStart => exact ⟨0, Nat.zero_le _, rfl, HFA.out⟩
                      case round =>
                        obtain ⟨k, hk, rfl, hfs⟩ := hrel
                        have HFS := Hid.mk2 hfs
                        obtain ⟨p0, p1⟩ := HP0.out wr CB1 CS1 hfs
                        clear HFA hfs
                        by_cases hlt : k < NS
                        · have hk1 : (k : Int) < (NS : Int) := by omega
                          have hk0 : (0 : Int) ≤ (k : Int) := Int.natCast_nonneg _
                          go_wp2_with fail
                          go_loopw [16] (fun u4 wr => ∃ (j : Nat), u4 = .int .i64 (j : Int) ∧ j ≤ 5864062014000 ∧ FS w wr base pm (.slice ba NB bc) (.slice sa NS sc) LB LS CB1 CS1) (fun u4 _ => 5864062014000 - (intOf u4).toNat)
                          case atStart => exact ⟨0, rfl, by omega, HFS.out⟩
                          case round =>
                            obtain ⟨j, rfl, hj, hfs2⟩ := hrel
                            have HFS2 := Hid.mk2 hfs2
                            obtain ⟨p0', p1'⟩ := HP0.out wr CB1 CS1 hfs2
                            obtain ⟨gs, va, n, vc, hsa, x1, hi2, hr2, hn2⟩ := HSR.out wr CB1 CS1 hfs2 k hlt
                            rw [hsa] at p1'
                            have hcl : (CS1 k).length = n * 2 := hr2.1
                            clear HFS hfs2 p0 p1 hsa
                            by_cases hjl : j < n
                            · obtain ⟨a', c', hsl, hsm⟩ := owns_form hr2
                              obtain ⟨g, rfl⟩ : ∃ g, va = some ⟨g, 0, none⟩ := by
                                simp only [Value.slice.injEq] at hsl
                                obtain ⟨g, hg⟩ := hsm (by omega)
                                exact ⟨g, by rw [hsl.1, hg]⟩
                              obtain ⟨s0, s1⟩ := HS1.out k hlt j (by omega)
                              have c0 : wr.cell? ⟨g, j * 2, none⟩ = some (.int .i64 (k : Int)) := by rw [World.ownsRow.cellAt hr2 (j * 2) (by omega), s0]
                              have c1 : wr.cell? ⟨g, j * 2 + 1, none⟩ = some (.string { data := #[109, 97, 114, 107] }) := by rw [World.ownsRow.cellAt hr2 (j * 2 + 1) (by omega), s1]
                              have j1 : (j : Int) < (n : Int) := by omega
                              have j0 : (0 : Int) ≤ (j : Int) := Int.natCast_nonneg _
                              have hns := fun w => sec_nself w (k : Int) { data := #[109, 97, 114, 107] }
                              have HMK := Hid.mk2 (fun w => mark_any (k : Int) w)
                              have HBL : Hid (∀ wq, Below wr.heap.size wr wq → FS w wq base pm (.slice ba NB bc) (.slice sa NS sc) LB LS CB1 CS1) := fun wq hb => HFS2.out.below hb
                              clear hr2 hsl hsm hi2 hcl s0 s1
                              go_wp2_with fail
                              go_region_held3 (fun w' => w'.cell? ⟨pm, 1, none⟩ = some (.slice (some ⟨gs, 0, none⟩) NS sc) ∧ w'.cell? ⟨gs, k, none⟩ = some (.slice (some ⟨g, 0, none⟩) n vc) ∧ w'.cell? ⟨g, j * 2, none⟩ = some (.int .i64 (k : Int)) ∧ w'.cell? ⟨g, j * 2 + 1, none⟩ = some (.string { data := #[109, 97, 114, 107] })) (go_keep)
                                (first
                                  | (go_at_call 67; refine (HMK.out _).mono ?_; rintro e w2 ⟨rfl, hbd⟩; have hb2 : Below wr.heap.size wr w2 := (by first | exact undrew hbd | exact hbd); clear hbd; have q1 := cell_below hb2 p1'; have q2 := cell_below hb2 x1; have q3 := cell_below hb2 c0; have q4 := cell_below hb2 c1))
                              have HEND := Hid.mk2 (HBL.out w2 hb2)
                              clear hb2 HMK HBL q1 q2 q3 q4 hns
                              go_wp2_with fail
                              go_roundw
                              case rel => exact ⟨j + 1, by go_num, by omega, HEND.out⟩
                              case measure => simp [intOf]; omega
                            · have j1 : ¬ (j : Int) < (n : Int) := by omega
                              clear hr2 hi2 hcl
                              go_wp2_with fail
                              go_roundw
                              case rel => exact ⟨k + 1, by omega, by go_num, HFS2.out⟩
                              case measure => simp [intOf]; omega
                        · have hk1 : ¬ (k : Int) < (NS : Int) := by omega
                          go_wp2_with fail
                          go_ret
                          exact ⟨rfl, HFS.out.step⟩

end Go.Proofs.YtdieacdkomiooabDoor
