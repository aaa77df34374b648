import Derived.Test.YtdieacdkomiooabDoorGA
import Derived.Deep.RegionLaw
namespace Go.Proofs.YtdieacdkomiooabDoor
open Go.RowKit Go.Maps

/-- What the document's settle holds in its loop: k fates are met; of what was torn there are kk more at most. -/
structure SInv (w wr : World) (b : Nat) (F F' : Nat → Prop) (d : Dev) (T T' : Nat) (l : List Fate) (tv0 tv lv pv av : Value) (k kk : Nat) : Prop where
  full : RFul wr b F' { d with dur := durK d.pend d.dur l k } T' tv lv pv av
  step : Step F F' w wr
  keep : ∀ i, i < w.heap.size → i ≠ b → tv0.ownBlock ≠ some i → wr.heap[i]? = w.heap[i]?
  tk : ∀ g, tv.ownBlock = some g → tv0.ownBlock = some g ∨ w.heap.size ≤ g
  le : T' ≤ T + kk
theorem RFul.below {w w' : World} {b : Nat} {F : Nat → Prop} {d : Dev} {T : Nat} {tv lv pv av : Value} (h : RFul w b F d T tv lv pv av) (hs : Below w.heap.size w w') : RFul w' b F d T tv lv pv av := by
  have hk : ∀ k, F k → w'.heap[k]? = w.heap[k]? := fun k hf => hs.block k (h.body.lt k hf)
  obtain ⟨cs, hc⟩ := h.tears
  exact ⟨⟨(hk b h.body.fb).trans h.body.blk, h.body.fb, owns_block h.body.last (fun g hg => hk g (h.body.lf g hg)), h.body.lf, owns_block h.body.pend (fun g hg => hk g (h.body.pf g hg)), h.body.pf, fun k hf => Nat.lt_of_lt_of_le (h.body.lt k hf) hs.size⟩,
    ⟨cs, owns_block hc (fun g hg => hk g (h.tf g hg))⟩, h.tf, h.arms.block (fun k _ _ hf => hk k hf), h.apart, h.ok⟩
theorem SInv.below {w wr w' : World} {b : Nat} {F F' : Nat → Prop} {d : Dev} {T T' : Nat} {l : List Fate} {tv0 tv lv pv av : Value} {k kk : Nat} (h : SInv w wr b F F' d T T' l tv0 tv lv pv av k kk) (hs : Below wr.heap.size wr w') : SInv w w' b F F' d T T' l tv0 tv lv pv av k kk :=
  ⟨h.full.below hs, h.step.trans (Step.of_below hs), fun i hi h1 h2 => (hs.block i (Nat.lt_of_lt_of_le hi h.step.size)).trans (h.keep i hi h1 h2), h.tk, h.le⟩
theorem SInv.skip {w wr : World} {b : Nat} {F F' : Nat → Prop} {d : Dev} {T T' : Nat} {l : List Fate} {tv0 tv lv pv av : Value} {k : Nat} (h : SInv w wr b F F' d T T' l tv0 tv lv pv av k k) (e : durK d.pend d.dur l (k + 1) = durK d.pend d.dur l k) : SInv w wr b F F' d T T' l tv0 tv lv pv av (k + 1) (k + 1) :=
  ⟨by rw [e]; exact h.full, h.step, h.keep, h.tk, by have := h.le; omega⟩
/-- The durable sectors are turned. -/
theorem SInv.last {w wr w1 : World} {b : Nat} {F F' : Nat → Prop} {d : Dev} {T T' : Nat} {l : List Fate} {tv0 tv lv pv av v' : Value} {k kk : Nat} {L' : List Sec} (h : SInv w wr b F F' d T T' l tv0 tv lv pv av k kk) (hb : Below wr.heap.size wr w1)
    (hr : w1.ownsRow wr.heap.size 68 2 v' L'.length (secCells L')) (e : durK d.pend d.dur l (k + 1) = L') (hok : d.Ok) (hkk : kk ≤ k + 1) : SInv w (w1.setCell ⟨b, 2, none⟩ v') b F (grow F' wr w1) d T T' l tv0 tv v' pv av (k + 1) (k + 1) := by
  subst e
  obtain ⟨h1, h2⟩ := h.full.setLast hb hr (durK_ok hok l (k + 1))
  refine ⟨h1, h.step.trans h2, fun i hi hn ht => ?_, h.tk, by have := h.le; omega⟩
  rw [set_other hn, hb.block i (Nat.lt_of_lt_of_le hi h.step.size)]
  exact h.keep i hi hn ht
/-- One tear more. -/
theorem SInv.tear {w wr w1 : World} {b : Nat} {F F' : Nat → Prop} {d : Dev} {T T' : Nat} {l : List Fate} {tv0 tv lv pv av v' : Value} {k kk : Nat} {cs' : List Value} (h : SInv w wr b F F' d T T' l tv0 tv lv pv av k kk) (ho : w1.os = wr.os) (ht : w1.tape = wr.tape) (hu : w1.output = wr.output) (hz : wr.heap.size ≤ w1.heap.size)
    (hk0 : ∀ k, k < wr.heap.size → tv.ownBlock ≠ some k → w1.heap[k]? = wr.heap[k]?) (hr : w1.ownsRow 0 160 4 v' (T' + 1) cs') (hv : ∀ g, v'.ownBlock = some g → tv.ownBlock = some g ∨ wr.heap.size ≤ g) :
    SInv w (w1.setCell ⟨b, 0, none⟩ v') b F (grow F' wr w1) d T (T' + 1) l tv0 v' lv pv av k (kk + 1) := by
  obtain ⟨h1, h2⟩ := h.full.setTears ho ht hu hz hk0 hr hv
  refine ⟨h1, h.step.trans h2, fun i hi hn ht' => ?_, fun g hg => ?_, by have := h.le; omega⟩
  · rw [set_other hn, hk0 i (Nat.lt_of_lt_of_le hi h.step.size) (fun e => (h.tk i e).elim ht' (fun hh => by omega))]
    exact h.keep i hi hn ht'
  · rcases hv g hg with h' | h'
    · exact h.tk g h'
    · exact .inr (Nat.le_trans h.step.size h')
theorem pend_copy (w : World) (m : Nat) (yi : Int) (yd : ByteArray) : ((((w.drewN m).alloc (.cells #[.int .i64 0, .string { data := #[] }] 68)).setCell ⟨w.heap.size, 0, none⟩ (.int .i64 yi)).setCell ⟨w.heap.size, 1, none⟩ (.string yd)).heap[w.heap.size]? = some (.cells #[.int .i64 yi, .string yd] 68 (0, 0)) ∧
    Below w.heap.size w ((((w.drewN m).alloc (.cells #[.int .i64 0, .string { data := #[] }] 68)).setCell ⟨w.heap.size, 0, none⟩ (.int .i64 yi)).setCell ⟨w.heap.size, 1, none⟩ (.string yd)) := by
  have hnw : ((w.drewN m).alloc (.cells #[.int .i64 0, .string { data := #[] }] 68)).heap[w.heap.size]? = some (.cells #[.int .i64 0, .string { data := #[] }] 68 (0, 0)) := heap_alloc_new (w.drewN m) _
  refine ⟨set_cells (set_cells hnw), ⟨rfl, rfl, rfl, by simp [World.setCell], fun i hi => ?_⟩⟩
  rw [set_other (by omega), set_other (by omega)]
  exact (below_new (w.drewN m) _).block i hi

theorem step_rset {ops : Array Oper} {o : Oper} {a : Act} {K : Act → World → Prop} {Q : Exit → Act → World → Prop} {E : Prop} (w : World) (hgd : o.guard = none) (x y : Operand) (v0 c0 : Value)
    (ho : o.op = .call { callee := .value (.func 84), args := #[x, y], argTypes := #[22, 68] }) (hx : a.eval x = v0) (hy : a.eval y = c0)
    (h : Calls Tryd.prog 84 #[v0, c0] w fun e w' => ∃ v, e = .returned v ∧ K (a.put o.dst v) w') :
    if Region.wanted o (yielded ops a.tmps) = true then Oper.wp Tryd.prog o a w K Q else E := by
  have hw : Region.wanted o (yielded ops a.tmps) = true := by simp [Region.wanted, hgd]
  rw [if_pos hw]
  have hrun : (execOp a.eval o).run Tryd.prog w = .ok (.enter 84 #[v0, c0]) w := by
    have he : execOp a.eval o = callFunc 84 #[v0, c0] := by
      obtain ⟨dst, op, ty, pos, after, guard⟩ := o
      simp only [] at ho
      subst ho
      have hy' : execOp a.eval { dst := dst, op := .call { callee := .value (.func 84), args := #[x, y], argTypes := #[22, 68] }, type := ty, pos := pos, after := after, guard := guard } = callFunc 84 (#[] ++ #[x, y].map a.eval ++ #[]) := rfl
      rw [hy']
      simp [hx, hy]
    rw [he]
    simp [callFunc, go_sem, Tryd.func84, Tryd.f84]
  unfold Oper.wp
  rw [hrun]
  refine h.mono ?_
  rintro e w' ⟨v, rfl, hk⟩
  exact hk

theorem RFul.same {w w' : World} {b : Nat} {F : Nat → Prop} {d : Dev} {T : Nat} {tv lv pv av : Value} (h : RFul w b F d T tv lv pv av) (hk : ∀ k, F k → w'.heap[k]? = w.heap[k]?) (hz : w.heap.size ≤ w'.heap.size) : RFul w' b F d T tv lv pv av := by
  obtain ⟨cs, hc⟩ := h.tears
  exact ⟨⟨(hk b h.body.fb).trans h.body.blk, h.body.fb, owns_block h.body.last (fun g hg => hk g (h.body.lf g hg)), h.body.lf, owns_block h.body.pend (fun g hg => hk g (h.body.pf g hg)), h.body.pf, fun k hf => Nat.lt_of_lt_of_le (h.body.lt k hf) hz⟩,
    ⟨cs, owns_block hc (fun g hg => hk g (h.tf g hg))⟩, h.tf, h.arms.block (fun k _ _ hf => hk k hf), h.apart, h.ok⟩
/-- A store into a block of the call's own that is none of the device's. -/
theorem SInv.side {w wr : World} {b : Nat} {F F' : Nat → Prop} {d : Dev} {T T' : Nat} {l : List Fate} {tv0 tv lv pv av : Value} {k kk : Nat} (h : SInv w wr b F F' d T T' l tv0 tv lv pv av k kk) (g j : Nat) (u : Value) (hg : w.heap.size ≤ g) (hF : ¬ F' g) : SInv w (wr.setCell ⟨g, j, none⟩ u) b F F' d T T' l tv0 tv lv pv av k kk :=
  ⟨h.full.same (fun k hk => set_other (fun e => hF (e ▸ hk))) (by rw [set_size]; exact Nat.le_refl _),
    ⟨h.step.os, h.step.tape, h.step.output, by rw [set_size]; exact h.step.size, fun i hi hn => (set_other (by omega)).trans (h.step.block i hi hn), h.step.sub⟩,
    fun i hi h1 h2 => (set_other (by omega)).trans (h.keep i hi h1 h2), h.tk, h.le⟩
theorem SInv.rset {w wr : World} {b : Nat} {F F' : Nat → Prop} {d : Dev} {T T' : Nat} {l : List Fate} {tv0 tv lv pv av : Value} {k kk : Nat} (h : SInv w wr b F F' d T T' l tv0 tv lv pv av k kk) (yi : Int) (dd : ByteArray) (hd : dd.size = 512) (W : World) (hW : Below wr.heap.size wr W) :
    Calls Tryd.prog 84 #[lv, .agg #[.int .i64 yi, .string dd]] W fun e w' => ∃ v', e = .returned v' ∧ w'.ownsRow W.heap.size 68 2 v' (setD (durK d.pend d.dur l k) yi dd).length (secCells (setD (durK d.pend d.dur l k) yi dd)) ∧ Below W.heap.size W w' := by
  have hdl := Dev.Ok.dur_len h.full.ok
  simp only [] at hdl
  exact rset_any (durK d.pend d.dur l k) lv ⟨yi, dd⟩ W ((secsIn_own h.full.body.last (by simp only []; omega)).keep hW) h.full.ok.rise hd (by omega)

theorem Tryd.info160 : (Tryd.prog.info? 160).map (fun i => (i.zero, i.size, i.bytes)) = some (some (.agg #[.int .i64 0, .string ⟨#[]⟩, .string ⟨#[]⟩, .string ⟨#[]⟩]), 4, 56) := by kernel_rfl
/-- What the append of a tear leaves. -/
theorem SInv.tear_grown {w wr W w1 : World} {b : Nat} {F F' : Nat → Prop} {d : Dev} {T T' : Nat} {l : List Fate} {tv0 tv lv pv av : Value} {k kk g c nb : Nat} {cs' : List Value} {nc : Array Value} (h : SInv w wr b F F' d T T' l tv0 tv lv pv av k kk) (hW : Below wr.heap.size wr W) (hz : W.heap.size = wr.heap.size + 1)
    (hr : w1.ownsRow 0 160 4 (.slice (some ⟨g, 0, none⟩) (T' + 1) c) (T' + 1) cs') (hg : W.grownBy w1 tv.ownBlock) (hat : tv.ownBlock = some g ∨ g = wr.heap.size + 1) (hn : wr.heap[nb]? = some (.cells nc 68 (0, 0))) (hnF : ¬ F' nb) :
    SInv w (w1.setCell ⟨b, 0, none⟩ (.slice (some ⟨g, 0, none⟩) (T' + 1) c)) b F (grow F' W w1) d T (T' + 1) l tv0 (.slice (some ⟨g, 0, none⟩) (T' + 1) c) lv pv av k (kk + 1) ∧ w1.cell? ⟨b, 0, none⟩ = some tv ∧ w1.frozen? ⟨b, 0, none⟩ = false ∧
      (w1.setCell ⟨b, 0, none⟩ (.slice (some ⟨g, 0, none⟩) (T' + 1) c)).heap[nb]? = some (.cells nc 68 (0, 0)) ∧ ¬ (grow F' W w1) nb := by
  have h2 := h.below hW
  obtain ⟨cs, hcs⟩ := h2.full.tears
  have hbb : tv.ownBlock ≠ some b := fun e => by
    obtain ⟨_, _, c, hc⟩ := owns_blk hcs b e
    rw [h2.full.body.blk] at hc
    simp at hc
  have hb1 : w1.heap[b]? = W.heap[b]? := hg.block b (h2.full.body.lt b h2.full.body.fb) (fun e => hbb e.symm)
  have hnl : nb < wr.heap.size := (Array.getElem?_eq_some_iff.1 hn).1
  have hnb : nb ≠ b := fun e => hnF (by rw [e]; exact h.full.body.fb)
  refine ⟨h2.tear hg.os hg.tape hg.output hg.size (fun k hk hne => hg.block k hk (fun e => hne e.symm)) hr (fun g' hg' => ?_), ?_, ?_, ?_, ?_⟩
  · simp only [Value.ownBlock, Option.some.injEq] at hg'
    subst hg'
    rcases hat with e | e
    · exact .inl e
    · exact .inr (by omega)
  · rw [cell_of_row _ _ _ _ _ _ (hb1.trans h2.full.body.blk)]; rfl
  · exact frozen_cells (hb1.trans h2.full.body.blk)
  · rw [set_other hnb, hg.block nb (by omega) (fun e => hnF (h.full.tf nb e.symm)), hW.block nb hnl]
    exact hn
  · rintro (h' | h')
    · exact hnF h'
    · omega

end Go.Proofs.YtdieacdkomiooabDoor
