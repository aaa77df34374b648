import Derived.Test.YtdieacdkomiooabDoorM6
namespace Go.Proofs.YtdieacdkomiooabDoor
open Go.RowKit Go.Maps

theorem Tryd.info68 : (Tryd.prog.info? 68).map (fun i => (i.zero, i.size, i.bytes)) = some (some (.agg #[.int .i64 0, .string ⟨#[]⟩]), 2, 24) := by kernel_rfl
theorem newD_put {D : DataW Unit} {l : List Sec} (h : NewD D l) (hD : Maps.IsMap D) (x : Sec) : NewD (D.put (.int .i64 x.ix) (.lit (.int .i64 (l.length : Int)))) (l ++ [x]) := by
  intro i
  have hk : WideAt.IsKeyLit (.int .i64 x.ix) := trivial
  rw [lastIx_snoc]
  by_cases e : x.ix = i
  · subst e
    refine ⟨by rw [Maps.has_put_same hD hk, if_pos rfl]; rfl, fun k hk' => ?_⟩
    rw [if_pos rfl] at hk'
    rw [Maps.atKey_put_same hD hk, ← Option.some.inj hk']
  · have ne : (Lit.int .i64 i) ≠ .int .i64 x.ix := fun h => e (by simpa using h.symm)
    rw [if_neg e]
    refine ⟨by rw [Maps.has_put_other ne]; exact (h i).1, fun k hk' => ?_⟩
    rw [Maps.atKey_put_other ne]
    exact (h i).2 k hk'
/-- A device behind one more pending write. -/
theorem DevBody.pended {w w1 w2 w3 : World} {b : Nat} {F : Nat → Prop} {d : Dev} {mb nb : Nat} {pv av : Value} {Dn : DataW Unit} (h : DevBody w b F d mb nb pv av Dn) (x : Sec) (hx : SecOk d.size x)
    (hm : w1.ownsMap Tryd.prog 3 (plainElem Tryd.prog 3) nb (d.pend.length + 1) (Dn.put (.int .i64 x.ix) (.lit (.int .i64 (d.pend.length : Int))))) (hg1 : w.grownBy w1 (some nb))
    (g cap : Nat) (hr : w2.ownsRow 0 68 2 (.slice (some ⟨g, 0, none⟩) (d.pend.length + 1) cap) (d.pend.length + 1) (secCells (d.pend ++ [x]))) (hg2 : w1.grownBy w2 pv.ownBlock) (hat : pv.ownBlock = some g ∨ w.heap.size ≤ g)
    (hw3 : w3 = w2.setCell ⟨b, 2, none⟩ (.slice (some ⟨g, 0, none⟩) (d.pend.length + 1) cap)) :
    DevBody w3 b (fun k => F k ∨ k = g) { d with pend := d.pend ++ [x] } mb nb (.slice (some ⟨g, 0, none⟩) (d.pend.length + 1) cap) av (Dn.put (.int .i64 x.ix) (.lit (.int .i64 (d.pend.length : Int)))) ∧ Step F (fun k => F k ∨ k = g) w w3 := by
  have hpb : ∀ k, pv.ownBlock = some k → k < w.heap.size ∧ ∃ cur, w.heap[k]? = some (.cells cur 68 (0, 0)) := fun k hk => (owns_blk h.pend k hk).2
  have hsz : w2.heap.size = w3.heap.size := by rw [hw3]; simp [World.setCell]
  have hs2 : w.heap.size ≤ w2.heap.size := Nat.le_trans hg1.size hg2.size
  have hne : ∀ k, k < w.heap.size → k ≠ b → k ≠ nb → some k ≠ pv.ownBlock → w3.heap[k]? = w.heap[k]? := fun k h1 h2 h3 h4 => by
    rw [hw3, Below.heap_setCell w2 ⟨b, 2, none⟩ _ k h2, hg2.block k (Nat.lt_of_lt_of_le h1 hg1.size) h4, hg1.block k h1 (fun e => h3 (Option.some.inj e))]
  have hbp : some b ≠ pv.ownBlock := fun e => by
    obtain ⟨_, cur, hc⟩ := hpb b e.symm
    rw [h.blk] at hc; simp at hc
  have hmp : ∀ m n R D, w.ownsMap Tryd.prog 3 R m n D → some m ≠ pv.ownBlock := fun m n R D hm e => by
    obtain ⟨_, cur, hc⟩ := hpb m e.symm
    exact map_ne_cells hm hc rfl
  have hbn : b ≠ nb := map_ne_cells h.mapN h.blk
  have hbm : b ≠ mb := map_ne_cells h.mapD h.blk
  have hty : ∀ k (cur : Array Value) (e : TypeId), w.heap[k]? = some (Obj.cells cur e (0, 0)) → e ≠ 97 → e ≠ 68 → w3.heap[k]? = w.heap[k]? := fun k cur e hk h1 h2 => by
    refine hne k (Array.getElem?_eq_some_iff.1 hk).1 (fun hb => ?_) (map_ne_cells h.mapN hk) (fun he => ?_)
    · rw [hb, h.blk] at hk; simp at hk; exact h1 hk.2.symm
    · obtain ⟨_, c, hc⟩ := hpb k he.symm
      rw [hk] at hc; simp at hc; exact h2 hc.2
  have hb2 : w2.heap[b]? = w.heap[b]? := by
    rw [hg2.block b (Nat.lt_of_lt_of_le (Array.getElem?_eq_some_iff.1 h.blk).1 hg1.size) hbp, hg1.block b (Array.getElem?_eq_some_iff.1 h.blk).1 (fun e => hbn (Option.some.inj e))]
  have hgb : g ≠ b := fun e => by
    rcases hat with h' | h'
    · exact hbp (by rw [h', e])
    · have := (Array.getElem?_eq_some_iff.1 h.blk).1; omega
  refine ⟨⟨?_, .inl h.fb, .inl h.fm, .inl h.fn, h.ne, ownsMap_block h.mapD (hne mb h.mapD.lt hbm.symm h.ne (hmp _ _ _ _ h.mapD)), ?_, newD_put h.new h.mapN.isMap x, ?_, ?_, ?_, ?_, ?_⟩, ?_⟩
  · rw [hw3]
    unfold World.setCell
    simp only [Array.getElem?_modify, if_true]
    rw [hb2, h.blk]
    rfl
  · have := ownsMap_block hm (w' := w3) (by
      rw [hw3, Below.heap_setCell w2 ⟨b, 2, none⟩ _ nb hbn.symm, hg2.block nb hm.lt (hmp _ _ _ _ h.mapN)])
    simpa using this
  · have := owns_block hr (w' := w3) fun k hk => by
      simp only [Value.ownBlock, Option.some.injEq] at hk
      rw [hw3, Below.heap_setCell w2 ⟨b, 2, none⟩ _ k (by rw [← hk]; exact hgb)]
    simpa using this
  · intro k hk
    simp only [Value.ownBlock, Option.some.injEq] at hk
    exact .inr hk.symm
  · exact (h.arms.block fun k cur hk _ => by
      rcases hk with hk | hk
      · exact hty k cur _ hk (by decide) (by decide)
      · exact hty k cur _ hk (by decide) (by decide)).imp fun k hk => .inl hk
  · refine ⟨h.ok.s0, h.ok.s1, h.ok.dur, h.ok.rise, fun y hy => ?_, h.ok.arms⟩
    rcases List.mem_append.1 hy with e | e
    · exact h.ok.pend y e
    · rw [List.mem_singleton.1 e]; exact hx
  · intro i hi
    rw [← hsz]
    rcases hi with hi | hi
    · exact Nat.lt_of_lt_of_le (h.lt i hi) hs2
    · rw [hi]; exact (owns_blk hr g rfl).2.1
  · refine ⟨?_, ?_, ?_, by omega, fun k hk hn => hne k hk (fun e => hn (by rw [e]; exact h.fb)) (fun e => hn (by rw [e]; exact h.fn)) (fun e => hn (h.pf k e.symm)), fun k hk => hk.elim .inl fun e => ?_⟩
    · rw [hw3]; exact hg2.os.trans hg1.os
    · rw [hw3]; exact hg2.tape.trans hg1.tape
    · rw [hw3]; exact hg2.output.trans hg1.output
    · rcases hat with h' | h'
      · exact .inl (by rw [e]; exact h.pf g h')
      · exact .inr (by omega)

end Go.Proofs.YtdieacdkomiooabDoor
