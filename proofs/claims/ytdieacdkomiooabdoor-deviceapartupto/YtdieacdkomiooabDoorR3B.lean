import Derived.Test.YtdieacdkomiooabDoorR2B
namespace Go.Proofs.YtdieacdkomiooabDoor
open Go.RowKit Go.Maps

theorem SecsIn.cells {w : World} {v : Value} {l : List Sec} (h : SecsIn w v l) : ∃ a cap g off, v = .slice a l.length cap ∧ l.length ≤ 5864062014805 ∧ (0 < l.length → a = some ⟨g, off, none⟩) ∧ ∀ i (h : i < l.length), w.cell? ⟨g, off + i * 2, none⟩ = some (.int .i64 l[i].ix) ∧ w.cell? ⟨g, off + i * 2 + 1, none⟩ = some (.string l[i].dat) := by
  obtain ⟨a, cap, g, off, h1, h2, h3, h4⟩ := h
  exact ⟨a, cap, g, off, h1, h2, h3, fun i hi => ⟨h4 _ _ (secCells_get l i hi).1, h4 _ _ (secCells_get l i hi).2⟩⟩
theorem frozen_row {w : World} {g j : Nat} {cur : Array Value} {e : TypeId} (h : w.heap[g]? = some (.cells cur e (0, 0))) : w.frozen? ⟨g, j, none⟩ = false := by
  unfold World.frozen?
  rw [show w.heap[(⟨g, j, none⟩ : Addr).block]? = _ from h]
  simp
theorem set_row {w : World} {g j : Nat} {cur : Array Value} {e : TypeId} {v : Value} (h : w.heap[g]? = some (.cells cur e (0, 0))) : (w.setCell ⟨g, j, none⟩ v).heap[g]? = some (.cells (cur.setIfInBounds j v) e (0, 0)) := by
  unfold World.setCell
  simp only [Array.getElem?_modify, if_true]
  rw [h]
  rfl
theorem owns_drewN {w : World} {b e size n : Nat} {v : Value} {xs : List Value} (h : w.ownsRow b e size v n xs) (m : Nat) : (w.drewN m).ownsRow b e size v n xs := owns_block h fun _ _ => rfl
theorem below_set {n g j : Nat} {a w : World} {v : Value} (h : Below n a w) (hg : n ≤ g) : Below n a (w.setCell ⟨g, j, none⟩ v) :=
  ⟨h.os, h.tape, h.output, by have := h.size; simpa [World.setCell] using this, fun k hk => (Below.heap_setCell w ⟨g, j, none⟩ v k (fun e => by simp only [] at e; omega)).trans (h.block k hk)⟩


theorem RBody.added {w w2 : World} {b : Nat} {F : Nat → Prop} {d : Dev} {tv lv pv av : Value} (h : RBody w b F d tv lv pv av) (x : Sec) (g cap : Nat)
    (hr : w2.ownsRow 0 68 2 (.slice (some ⟨g, 0, none⟩) (d.dur.length + 1) cap) (d.dur.length + 1) (secCells (d.dur ++ [x]))) (hg : w.grownBy w2 lv.ownBlock) (hat : lv.ownBlock = some g ∨ w.heap.size ≤ g) (hpv : pv.ownBlock = none) :
    RBody (w2.setCell ⟨b, 2, none⟩ (.slice (some ⟨g, 0, none⟩) (d.dur.length + 1) cap)) b (fun k => F k ∨ k = g) { d with dur := d.dur ++ [x] } tv (.slice (some ⟨g, 0, none⟩) (d.dur.length + 1) cap) pv av ∧
      Step F (fun k => F k ∨ k = g) w (w2.setCell ⟨b, 2, none⟩ (.slice (some ⟨g, 0, none⟩) (d.dur.length + 1) cap)) := by
  have hlb : ∀ k, lv.ownBlock = some k → k < w.heap.size ∧ ∃ cur, w.heap[k]? = some (.cells cur 68 (0, 0)) := fun k hk => (owns_blk h.last k hk).2
  have hbl : some b ≠ lv.ownBlock := fun e => by
    obtain ⟨_, cur, hc⟩ := hlb b e.symm
    rw [h.blk] at hc; simp at hc
  have hbw : b < w.heap.size := (Array.getElem?_eq_some_iff.1 h.blk).1
  have hb2 : w2.heap[b]? = w.heap[b]? := hg.block b hbw hbl
  have hgb : g ≠ b := fun e => by
    rcases hat with h' | h'
    · exact hbl (by rw [h', e])
    · omega
  have hsz : (w2.setCell ⟨b, 2, none⟩ (.slice (some ⟨g, 0, none⟩) (d.dur.length + 1) cap)).heap.size = w2.heap.size := by simp [World.setCell]
  refine ⟨⟨?_, .inl h.fb, ?_, ?_, ?_, ?_, ?_⟩, ?_⟩
  · rw [set_row (hb2.trans h.blk)]
    rfl
  · have := owns_block hr (w' := w2.setCell ⟨b, 2, none⟩ (.slice (some ⟨g, 0, none⟩) (d.dur.length + 1) cap)) fun k hk => by
      simp only [Value.ownBlock, Option.some.injEq] at hk
      rw [Below.heap_setCell w2 ⟨b, 2, none⟩ _ k (by rw [← hk]; exact hgb)]
    simpa using this
  · intro k hk
    simp only [Value.ownBlock, Option.some.injEq] at hk
    exact .inr hk.symm
  · exact owns_block h.pend fun k hk => by rw [hpv] at hk; cases hk
  · intro k hk; rw [hpv] at hk; cases hk
  · intro k hk
    rw [hsz]
    rcases hk with hk | hk
    · exact Nat.lt_of_lt_of_le (h.lt k hk) hg.size
    · rw [hk]; exact (owns_blk hr g rfl).2.1
  · refine ⟨hg.os, hg.tape, hg.output, by rw [hsz]; exact hg.size, fun k hk hn => ?_, fun k hk => hk.elim .inl fun e => ?_⟩
    · rw [Below.heap_setCell w2 ⟨b, 2, none⟩ _ k (fun e => hn (by rw [e]; exact h.fb))]
      exact hg.block k hk (fun e => hn (h.lf k e.symm))
    · rcases hat with h' | h'
      · exact .inl (by rw [e]; exact h.lf g h')
      · exact .inr (by omega)

/-- What the document's Open leaves. -/
def ROpenPost (w : World) (n : Int) (l : List Sec) (e : Ending) (w' : World) : Prop :=
  (opens (newDev n).size 0 l = true ∧ ∃ b F, e = .returned (.tuple #[.pointer (some ⟨b, 0, none⟩), .int .i64 0]) ∧ (∃ lv, RBody w' b F { newDev n with dur := openD l } (.slice none 0 0) lv (.slice none 0 0) (.slice none 0 0)) ∧ Below w.heap.size w w' ∧ ∀ k, F k → w.heap.size ≤ k) ∨
  (opens (newDev n).size 0 l = false ∧ e = .returned (.tuple #[.pointer none, .int .i64 1]) ∧ Below w.heap.size w w')
structure RoInv (w wr : World) (b : Nat) (F : Nat → Prop) (n : Int) (l : List Sec) (k : Nat) (last : Int) (lv : Value) : Prop where
  body : RBody wr b F { newDev n with dur := openD (l.take k) } (.slice none 0 0) lv (.slice none 0 0) (.slice none 0 0)
  eq : opens (newDev n).size 0 l = opens (newDev n).size (last + 1) (l.drop k)
  bel : Below w.heap.size w wr
  far : ∀ k, F k → w.heap.size ≤ k
theorem rnew_body {w : World} {b : Nat} {F : Nat → Prop} {n : Int} (h : RAt w b F (newDev n)) (hn : ∀ tv lv pv av, RBody w b F (newDev n) tv lv pv av → tv = .slice none 0 0 ∧ lv = .slice none 0 0 ∧ pv = .slice none 0 0 ∧ av = .slice none 0 0) : RBody w b F (newDev n) (.slice none 0 0) (.slice none 0 0) (.slice none 0 0) (.slice none 0 0) := by
  obtain ⟨tv, lv, pv, av, h⟩ := h
  obtain ⟨rfl, rfl, rfl, rfl⟩ := hn tv lv pv av h
  exact h
theorem openD_next (l : List Sec) (k : Nat) (h : k < l.length) : openD (l.take (k + 1)) = openD (l.take k) ++ (if allZ l[k].dat then [] else [l[k]]) := by
  unfold openD
  rw [List.take_succ_eq_append_getElem h, List.filter_append]
  congr 1
  cases hz : allZ l[k].dat <;> simp [hz]
theorem opens_drop (size last : Int) (l : List Sec) (k : Nat) (h : k < l.length) : opens size (last + 1) (l.drop k) = (decide (last + 1 ≤ l[k].ix ∧ l[k].ix < size ∧ l[k].dat.size = 512) && opens size (l[k].ix + 1) (l.drop (k + 1))) := by
  rw [List.drop_eq_getElem_cons h]
  rfl

set_option maxHeartbeats 400000 in
theorem rnew_any' (n : Int) (w : World) : Calls Tryd.prog 53 #[.int .i64 n] w fun e w' => ∃ b F, e = .returned (.pointer (some ⟨b, 0, none⟩)) ∧ RBody w' b F (newDev n) (.slice none 0 0) (.slice none 0 0) (.slice none 0 0) (.slice none 0 0) ∧ Below w.heap.size w w' ∧ ∀ k, F k → w.heap.size ≤ k := by
  have HC := Hid.mk'' (rclamp_any n w)
  have HN : Hid (RBody (w.alloc (.cells #[.slice none 0 0, .int .i64 (clampN n 0 8388615), .slice none 0 0, .slice none 0 0, .bool false, .slice none 0 0, .int .i64 0, .int .i64 0, .int .i64 0] 112)) w.heap.size (fun k => k = w.heap.size) (newDev n) (.slice none 0 0) (.slice none 0 0) (.slice none 0 0) (.slice none 0 0)) :=
    ⟨Array.getElem?_push_size, rfl, World.ownsRow_nil _ _ _ _, fun g hg => by simp [Value.ownBlock] at hg, World.ownsRow_nil _ _ _ _, fun g hg => by simp [Value.ownBlock] at hg, fun k hk => by rw [hk]; simp⟩
  generalize clampN n 0 8388615 = s at *
  go_enter Tryd.func53, Tryd.ntmps53
  go_wp2_with fail
  refine HC.out.mono ?_
  rintro e w' ⟨rfl, rfl⟩
  go_wp2_with fail
  go_ret
  exact ⟨_, _, rfl, HN.out, below_new _ _, fun k hk => by rw [hk]; exact Nat.le_refl _⟩

set_option maxRecDepth 100000 in
set_option maxHeartbeats 1600000 in
theorem ropen_any (n : Int) (l : List Sec) (v : Value) (w : World) (hv : SecsIn w v l) : Calls Tryd.prog 21 #[.int .i64 n, v] w (ROpenPost w n l) := by
  obtain ⟨a, cap, g, off, rfl, hl, ha, hc⟩ := hv.cells
  obtain ⟨i0, hi, hz0, hz1, hz2⟩ := info_parts Tryd.info68
  obtain ⟨N, hN⟩ : ∃ N, N = l.length := ⟨_, rfl⟩
  have HN : Hid (N = l.length) := hN
  have HCC : Hid (∀ i (h : i < l.length), w.cell? ⟨g, off + i * 2, none⟩ = some (.int .i64 l[i].ix) ∧ w.cell? ⟨g, off + i * 2 + 1, none⟩ = some (.string l[i].dat)) := hc
  have HNW := Hid.mk'' (rnew_any' n w)
  have HD0 : Hid (openD (l.take 0) = []) := by simp [openD, Hid]
  rw [← hN] at hl ha ⊢
  clear hc hN hv
  go_enter Tryd.func21, Tryd.ntmps21
  go_wp2_with fail
  refine HNW.out.mono ?_
  rintro e w1 ⟨b, F, rfl, hbd, hb1, hF⟩
  have HI : Hid (RoInv w w1 b F n l 0 (-1) (.slice none 0 0)) := ⟨by rw [HD0.out]; exact hbd, by simp, hb1, hF⟩
  clear HNW hbd hb1 hF
  go_wp2_with fail
  go_loopw [7, 8] (fun la i wr => ∃ (k : Nat) (last : Int) (F' : Nat → Prop) (lv : Value), k ≤ N ∧ i = .int .i64 (k : Int) ∧ la = .int .i64 last ∧ RoInv w wr b F' n l k last lv) (fun _ i _ => N - (intOf i).toNat)
  case atStart => exact ⟨0, -1, F, .slice none 0 0, Nat.zero_le _, rfl, rfl, HI.out⟩
  case round =>
    obtain ⟨k, last, F', lv, hk, rfl, rfl, inv⟩ := hrel
    have INV : Hid (RoInv w wr b F' n l k last lv) := inv
    have c1 : wr.cell? ⟨b, 1, none⟩ = some (.int .i64 (newDev n).size) := inv.body.cell 1
    have c2 : wr.cell? ⟨b, 2, none⟩ = some lv := inv.body.cell 2
    clear inv HI
    by_cases hlt : k < N
    · obtain rfl := ha (by omega)
      have hkl : k < l.length := by rw [← HN.out]; exact hlt
      have x0 := cell_below INV.out.bel (HCC.out k hkl).1
      have x1 := cell_below INV.out.bel (HCC.out k hkl).2
      have k0 : (0 : Int) ≤ (k : Int) := Int.natCast_nonneg _
      have k1 : (k : Int) < (N : Int) := by omega
      have HOD : Hid (opens (newDev n).size 0 l = (decide (last + 1 ≤ l[k].ix ∧ l[k].ix < (newDev n).size ∧ l[k].dat.size = 512) && opens (newDev n).size (l[k].ix + 1) (l.drop (k + 1)))) := INV.out.eq.trans (opens_drop _ last l k hkl)
      have HNX := Hid.mk'' (openD_next l k hkl)
      have HZR : Hid (∀ w', l[k].dat.size = 512 → Calls Tryd.prog 54 #[.string l[k].dat] w' fun e w'' => e = .returned (.bool (allZ l[k].dat)) ∧ w' = w'') := fun w' h => rzero_any _ w' (by omega)
      have HXX : Hid (secCells [l[k]] = [.int .i64 l[k].ix, .string l[k].dat]) := rfl
      obtain ⟨sz, hsz⟩ : ∃ sz, sz = (newDev n).size := ⟨_, rfl⟩
      have HSZ : Hid (sz = (newDev n).size) := hsz
      rw [← hsz] at c1 HOD
      clear hsz
      generalize hxx : l[k] = X at *
      obtain ⟨xi, xd⟩ := X
      simp only [] at x0 x1 HOD HNX HZR HXX
      by_cases h1 : xi ≤ last
      · have HR : Hid (opens (newDev n).size 0 l = false) := by show _ = _; rw [← HSZ.out, HOD.out, decide_eq_false (by omega)]; rfl
        clear HOD HNX HZR HXX
        go_wp2_with fail
        go_quiet (fail)
        go_wp2_with fail
        go_ret2
        exact .inr ⟨HR.out, rfl, below_drewN INV.out.bel _⟩
      · by_cases h2 : sz ≤ xi
        · have HR : Hid (opens (newDev n).size 0 l = false) := by show _ = _; rw [← HSZ.out, HOD.out, decide_eq_false (by omega)]; rfl
          clear HOD HNX HZR HXX
          go_wp2_with fail
          go_quiet (fail)
          go_wp2_with fail
          go_ret2
          exact .inr ⟨HR.out, rfl, below_drewN INV.out.bel _⟩
        · by_cases h3 : xd.size = 512
          · have HEQ : Hid (opens (newDev n).size 0 l = opens (newDev n).size (xi + 1) (l.drop (k + 1))) := by
              show _ = _
              rw [← HSZ.out, HOD.out, decide_eq_true ⟨by omega, by omega, h3⟩]; rfl
            have h3' : ((xd.size : Int) != 512) = false := by simp [h3]
            clear HOD
            go_wp2_with fail
            go_quiet (fail)
            go_wp2_with fail
            refine (HZR.out _ h3).mono ?_
            rintro e w' ⟨rfl, rfl⟩
            cases hz : allZ xd
            · clear HZR
              obtain ⟨la, lc, hle, -⟩ := owns_form INV.out.body.last
              obtain ⟨M, hM⟩ : ∃ M, M = ({ newDev n with dur := openD (l.take k) } : Dev).dur.length := ⟨_, rfl⟩
              rw [← hM] at hle
              subst hle
              have HM : Hid (M = ({ newDev n with dur := openD (l.take k) } : Dev).dur.length) := hM
              have hMk : M ≤ k := by rw [hM]; show (openD (l.take k)).length ≤ k; exact Nat.le_trans (List.length_filter_le _ _) (by rw [List.length_take]; omega)
              have HRW : Hid (wr.ownsRow 0 68 2 (.slice la M lc) M (secCells (openD (l.take k)))) := by
                have := INV.out.body.last
                rw [← hM] at this
                exact this
              clear hM
              have hnb := World.new_ne wr ⟨b, 2, none⟩ c2
              have hnb' : ¬ b = wr.heap.size := fun h => hnb h.symm
              have hbl : some b ≠ (Value.slice la M lc).ownBlock := fun e => by
                obtain ⟨_, _, cur, hc⟩ := owns_blk HRW.out b e.symm
                have := INV.out.body.blk
                rw [hc] at this; simp at this
              have HBL : Hid (some b ≠ (Value.slice la M lc).ownBlock) := hbl
              clear hbl
              go_wp2_with fail
              obtain ⟨wq, hwq⟩ : ∃ wq, wq = wr.drewN nq := ⟨_, rfl⟩
              have HWQ : Hid (wq = wr.drewN nq) := hwq
              have c2q : wq.cell? ⟨b, 2, none⟩ = some (.slice la M lc) := by rw [hwq]; exact c2
              have x0q : wq.cell? ⟨g, off + k * 2, none⟩ = some (.int .i64 xi) := by rw [hwq]; exact x0
              have x1q : wq.cell? ⟨g, off + k * 2 + 1, none⟩ = some (.string xd) := by rw [hwq]; exact x1
              have HRQ : Hid (wq.ownsRow 0 68 2 (.slice la M lc) M (secCells (openD (l.take k)))) := by rw [hwq]; exact owns_block HRW.out (fun _ _ => rfl)
              have HBK : Hid (wq.heap[b]? = some (.cells #[.slice none 0 0, .int .i64 (newDev n).size, .slice la M lc, .slice none 0 0, .bool false, .slice none 0 0, .int .i64 0, .int .i64 0, .int .i64 0] 112 (0, 0))) := by rw [hwq]; exact INV.out.body.blk
              have c2a : (wq.alloc (.cells #[.int .i64 xi, .string xd] 68)).cell? ⟨b, 2, none⟩ = some (.slice la M lc) := cell_below (below_new wq _) c2q
              have hnq := World.new_ne wq ⟨b, 2, none⟩ c2q
              have hnq2 := World.new_ne wq ⟨g, off + k * 2, none⟩ x0q
              have HBQ : Hid (b < wq.heap.size) := World.block_lt_of_cell? wq _ c2q
              rw [← hwq]
              clear c1 c2 x0 x1 hnb hnb' hwq
              go_region_law ((refine step_append_lies _ (by rfl) _ _ 22 (by rfl) 0 68 i0 (.agg #[.int .i64 0, .string ⟨#[]⟩]) 2 24 Tryd.underlying22 hi hz0 hz1 hz2 rfl (by decide) (.slice la M lc) M _ (by rfl) (by first | exact owns_block (HRQ.out.alloc _) (fun _ _ => rfl) | exact HRQ.out.alloc _ | exact (owns_drewN HRQ.out 1).alloc _) ⟨wq.heap.size, 0, none⟩ 1 1 [.int .i64 xi, .string xd] (by rfl) rfl (World.news_of_block (by first | exact heap_alloc_new wq _ | exact heap_alloc_new _ _)) (fun u hu => by simp at hu; rcases hu with rfl | rfl <;> rfl) (by decide) (by unfold maxLen; omega) (by omega) (Nat.zero_le _) (wq.heap.size + 1) (by simp) ?_; intro g2 cap2 w2 hown2 hgrow2 hat2 hlg2; have hgb2 : w2.heap[b]? = some (.cells #[.slice none 0 0, .int .i64 (newDev n).size, .slice la M lc, .slice none 0 0, .bool false, .slice none 0 0, .int .i64 0, .int .i64 0, .int .i64 0] 112 (0, 0)) := (hgrow2.block b (by have := HBQ.out; simp; omega) HBL.out).trans (((below_new wq _).block b HBQ.out).trans HBK.out); have z2 : w2.cell? ⟨b, 2, none⟩ = some (.slice la M lc) := (by rw [cell_of_row _ _ _ _ _ _ hgb2]; rfl); have fz2 : w2.frozen? ⟨b, 2, none⟩ = false := frozen_row hgb2))
              all_goals
                have V : RoInv w (w2.setCell ⟨b, 2, none⟩ (.slice (some ⟨g2, 0, none⟩) (M + 1) cap2)) b (fun j => F' j ∨ j = g2) n l (k + 1) xi (.slice (some ⟨g2, 0, none⟩) (M + 1) cap2) := by
                  have hx : (wq.alloc (.cells #[.int .i64 xi, .string xd] 68)).grownBy w2 (Value.slice la M lc).ownBlock := ⟨hgrow2.os, hgrow2.tape, hgrow2.output, hgrow2.size, hgrow2.block⟩
                  have hy := (World.grownBy_alloc wq (.cells #[.int .i64 xi, .string xd] 68) (Value.slice la M lc).ownBlock).trans hx
                  rw [HWQ.out] at hy
                  have hz' : wr.grownBy w2 (Value.slice la M lc).ownBlock := ⟨hy.os, hy.tape, hy.output, hy.size, hy.block⟩
                  have hs : wq.heap.size = wr.heap.size := by rw [HWQ.out]; rfl
                  have AD := INV.out.body.added (w2 := w2) ⟨xi, xd⟩ g2 cap2 (by
                    rw [← HM.out, secCells_app]
                    exact hown2) hz' (hat2.imp id (fun e => by omega)) rfl
                  rw [← HM.out] at AD
                  have e := HNX.out
                  rw [hz, if_neg (by simp)] at e
                  refine ⟨by rw [e]; exact AD.1, HEQ.out, INV.out.bel.trans (AD.2.below INV.out.far INV.out.bel.size), AD.2.ge INV.out.far INV.out.bel.size⟩
                have HV := Hid.mk'' V
                clear V hown2 hgrow2 hat2 hlg2 hgb2 z2 fz2 HNX HEQ HXX HRQ HRW HBK HBL
                go_wp2_with fail
                go_roundw
                case rel => exact ⟨k + 1, xi, _, _, by omega, by go_num, rfl, HV.out⟩
                case measure => simp [intOf]; omega
            · have HV : ∀ m, RoInv w (wr.drewN m) b F' n l (k + 1) xi lv := fun m => ⟨by
                have e := HNX.out
                rw [hz, if_pos rfl, List.append_nil] at e
                rw [e]
                have B := INV.out.body
                exact ⟨B.blk, B.fb, owns_block B.last (fun _ _ => rfl), B.lf, owns_block B.pend (fun _ _ => rfl), B.pf, B.lt⟩, HEQ.out, below_drewN INV.out.bel m, INV.out.far⟩
              have HV' := Hid.mk'' HV
              clear HV HNX HEQ HZR HXX
              go_wp2_with fail
              go_roundw
              case rel => exact ⟨k + 1, xi, F', lv, by omega, by go_num, rfl, HV'.out _⟩
              case measure => simp [intOf]; omega
          · have HR : Hid (opens (newDev n).size 0 l = false) := by show _ = _; rw [← HSZ.out, HOD.out, decide_eq_false (by omega)]; rfl
            have h3' : ((xd.size : Int) != 512) = true := by rw [bne_iff_ne]; omega
            clear HOD HNX HZR HXX
            go_wp2_with fail
            go_quiet (fail)
            go_wp2_with fail
            go_ret2
            exact .inr ⟨HR.out, rfl, below_drewN INV.out.bel _⟩
    · have hke : k = l.length := by rw [← HN.out]; omega
      have HR : Hid (ROpenPost w n l (.returned (.tuple #[.pointer (some ⟨b, 0, none⟩), .int .i64 0])) wr) := by
        have B := INV.out.body
        rw [hke, List.take_length] at B
        have e := INV.out.eq
        rw [hke, List.drop_length] at e
        exact .inl ⟨e, b, F', rfl, ⟨_, B⟩, INV.out.bel, INV.out.far⟩
      go_wp2_with fail
      go_ret2
      exact HR.out

end Go.Proofs.YtdieacdkomiooabDoor
