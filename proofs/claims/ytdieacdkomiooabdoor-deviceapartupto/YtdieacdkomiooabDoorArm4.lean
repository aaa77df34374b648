import Derived.Test.YtdieacdkomiooabDoorArm3
import Derived.Deep.RegionLaw
namespace Go.Proofs.YtdieacdkomiooabDoor
open Go.RowKit Go.Maps

theorem step_append_arm {ops : Array Oper} {o : Oper} {a : Act} {K : Act → World → Prop} {Q : Exit → Act → World → Prop} {E : Prop} (w : World) (hgd : o.guard = none) (s x : Operand)
    (ho : o.op = .call { callee := .builtin .append, args := #[s, x], argTypes := #[95, 95] })
    (v : Value) (l : List Armed) (F : Nat → Prop) (hs : a.eval s = v) (h : ArmsAt w F v l) (B n0 : Nat) (u0 : Int) (fs : List Fate) (u1 : Value) (hx : a.eval x = .slice (some ⟨B, 0, none⟩) 1 1) (hB : w.heap[B]? = some (.cells #[.int .i64 u0, u1] 130 (0, 0)))
    (hf : w.ownsRow n0 92 4 u1 fs.length (fateCells fs)) (h0 : n0 ≤ w.heap.size) (hn : (l.length + 1) * 32 ≤ 140737488355328)
    (hK : ∀ g off cap w', ArmsAt w' (fun k => F k ∨ (n0 ≤ k ∧ k < w'.heap.size)) (.slice (some ⟨g, off, none⟩) (l.length + 1) cap) (l ++ [⟨u0, fs⟩]) → ArmStep w w' F g → K (a.put o.dst (.slice (some ⟨g, off, none⟩) (l.length + 1) cap)) w') :
    if Region.wanted o (yielded ops a.tmps) = true then Oper.wp Tryd.prog o a w K Q else E := by
  have hw : Region.wanted o (yielded ops a.tmps) = true := by simp [Region.wanted, hgd]
  rw [if_pos hw]
  obtain ⟨g, off, cap, w', hr, h2, h3⟩ := arm_append o.type w v l F h B n0 u0 fs u1 hB hf h0 hn
  unfold Oper.wp execOp
  simp only [ho, resolve, invoke, builtin, Sem.run_bind, Sem.run_pure, Result.andThen_ok, List.map_toArray, List.map_cons, List.map_nil, hs, hx, hr]
  exact hK g off cap w' h2 h3

theorem step_ownf {ops : Array Oper} {o : Oper} {a : Act} {K : Act → World → Prop} {Q : Exit → Act → World → Prop} {E : Prop} (w : World) (hgd : o.guard = none) (x : Operand) (v0 : Value)
    (ho : o.op = .call { callee := .value (.func 79), args := #[x], argTypes := #[26] }) (hx : a.eval x = v0)
    (h : Calls Tryd.prog 79 #[v0] w fun e w' => ∃ v, e = .returned v ∧ K (a.put o.dst v) w') :
    if Region.wanted o (yielded ops a.tmps) = true then Oper.wp Tryd.prog o a w K Q else E := by
  have hw : Region.wanted o (yielded ops a.tmps) = true := by simp [Region.wanted, hgd]
  rw [if_pos hw]
  have hrun : (execOp a.eval o).run Tryd.prog w = .ok (.enter 79 #[v0]) w := by
    have he : execOp a.eval o = callFunc 79 #[v0] := by
      obtain ⟨dst, op, ty, pos, after, guard⟩ := o
      simp only [] at ho
      subst ho
      have hy : execOp a.eval { dst := dst, op := .call { callee := .value (.func 79), args := #[x], argTypes := #[26] }, type := ty, pos := pos, after := after, guard := guard } = callFunc 79 (#[] ++ #[x].map a.eval ++ #[]) := rfl
      rw [hy]
      simp [hx]
    rw [he]
    simp [callFunc, go_sem, Tryd.func79, Tryd.f79]
  unfold Oper.wp
  rw [hrun]
  refine h.mono ?_
  rintro e w' ⟨v, rfl, hk⟩
  exact hk

/-- A device with one arm more. -/
theorem DevBody.armed {w w2 : World} {b : Nat} {F : Nat → Prop} {d : Dev} {mb nb : Nat} {pv av v' : Value} {Dn : DataW Unit} {a : Armed} {g n0 : Nat} (h : DevBody w b F d mb nb pv av Dn) (hw : w.heap.size ≤ n0 + 0) (h0 : n0 ≤ w.heap.size)
    (ha : ArmsAt w2 (fun k => F k ∨ (n0 ≤ k ∧ k < w2.heap.size)) v' (d.arms ++ [a])) (hs : ArmStep w w2 F g) (hok : 0 ≤ a.after ∧ a.after < 9223372036854775808) :
    DevBody (w2.setCell ⟨b, 4, none⟩ v') b (fun k => F k ∨ (n0 ≤ k ∧ k < w2.heap.size)) { d with arms := d.arms ++ [a] } mb nb pv v' Dn ∧ Step F (fun k => F k ∨ (n0 ≤ k ∧ k < w2.heap.size)) w (w2.setCell ⟨b, 4, none⟩ v') := by
  have hne : ∀ k, k < w.heap.size → (∀ cur, w.heap[k]? ≠ some (.cells cur 130 (0, 0))) → w2.heap[k]? = w.heap[k]? := fun k hk hn => hs.block k hk (fun e => by
    obtain ⟨_, cur, hc⟩ := hs.at' (by omega)
    exact hn cur (by rw [e]; exact hc))
  have hb2 : w2.heap[b]? = some (.cells (devCells d mb nb pv av) 97 (0, 0)) := (hne b (h.lt b h.fb) (fun cur hc => by rw [h.blk] at hc; simp at hc)).trans h.blk
  have hkeep : ∀ k, k < w.heap.size → k ≠ b → (∀ cur, w.heap[k]? ≠ some (.cells cur 130 (0, 0))) → (w2.setCell ⟨b, 4, none⟩ v').heap[k]? = w.heap[k]? := fun k hk h1 h2 => (set_other h1).trans (hne k hk h2)
  refine ⟨⟨?_, .inl h.fb, .inl h.fm, .inl h.fn, h.ne, ?_, ?_, h.new, ?_, fun k hk => .inl (h.pf k hk), ?_, ?_, ?_⟩, ⟨hs.os, hs.tape, hs.output, by rw [set_size]; exact hs.size, fun k hk hn => ?_, fun k hk => ?_⟩⟩
  · exact set_cells hb2
  · exact ownsMap_block h.mapD (hkeep mb h.mapD.lt (fun e => map_ne_cells h.mapD h.blk e.symm) (fun cur hc => map_ne_cells h.mapD hc rfl))
  · exact ownsMap_block h.mapN (hkeep nb h.mapN.lt (fun e => map_ne_cells h.mapN h.blk e.symm) (fun cur hc => map_ne_cells h.mapN hc rfl))
  · refine owns_block h.pend fun k hk => ?_
    obtain ⟨_, hlt, c, hc⟩ := owns_blk h.pend k hk
    exact hkeep k hlt (fun e => by rw [e, h.blk] at hc; simp at hc) (fun cur hc' => by rw [hc] at hc'; simp at hc')
  · refine ha.block fun k cur hk _ => ?_
    refine set_other (fun e => ?_)
    rcases hk with hk | hk <;> (rw [e, hb2] at hk; simp at hk)
  · refine ⟨h.ok.s0, h.ok.s1, h.ok.dur, h.ok.rise, h.ok.pend, fun x hx => ?_⟩
    rcases List.mem_append.1 hx with hx | hx
    · exact h.ok.arms x hx
    · rw [List.mem_singleton.1 hx]; exact hok
  · rintro k (hk | ⟨_, hk⟩)
    · rw [set_size]; exact Nat.lt_of_lt_of_le (h.lt k hk) hs.size
    · rw [set_size]; exact hk
  · exact (set_other (fun e => hn (by rw [e]; exact h.fb))).trans (hs.block k hk (fun e => hn (by rw [e]; exact (hs.at' (by omega)).1)))
  · rcases hk with hk | ⟨hk, _⟩
    · exact .inl hk
    · exact .inr (by omega)

theorem bdrew1 {n : Nat} {a w : World} (h : Below n a w) : Below n a w.drew := ⟨h.os, h.tape, h.output, h.size, h.block⟩
theorem ArmStep.after {w wa w2 : World} {F : Nat → Prop} {g : Nat} (hb : Below w.heap.size w wa) (h : ArmStep wa w2 F g) : ArmStep w w2 F g :=
  ⟨h.os.trans hb.os, h.tape.trans hb.tape, h.output.trans hb.output, Nat.le_trans hb.size h.size, fun k hk hn => (h.block k (Nat.lt_of_lt_of_le hk hb.size) hn).trans (hb.block k hk),
    fun hg => by
      obtain ⟨h1, cur, h2⟩ := h.at' (Nat.lt_of_lt_of_le hg hb.size)
      exact ⟨h1, cur, (hb.block g hg).symm.trans h2⟩, h.lt⟩
theorem ArmsAt.below {w w' : World} {F : Nat → Prop} {v : Value} {l : List Armed} (h : ArmsAt w F v l) (hb : ∀ k, F k → w'.heap[k]? = w.heap[k]?) : ArmsAt w' F v l := h.block fun k _ _ hk => hb k hk

set_option maxRecDepth 100000 in
set_option maxHeartbeats 1600000 in
theorem arm_any (b : Nat) (F : Nat → Prop) (d : Dev) (w : World) (h : DevAt w b F d) (n : Int) (l : List Fate) (fv : Value) (hl : w.ownsRow 0 92 4 fv l.length (fateCells l)) (hb : l.length ≤ 3518437208883) (hn : n < 9223372036854775808) (ha : (d.arms.length + 1) * 32 ≤ 140737488355328) :
    Calls Tryd.prog 45 #[.pointer (some ⟨b, 0, none⟩), .int .i64 n, fv] w fun e w' => e = .returned (.tuple #[]) ∧ DevPost w b F (d.arm n l) w' := by
  obtain ⟨mb, nb, pv, av, Dn, h⟩ := h
  have c4 : w.cell? ⟨b, 4, none⟩ = some av := h.cell 4
  have f4 : w.frozen? ⟨b, 4, none⟩ = false := h.frozen 4
  have HH := Hid.mk2 h
  have HLT := Hid.mk2 h.lt
  have HAR := Hid.mk2 h.arms
  have HOW : Hid (∀ w', Below w.heap.size w w' → Calls Tryd.prog 79 #[fv] w' fun e w'' => ∃ v', e = .returned v' ∧ w''.ownsRow w'.heap.size 92 4 v' l.length (fateCells (l.map shortF)) ∧ Below w'.heap.size w' w'') := fun w' hb' => ownf_any l fv w' (owns_below hl hb') hb
  obtain ⟨fa, fc, rfl, -⟩ := owns_form hl
  obtain ⟨va, vn, vc, rfl⟩ : ∃ va vn vc, av = .slice va vn vc := by
    rcases h.arms with ⟨_, h2⟩ | ⟨g, off, cap, cur, fv, h2, _⟩
    · exact ⟨_, _, _, h2⟩
    · exact ⟨_, _, _, h2⟩
  have HLL : Hid (l.length = (l.map shortF).length) := by simp [Hid]
  have HB4 : Hid (∀ wa w2 g2, Below w.heap.size w wa → ArmStep wa w2 F g2 → w2.cell? ⟨b, 4, none⟩ = some (.slice va vn vc) ∧ w2.frozen? ⟨b, 4, none⟩ = false) := fun wa w2 g2 hb1 hs1 => by
    have hs := hs1.after hb1
    have hb2 : w2.heap[b]? = _ := (hs.block b (HH.out.lt b HH.out.fb) (fun e => by
      obtain ⟨_, cur, hc⟩ := hs.at' (by have := HH.out.lt b HH.out.fb; omega)
      have := HH.out.blk
      rw [e, hc] at this
      simp at this)).trans HH.out.blk
    exact ⟨by rw [cell_of_row _ _ _ _ _ _ hb2]; rfl, frozen_cells hb2⟩
  have HEND : Hid (∀ wa w2 g2 v', Below w.heap.size w wa → ArmStep wa w2 F g2 → ArmsAt w2 (fun k => F k ∨ (w.heap.size ≤ k ∧ k < w2.heap.size)) v' (d.arms ++ [⟨max n 0, l.map shortF⟩]) → DevPost w b F (d.arm n l) (w2.setCell ⟨b, 4, none⟩ v')) := fun wa w2 g2 v' hb1 hs1 ha1 => by
    obtain ⟨hx, hy⟩ := HH.out.armed (Nat.le_refl _) (Nat.le_refl _) ha1 (hs1.after hb1) (by simp only []; omega)
    have e : d.arm n l = { d with arms := d.arms ++ [⟨max n 0, l.map shortF⟩] } := by
      unfold Dev.arm
      rw [show (if n < 0 then 0 else n) = max n 0 by split <;> omega]
    rw [e]
    exact ⟨_, ⟨_, _, _, _, _, hx⟩, hy⟩
  have HZ4 : Hid (∀ w1 v1, Below w.heap.size w w1 → (w1.alloc (.cells #[.int .i64 (max n 0), v1] 130)).cell? ⟨b, 4, none⟩ = some (.slice va vn vc)) := fun w1 v1 hb1 => cell_below (below_new w1 _) (cell_below hb1 c4)
  clear h hl
  go_enter Tryd.func45, Tryd.ntmps45
  go_wp2_with fail
  go_region_law
    (first
      | (refine step_ownf _ (by rfl) _ (.slice fa l.length fc) (by rfl) (by rfl) ((HOW.out _ (by first | exact bdrew1 (Below.refl _ _) | exact Below.refl _ _)).mono ?_); rintro e w1 ⟨v1, rfl, hv1, hbd1⟩; have hb1 : Below w.heap.size w w1 := (by first | exact hbd1 | exact undrew hbd1); have HV1 := Hid.mk2 hv1; have HB1 := Hid.mk2 hb1; obtain ⟨a1, q1, rfl, -⟩ := owns_form hv1; have u4 := cell_below hb1 c4; have z4 := HZ4.out w1 (.slice a1 l.length q1) hb1; clear hbd1 hb1 hv1; refine ⟨_, rfl, ?_⟩)
      | (refine step_append_arm _ (by rfl) _ _ (by rfl) (.slice va vn vc) d.arms F (by rfl) (by exact HAR.out.below fun k hk => (alloc_old (Nat.lt_of_lt_of_le (HLT.out k hk) HB1.out.size)).trans (HB1.out.block k (HLT.out k hk))) w1.heap.size w.heap.size (max n 0) (l.map shortF) (.slice a1 l.length q1) (by rfl) (by exact heap_alloc_new w1 _) (by rw [← HLL.out]; exact HV1.out.alloc _) (by have := HB1.out.size; simp; omega) ha ?_; intro g2 off2 cap2 w2 hA2 hS2; have hbb := HB4.out _ w2 g2 (HB1.out.alloc HB1.out.size _) hS2; have HPO := Hid.mk2 (HEND.out _ w2 g2 _ (HB1.out.alloc HB1.out.size _) hS2 hA2); have hx4 := hbb.1; have hf4 := hbb.2; clear hbb hA2 hS2))
  all_goals
    go_wp2_with fail
    go_end0
    exact ⟨rfl, HPO.out⟩

end Go.Proofs.YtdieacdkomiooabDoor
