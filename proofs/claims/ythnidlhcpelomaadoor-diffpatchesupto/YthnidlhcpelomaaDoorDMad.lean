import Derived.Test.YthnidlhcpelomaaDoorDFit
import Derived.Deep.RegionLaw
namespace Go.Proofs.YthnidlhcpelomaaDoor
open Go.RowKit
attribute [local go_sem ↓] Go.wp_at_zero Go.wp_at_succ

/-- What a patch makes of a key's pair. -/
def madeL (k : ByteArray) (e : Option ByteArray × Option ChV) : List Pr := match madeV e with
  | some y => [(k, y)]
  | none => []
theorem fm_made (k : ByteArray) (e : Option ByteArray × Option ChV) (l : KL (Option ByteArray × Option ChV)) : fm madeV ((k, e) :: l) = madeL k e ++ fm madeV l := by
  rw [fm_cons]
  unfold madeL
  cases madeV e <;> rfl
/-- A call of strings.Clone within a region that draws its order. -/
theorem step_scl {ops : Array Oper} {o : Oper} {a : Act} {K : Act → World → Prop} {Q : Exit → Act → World → Prop} {E : Prop} (w : World) (hgd : o.guard = none) (x0 : Operand) (v0 : Value)
    (ho : o.op = .call { callee := .value (.func 59), args := #[x0], argTypes := #[9] }) (hx0 : a.eval x0 = v0)
    (h : Calls Tryd.prog 59 #[v0] w fun e w' => ∃ v, e = .returned v ∧ K (a.put o.dst v) w') :
    if Region.wanted o (yielded ops a.tmps) = true then Oper.wp Tryd.prog o a w K Q else E := by
  have hw : Region.wanted o (yielded ops a.tmps) = true := by simp [Region.wanted, hgd]
  rw [if_pos hw]
  have hrun : (execOp a.eval o).run Tryd.prog w = .ok (.enter 59 #[v0]) w := by
    have he : execOp a.eval o = callFunc 59 #[v0] := by
      obtain ⟨dst, op, ty, pos, after, guard⟩ := o
      simp only [] at ho
      subst ho
      have hy : execOp a.eval { dst := dst, op := .call { callee := .value (.func 59), args := #[x0], argTypes := #[9] }, type := ty, pos := pos, after := after, guard := guard } = callFunc 59 (#[] ++ #[x0].map a.eval ++ #[]) := rfl
      rw [hy]
      simp [hx0]
    rw [he]
    simp [callFunc, go_sem, Tryd.func59, Tryd.f59]
  unfold Oper.wp
  rw [hrun]
  refine h.mono ?_
  rintro e w' ⟨v, rfl, hk⟩
  exact hk
theorem step_app {ops : Array Oper} {o : Oper} {a : Act} {w : World} {K : Act → World → Prop} {Q : Exit → Act → World → Prop} {E : Prop} (t : TypeId) (hgd : o.guard = none) (d x : Operand)
    (ho : o.op = .call { callee := .builtin .append, args := #[d, x], argTypes := #[t, t] }) (hty : o.type = t) (vd vx : Value) (hd : a.eval d = vd) (hx : a.eval x = vx) (v : Value) (w' : World)
    (hrun : (Builtin.append_ #[t, t] t #[vd, vx]).run Tryd.prog w = .ok v w') (h : K (a.put o.dst v) w') : if Region.wanted o (yielded ops a.tmps) = true then Oper.wp Tryd.prog o a w K Q else E := by
  have hw : Region.wanted o (yielded ops a.tmps) = true := by simp [Region.wanted, hgd]
  rw [if_pos hw]
  unfold Oper.wp
  simp [execOp, ho, resolve, invoke, builtin, hd, hx, hty, hrun, Result.andThen]
  exact h
set_option maxHeartbeats 4000000 in
theorem made_no (base : Nat) (v : Value) (l : List Pr) (k y : ByteArray) (g o : Nat) (w : World) (hown : PrO w base v l) (hbase : base ≤ w.heap.size) (hn : (l.length + 1) * 32 ≤ 140737488355328)
    (h1 : k.size ≤ 140737488355328) (h2 : y.size ≤ 140737488355328) (hc0 : w.cell? ⟨g, o, none⟩ = some (.string k)) (hc1 : w.cell? ⟨g, o + 1, none⟩ = some (.string y)) :
    Calls Tryd.prog 44 #[v, .pointer (some ⟨g, o, none⟩), .pointer none] w fun e w' => ∃ v', e = .returned v' ∧ PrO w' base v' (l ++ [(k, y)]) ∧ But base (ofT tPR) w w' := by
  have HBL : Hid (∀ b o, v.ownBlock = some b → w.heap[b]? = some o → ∃ cs, o = .cells cs 28 (0, 0)) := hown.kind
  have HBK := hide hown.blk
  obtain ⟨a, c, rfl⟩ := hown.form
  have HC1 := hide (fun W => sclone_any k W (by omega))
  have HC2 := hide (fun W => sclone_any y W (by omega))
  have HO := hide hown
  clear hown h1 h2
  go_enter Tryd.func44, Tryd.ntmps44
  go_wp2_with fail
  go_region_law (first
    | (refine step_scl _ (by rfl) (.tmp 14) (.string k) (by rfl) (by rfl) ((HC1.out _).mono ?_); rintro e w6 ⟨rfl, hg⟩; have HB6 : Hid (Below w.heap.size w w6) := (by (first | exact Below.next HB6.out hg | exact ⟨hg.os, hg.tape, hg.output, hg.size, hg.block⟩)); have k0 := cell_bel HB6.out hc0; have k1 := cell_bel HB6.out hc1; obtain ⟨a1, cp1, w7, hrun, hown1, hgr⟩ := push_prs' base _ l (k, y) 28 w6 l.length rfl (HO.out.below HB6.out) hn (by have := HB6.out.size; omega); have HRUN := hide hrun; have HO1 := hide hown1; have HG := hide hgr; clear hg hrun hown1 hgr; refine ⟨_, rfl, ?_⟩)
    | (refine step_scl _ (by rfl) (.tmp 19) (.string y) (by rfl) (by rfl) ((HC2.out _).mono ?_); rintro e w6 ⟨rfl, hg⟩; have HB6 : Hid (Below w.heap.size w w6) := (by (first | exact Below.next HB6.out hg | exact ⟨hg.os, hg.tape, hg.output, hg.size, hg.block⟩)); have k0 := cell_bel HB6.out hc0; have k1 := cell_bel HB6.out hc1; obtain ⟨a1, cp1, w7, hrun, hown1, hgr⟩ := push_prs' base _ l (k, y) 28 w6 l.length rfl (HO.out.below HB6.out) hn (by have := HB6.out.size; omega); have HRUN := hide hrun; have HO1 := hide hown1; have HG := hide hgr; clear hg hrun hown1 hgr; refine ⟨_, rfl, ?_⟩)
    | (refine step_app 22 (by rfl) (.tmp 10) (.tmp 22) (by rfl) (by rfl) _ _ (by rfl) (by rfl) _ _ HRUN.out ?_))
  all_goals
    clear HRUN k0 k1
    go_wp2
    go_ret
    refine ⟨_, rfl, HO1.out, ?_⟩
    refine ((But.of_below HB6.out).alloc _).grown HG.out (fun b o' hb ho => ?_)
    obtain ⟨hlo, hlt⟩ := HBK.out b hb
    refine ⟨hlo, ?_⟩
    have hs := HB6.out.size
    rw [Below.heap_alloc _ _ _ (by omega), HB6.out.block b hlt] at ho
    obtain ⟨cs, rfl⟩ := HBL.out b o' hb ho
    rfl
set_option maxHeartbeats 4000000 in
theorem made_has (base : Nat) (v : Value) (l : List Pr) (k y : ByteArray) (g o : Nat) (vp : Value) (w : World) (hown : PrO w base v l) (hbase : base ≤ w.heap.size) (hn : (l.length + 1) * 32 ≤ 140737488355328)
    (h1 : k.size ≤ 140737488355328) (h2 : y.size ≤ 140737488355328) (hc0 : w.cell? ⟨g, o, none⟩ = some (.string k)) (hc1 : w.cell? ⟨g, o + 4, none⟩ = some (.string y)) (hc2 : w.cell? ⟨g, o + 2, none⟩ = some (.bool true)) :
    Calls Tryd.prog 44 #[v, vp, .pointer (some ⟨g, o, none⟩)] w fun e w' => ∃ v', e = .returned v' ∧ PrO w' base v' (l ++ [(k, y)]) ∧ But base (ofT tPR) w w' := by
  have HBL : Hid (∀ b o, v.ownBlock = some b → w.heap[b]? = some o → ∃ cs, o = .cells cs 28 (0, 0)) := hown.kind
  have HBK := hide hown.blk
  obtain ⟨a, c, rfl⟩ := hown.form
  have HC1 := hide (fun W => sclone_any k W (by omega))
  have HC2 := hide (fun W => sclone_any y W (by omega))
  have HO := hide hown
  clear hown h1 h2
  go_enter Tryd.func44, Tryd.ntmps44
  go_wp2_with fail
  go_region_law (first
    | (refine step_scl _ (by rfl) (.tmp 33) (.string k) (by rfl) (by rfl) ((HC1.out _).mono ?_); rintro e w6 ⟨rfl, hg⟩; have HB6 : Hid (Below w.heap.size w w6) := (by (first | exact Below.next HB6.out hg | exact ⟨hg.os, hg.tape, hg.output, hg.size, hg.block⟩)); have k0 := cell_bel HB6.out hc0; have k1 := cell_bel HB6.out hc1; obtain ⟨a1, cp1, w7, hrun, hown1, hgr⟩ := push_prs' base _ l (k, y) 28 w6 l.length rfl (HO.out.below HB6.out) hn (by have := HB6.out.size; omega); have HRUN := hide hrun; have HO1 := hide hown1; have HG := hide hgr; clear hg hrun hown1 hgr; refine ⟨_, rfl, ?_⟩)
    | (refine step_scl _ (by rfl) (.tmp 38) (.string y) (by rfl) (by rfl) ((HC2.out _).mono ?_); rintro e w6 ⟨rfl, hg⟩; have HB6 : Hid (Below w.heap.size w w6) := (by (first | exact Below.next HB6.out hg | exact ⟨hg.os, hg.tape, hg.output, hg.size, hg.block⟩)); have k0 := cell_bel HB6.out hc0; have k1 := cell_bel HB6.out hc1; obtain ⟨a1, cp1, w7, hrun, hown1, hgr⟩ := push_prs' base _ l (k, y) 28 w6 l.length rfl (HO.out.below HB6.out) hn (by have := HB6.out.size; omega); have HRUN := hide hrun; have HO1 := hide hown1; have HG := hide hgr; clear hg hrun hown1 hgr; refine ⟨_, rfl, ?_⟩)
    | (refine step_app 22 (by rfl) (.tmp 29) (.tmp 41) (by rfl) (by rfl) _ _ (by rfl) (by rfl) _ _ HRUN.out ?_))
  all_goals
    clear HRUN k0 k1
    go_wp2
    go_ret
    refine ⟨_, rfl, HO1.out, ?_⟩
    refine ((But.of_below HB6.out).alloc _).grown HG.out (fun b o' hb ho => ?_)
    obtain ⟨hlo, hlt⟩ := HBK.out b hb
    refine ⟨hlo, ?_⟩
    have hs := HB6.out.size
    rw [Below.heap_alloc _ _ _ (by omega), HB6.out.block b hlt] at ho
    obtain ⟨cs, rfl⟩ := HBL.out b o' hb ho
    rfl
theorem made_any (base : Nat) (v : Value) (l : List Pr) (k : ByteArray) (p : Option ByteArray) (c : Option ChV) (vp vc : Value) (w : World) (hown : PrO w base v l) (hbase : base ≤ w.heap.size) (hn : (l.length + 1) * 32 ≤ 140737488355328)
    (h1 : k.size ≤ 140737488355328) (h2 : ∀ y, madeV (p, c) = some y → y.size ≤ 140737488355328) (hp : PtP w vp k p) (hc : PtC w vc k c) (hx : p.isSome = true ∨ c.isSome = true) :
    Calls Tryd.prog 44 #[v, vp, vc] w fun e w' => ∃ v', e = .returned v' ∧ PrO w' base v' (l ++ madeL k (p, c)) ∧ But base (ofT tPR) w w' := by
  cases c with
  | none =>
    cases (show vc = .pointer none from hc)
    cases p with
    | none => simp at hx
    | some y =>
      obtain ⟨g, o, rfl, c0, c1⟩ := hp
      exact made_no base v l k y g o w hown hbase hn h1 (h2 y rfl) c0 c1
  | some x =>
    obtain ⟨had, has, old, new⟩ := x
    obtain ⟨g, o, rfl, c0, c1, c2, c3, c4⟩ := hc
    cases has with
    | true => exact made_has base v l k new g o vp w hown hbase hn h1 (h2 new (by cases p <;> rfl)) c0 c4 c2
    | false =>
      have hm : madeL k (p, some ⟨had, false, old, new⟩) = [] := by cases p <;> rfl
      rw [hm, List.append_nil]
      have HO := hide hown
      obtain ⟨a, cp, rfl⟩ := hown.form
      have HB := hide (But.refl base (ofT tPR) w)
      simp only at c2
      clear hown hp c0 c1 c3 c4 hm h2
      go_enter Tryd.func44, Tryd.ntmps44
      go_wp2
      go_ret
      exact ⟨_, rfl, HO.out, HB.out⟩
end Go.Proofs.YthnidlhcpelomaaDoor
