import Derived.Test.YtdghlblgmihbpaaDoorFRef3
import Derived.Test.YtdghlblgmihbpaaDoorFBStep
import Derived.Deep.RegionLaw
namespace Go.Proofs.YtdghlblgmihbpaaDoor
open Go.RowKit

theorem take_none {w : World} {b : Nat} {v : Value} {P : Nat} {T : Nat → Bool} (h : RefR w b v P T) {w' : World} (hb : Below w.heap.size w w') (o : Option Nat) : TakePost w b v P (o, [], T) (.returned (.tuple #[.slice none 0 0, .int .i64 (numE o : Nat)])) w' :=
  ⟨_, rfl, World.ownsRow_nil _ _ _ _, ref_same h hb, fun _ k _ hk => by simp [Value.ownBlock] at hk⟩
set_option maxHeartbeats 1000000 in
theorem rtake_any (b : Nat) (v : Value) (P : Nat) (T : Nat → Bool) (n : Int) (w : World) (h : RefR w b v P T) (hok : MapOk P T) : Calls Tryd.prog 48 #[.pointer (some ⟨b, 0, none⟩), .int .i64 n] w fun e w' => TakePost w b v P (takeD P T n) e w' := by
  by_cases hn : n < 0
  · have HD : Hid (takeD P T n = (some 0, [], T)) := by show takeD P T n = _; simp [takeD, hn]
    rw [HD.out]
    have HT := hide (take_none h (Below.refl _ _) (some 0))
    clear h hok
    go_enter Tryd.func48, Tryd.ntmps48
    go_wp2
    go_ret2
    exact HT.out
  · obtain ⟨N, rfl⟩ : ∃ N : Nat, n = N := ⟨n.toNat, by omega⟩
    by_cases hf : (frl T P).length < N
    · rw [takeD_full hf]
      have HT : Hid (∀ w', Below w.heap.size w w' → TakePost w b v P (some 6, [], T) (.returned (.tuple #[.slice none 0 0, .int .i64 7])) w') := fun w' hb => take_none h hb (some 6)
      have RF := hide (rfree_any b v P T w h hok)
      have hgt : ((frl T P).length : Int) < (N : Int) := by omega
      clear h hok
      generalize (frl T P).length = fl at *
      go_enter Tryd.func48, Tryd.ntmps48
      go_wp2_with fail
      refine RF.out.mono ?_
      rintro e w1 ⟨rfl, hb⟩
      have HT1 := hide (HT.out w1 hb)
      clear hb HT RF
      go_wp2
      go_ret2
      exact HT1.out
    · rw [takeD_ok (by omega)]
      exact rtake_ok b v P T N w h hok (by omega)

theorem step_append_run {ops : Array Oper} {o : Oper} {a : Act} {w : World} {K : Act → World → Prop} {Q : Exit → Act → World → Prop} {E : Prop} (t : TypeId) (hgd : o.guard = none) (d x : Operand)
    (ho : o.op = .call { callee := .builtin .append, args := #[d, x], argTypes := #[t, t] }) (hty : o.type = t) (vd vx : Value) (hd : a.eval d = vd) (hx : a.eval x = vx) (v : Value) (w' : World)
    (hrun : (Builtin.append_ #[t, t] t #[vd, vx]).run Tryd.prog w = .ok v w') (h : K (a.put o.dst v) w') : if Region.wanted o (yielded ops a.tmps) = true then Oper.wp Tryd.prog o a w K Q else E := by
  have hw : Region.wanted o (yielded ops a.tmps) = true := by simp [Region.wanted, hgd]
  rw [if_pos hw]
  unfold Oper.wp
  simp [execOp, ho, resolve, invoke, builtin, hd, hx, hty, hrun, Result.andThen]
  exact h

set_option maxRecDepth 100000 in
set_option maxHeartbeats 1000000 in
theorem rcopy_any (b : Nat) (v : Value) (P : Nat) (T : Nat → Bool) (w : World) (h : RefR w b v P T) (hok : MapOk P T) : Calls Tryd.prog 30 #[.pointer (some ⟨b, 0, none⟩)] w fun e w' => ∃ v', e = .returned (.pointer (some ⟨w.heap.size, 0, none⟩)) ∧ RefR w' w.heap.size v' P T ∧ Below w.heap.size w w' ∧ ∀ k, v'.ownBlock = some k → w.heap.size < k := by
  have hP := hok.hi
  have hle := tkl_le T P
  have c0 := h.c0
  have hbn := below_new w (.cells #[.int .i64 P, .slice none 0 0] 80)
  obtain ⟨w1, hw1⟩ : ∃ w1, w1 = w.alloc (.cells #[.int .i64 P, .slice none 0 0] 80) := ⟨_, rfl⟩
  rw [← hw1] at hbn
  have hblk : w1.heap[w.heap.size]? = some (.cells #[.int .i64 P, .slice none 0 0] 80 (0, 0)) := by rw [hw1]; exact heap_alloc_new _ _
  have hsz : w1.heap.size = w.heap.size + 1 := by rw [hw1]; simp
  have h1 := h.below hbn
  have d1 := h1.c1
  have e1 : w1.cell? ⟨w.heap.size, 1, none⟩ = some (.slice none 0 0) := cell_of_row w1 _ 1 _ _ _ hblk
  have ez : w1.frozen? ⟨w.heap.size, 1, none⟩ = false := by
    unfold World.frozen?
    rw [show w1.heap[(⟨w.heap.size, 1, none⟩ : Addr).block]? = _ from hblk]
    simp
  obtain ⟨xa, xc, w2, hrun, hox, hgr⟩ := append_row 28 3 _ 8 info3 Tryd.underlying28 rfl w1.heap.size 0 (.slice none 0 0) [] w1.drew (World.ownsRow_nil _ _ _ _) v (nats (tkl T P)) (rowR_of_owns (owns_below h1.row (Below.refl _ _).drew)) (by intro u hu; simp only [nats, List.mem_map] at hu; obtain ⟨c, _, rfl⟩ := hu; rfl) (by rw [nats_length]; omega) (by decide) (Nat.le_refl _)
  obtain ⟨a, c, rfl, -⟩ := h.form
  obtain ⟨n, hn⟩ : ∃ n, n = (tkl T P).length := ⟨_, rfl⟩
  rw [nats_length, Nat.zero_add] at hrun hox
  rw [← hn] at hrun hox d1
  have HOX := hide hox
  have HGR := hide hgr
  have HBN := hide hbn
  have HBK := hide hblk
  have HSZ := hide hsz
  have HN := hide hn
  clear hox hgr hbn hblk hsz hn h1 h hok
  have hb2 : Below w1.heap.size w1 w2 := (Below.refl _ _).drew.grown HGR.out (Nat.le_refl _) (fun j hj => by cases hj)
  have hblk2 : w2.heap[w.heap.size]? = some (.cells #[.int .i64 P, .slice none 0 0] 80 (0, 0)) := (hb2.block _ (by have := HSZ.out; omega)).trans HBK.out
  have f1 : w2.cell? ⟨w.heap.size, 1, none⟩ = some (.slice none 0 0) := cell_of_row w2 _ 1 _ _ _ hblk2
  have fz : w2.frozen? ⟨w.heap.size, 1, none⟩ = false := by
    unfold World.frozen?
    rw [show w2.heap[(⟨w.heap.size, 1, none⟩ : Addr).block]? = _ from hblk2]
    simp
  have HFIN : Hid (∃ v', RefR (w2.setCell ⟨w.heap.size, 1, none⟩ (.slice xa n xc)) w.heap.size v' P T ∧ Below w.heap.size w (w2.setCell ⟨w.heap.size, 1, none⟩ (.slice xa n xc)) ∧ ∀ k, v'.ownBlock = some k → w.heap.size < k) := by
    have hlt : ∀ k, (Value.slice xa n xc).ownBlock = some k → w.heap.size < k := fun k hk => by have := (owns_blk HOX.out k hk).1; have := HSZ.out; omega
    refine ⟨.slice xa n xc, ⟨set_blk hblk2 1 _, ?_⟩, ?_, hlt⟩
    · have ho := owns_weak HOX.out (Nat.zero_le _)
      rw [List.nil_append, HN.out] at ho
      rw [HN.out]
      exact owns_only ho (Only.set (F := fun k => k = w.heap.size) rfl _ _ _) (fun k hk e => by rw [← HN.out] at hk; have := hlt k hk; have : k = w.heap.size := e; omega)
    · exact (HBN.out.trans (hb2.mono HBN.out.size)).setCell (Nat.le_refl _) _
  clear hb2 hblk2
  go_enter Tryd.func30, Tryd.ntmps30
  go_wp2_with fail
  rw [← hw1]
  clear hw1
  go_region_law
    (first
      | (refine step_append_run 28 rfl (.tmp 14) (.tmp 18) rfl rfl _ _ rfl rfl _ _ hrun ?_))
  all_goals
    clear hrun d1 e1 ez
    go_wp2
    go_ret
    obtain ⟨v', h1, h2, h3⟩ := HFIN.out
    exact ⟨v', rfl, h1, h2, h3⟩

end Go.Proofs.YtdghlblgmihbpaaDoor
