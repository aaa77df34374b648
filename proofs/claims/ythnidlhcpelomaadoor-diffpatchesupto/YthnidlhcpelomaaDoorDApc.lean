import Derived.Test.YthnidlhcpelomaaDoorDSm2
namespace Go.Proofs.YthnidlhcpelomaaDoor
open Go.RowKit
attribute [local go_sem ↓] Go.wp_at_zero Go.wp_at_succ

/-- The types of what the functions of lists make. -/
def tU (t : TypeId) : Bool := t == 44 || t == 23 || t == 28 || t == 22
def tCH (t : TypeId) : Bool := t == 44
def tPR (t : TypeId) : Bool := t == 28
theorem tCH_tU (o : Obj) (h : ofT tCH o = true) : ofT tU o = true := by
  cases o with
  | cells cs t f => simp only [ofT, tCH, beq_iff_eq] at h; subst h; rfl
  | _ => cases h
theorem tPR_tU (o : Obj) (h : ofT tPR o = true) : ofT tU o = true := by
  cases o with
  | cells cs t f => simp only [ofT, tPR, beq_iff_eq] at h; subst h; rfl
  | _ => cases h
/-- What a round puts behind the others. -/
def actL (k : ByteArray) (x : ChV) : List Ch := match actV x with
  | some d => [(k, d)]
  | none => []
theorem actL_idle (k : ByteArray) (x : ChV) (h : idleV x = true) : actL k x = [] := by simp [actL, actV, h]
theorem actL_act (k : ByteArray) (x : ChV) (h : idleV x = false) : actL k x = [(k, x)] := by simp [actL, actV, h]
set_option maxHeartbeats 2000000 in
theorem appch_any (base : Nat) (v : Value) (l : List Ch) (k : ByteArray) (x : ChV) (w : World) (hown : ChO w base v l) (hbase : base ≤ w.heap.size) (hn : (l.length + 1) * 56 ≤ 140737488355328)
    (h1 : k.size ≤ 140737488355328) (h2 : x.old.size ≤ 140737488355328) (h3 : x.new.size ≤ 140737488355328) :
    Calls Tryd.prog 30 #[v, chA k x] w fun e w' => ∃ v', e = .returned v' ∧ ChO w' base v' (l ++ actL k x) ∧ But base (ofT tCH) w w' := by
  have HBL : Hid (∀ b o, v.ownBlock = some b → w.heap[b]? = some o → ∃ cs, o = .cells cs 44 (0, 0)) := hown.kind
  have HBK := hide hown.blk
  obtain ⟨a, c, rfl⟩ := hown.form
  obtain ⟨W1, hW1⟩ : ∃ W1, w.alloc (.cells #[.string k, .bool x.had, .bool x.has, .string x.old, .string x.new] 44) = W1 := ⟨_, rfl⟩
  have x1 : Bx5 W1 w.heap.size k x := by rw [← hW1]; exact World.alloc_heap_new w _
  have b1 : Below w.heap.size w W1 := by rw [← hW1]; exact (Below.refl _ w).alloc (Nat.le_refl _) _
  have HI : Hid (Calls Tryd.prog 52 #[.agg #[.string k, .bool x.had, .bool x.has, .string x.old, .string x.new]] W1 fun e w' => e = .returned (.bool (idleV x)) ∧ Below W1.heap.size W1 w') := isidle_any k x W1
  have HC : Hid (∀ W, Calls Tryd.prog 39 #[.agg #[.string k, .bool x.had, .bool x.has, .string x.old, .string x.new]] W fun e w' => e = .returned (.agg #[.string k, .bool x.had, .bool x.has, .string x.old, .string x.new]) ∧ Below W.heap.size W w') := fun W => copyof_any k x W h1 h2 h3
  have HO := hide hown
  have HX := hide x1
  have HB := hide b1
  have HW := hide hW1
  obtain ⟨c0, c1, c2, c3, c4⟩ := x1.cells
  clear hown x1 b1 hW1
  unfold chA
  go_enter Tryd.func30, Tryd.ntmps30
  go_wp2_with fail
  rw [HW.out]
  go_wp2_with fail
  refine HI.out.mono ?_
  rintro e W2 ⟨rfl, hb2⟩
  have HB2 := hide (Below.next HB.out hb2)
  obtain ⟨d0, d1, d2, d3, d4⟩ := (HX.out.bel hb2).cells
  clear hb2 c0 c1 c2 c3 c4
  cases hi : idleV x with
  | true =>
    have HA := hide (actL_idle k x hi)
    go_wp2
    go_ret
    exact ⟨_, rfl, by rw [HA.out, List.append_nil]; exact HO.out.below HB2.out, .of_below HB2.out⟩
  | false =>
    have HA := hide (actL_act k x hi)
    go_wp2_with fail
    refine (HC.out _).mono ?_
    rintro e W3 ⟨rfl, hb3⟩
    have HB3 := hide (Below.next HB2.out hb3)
    clear hb3
    obtain ⟨a1, cp1, W4, hrun, hown1, hgr⟩ := push_chs base _ l (k, x) 44 W3 l.length rfl (HO.out.below HB3.out) hn (by have := HB3.out.size; omega)
    simp only [chC] at hrun hgr
    have HO1 := hide hown1
    have HG := hide hgr
    clear hown1 hgr
    go_wp2_with (first | (at_builtin; refine wpList_append_run 23 rfl (.tmp 8) (.tmp 11) rfl rfl _ _ rfl rfl _ _ hrun ?_))
    clear hrun
    go_wp2
    go_ret
    refine ⟨_, rfl, by rw [HA.out]; exact HO1.out, ?_⟩
    refine ((But.of_below HB3.out).alloc _).grown HG.out (fun b o hb ho => ?_)
    obtain ⟨hlo, hlt⟩ := HBK.out b hb
    refine ⟨hlo, ?_⟩
    have hs := HB3.out.size
    rw [Below.heap_alloc _ _ _ (by omega), HB3.out.block b hlt] at ho
    obtain ⟨cs, rfl⟩ := HBL.out b o hb ho
    rfl
end Go.Proofs.YthnidlhcpelomaaDoor
