import Derived.Test.YthnidlhcpelomaaDoorDJo1
import Derived.Test.YthnidlhcpelomaaDoorDAny
namespace Go.Proofs.YthnidlhcpelomaaDoor
open Go.RowKit
attribute [local go_sem ↓] Go.wp_at_zero Go.wp_at_succ

set_option maxHeartbeats 4000000 in
theorem joined_on (k : ByteArray) (x y : ChV) (h1 o1 h2 o2 : Nat) (w : World) (hx1 : ChAt w h1 o1 (k, x)) (hy : ChAt w h2 o2 (k, y)) : Calls Tryd.prog 38 #[.pointer (some ⟨h1, o1, none⟩), .pointer (some ⟨h2, o2, none⟩)] w fun e w' => e = .returned (chA k ⟨x.had, y.has, x.old, y.new⟩) ∧ Below w.heap.size w w' := by
  obtain ⟨W1, hW1⟩ : ∃ W1, w.alloc (.cells #[.string ⟨#[]⟩, .bool false, .bool false, .string ⟨#[]⟩, .string ⟨#[]⟩] 44) = W1 := ⟨_, rfl⟩
  have x2 : Bx5 W1 w.heap.size ⟨#[]⟩ ⟨false, false, ⟨#[]⟩, ⟨#[]⟩⟩ := by rw [← hW1]; exact World.alloc_heap_new w _
  have HB : Hid (Below w.heap.size w W1) := by rw [← hW1]; exact (Below.refl _ w).alloc (Nat.le_refl _) _
  have HW := hide hW1
  have HX2 := hide x2
  have f0 := x2.frz 0
  have f1 := x2.frz 1
  have f2 := x2.frz 2
  have f3 := x2.frz 3
  have f4 := x2.frz 4
  obtain ⟨e0, e1, e2, e3, e4⟩ := x2.cells
  clear x2
  have hx' : ChAt W1 h1 o1 (k, x) := by rw [← hW1]; exact hx1.al _
  obtain ⟨c0, c1, c2, c3, c4⟩ := hx'
  simp only at c0 c1 c2 c3 c4
  have hy' : ChAt W1 h2 o2 (k, y) := by rw [← hW1]; exact hy.al _
  obtain ⟨d0, d1, d2, d3, d4⟩ := hy'
  simp only at d0 d1 d2 d3 d4
  clear hx1 hy hW1 d0 d1 d3 c2 c4
  unfold chA
  go_enter Tryd.func38, Tryd.ntmps38
  go_wp2_with fail
  rw [HW.out]
  go_wp2_with fail
  have HT0 : Hid ((fun w' => w'.cell? ⟨h1, o1, none⟩ = some (.string k) ∧ w'.cell? ⟨h1, o1 + 1, none⟩ = some (.bool x.had) ∧ w'.cell? ⟨h1, o1 + 3, none⟩ = some (.string x.old) ∧ w'.cell? ⟨h2, o2 + 2, none⟩ = some (.bool y.has) ∧ w'.cell? ⟨h2, o2 + 4, none⟩ = some (.string y.new)) W1.drew) := ⟨c0, c1, c3, d2, d4⟩
  refine AnyD.region (fun w' => w'.cell? ⟨h1, o1, none⟩ = some (.string k) ∧ w'.cell? ⟨h1, o1 + 1, none⟩ = some (.bool x.had) ∧ w'.cell? ⟨h1, o1 + 3, none⟩ = some (.string x.old) ∧ w'.cell? ⟨h2, o2 + 2, none⟩ = some (.bool y.has) ∧ w'.cell? ⟨h2, o2 + 4, none⟩ = some (.string y.new)) (fun j => j != 21) (by kernel_rfl) ?_
  refine AnyD.taked (i := 0) (d := 17) (v := .pointer (some ⟨h1, o1, none⟩)) rfl rfl (by kernel_rfl) (by kernel_rfl) (by kernel_rfl) rfl (by kernel_rfl) (fun _ _ _ h => h) (Or.inl ⟨by rfl, ?_⟩) HT0.out ?_
  · intro w' hw'
    obtain ⟨t0, t1, t2, t3, t4⟩ := hw'
    go_simp
  try simp only [Act.put, List.setIfInBounds_toArray, List.set_cons_zero, List.set_cons_succ]
  refine AnyD.taked (i := 1) (d := 18) (v := .pointer (some ⟨h1, o1, none⟩)) rfl rfl (by kernel_rfl) (by kernel_rfl) (by kernel_rfl) rfl (by kernel_rfl) (fun _ _ _ h => h) (Or.inl ⟨by rfl, ?_⟩) HT0.out ?_
  · intro w' hw'
    obtain ⟨t0, t1, t2, t3, t4⟩ := hw'
    go_simp
  try simp only [Act.put, List.setIfInBounds_toArray, List.set_cons_zero, List.set_cons_succ]
  refine AnyD.taked (i := 2) (d := 19) (v := .pointer (some ⟨h1, o1, none⟩)) rfl rfl (by kernel_rfl) (by kernel_rfl) (by kernel_rfl) rfl (by kernel_rfl) (fun _ _ _ h => h) (Or.inl ⟨by rfl, ?_⟩) HT0.out ?_
  · intro w' hw'
    obtain ⟨t0, t1, t2, t3, t4⟩ := hw'
    go_simp
  try simp only [Act.put, List.setIfInBounds_toArray, List.set_cons_zero, List.set_cons_succ]
  refine AnyD.taked (i := 3) (d := 20) (v := .string k) rfl rfl (by kernel_rfl) (by kernel_rfl) (by kernel_rfl) rfl (by kernel_rfl) (fun _ _ _ h => h) (Or.inl ⟨by rfl, ?_⟩) HT0.out ?_
  · intro w' hw'
    obtain ⟨t0, t1, t2, t3, t4⟩ := hw'
    go_simp
  try simp only [Act.put, List.setIfInBounds_toArray, List.set_cons_zero, List.set_cons_succ]
  refine AnyD.taked (i := 4) (d := 21) (v := .pointer (some ⟨h1, o1, none⟩)) rfl rfl (by kernel_rfl) (by kernel_rfl) (by kernel_rfl) rfl (by kernel_rfl) (fun _ _ _ h => h) (Or.inl ⟨by rfl, ?_⟩) HT0.out ?_
  · intro w' hw'
    obtain ⟨t0, t1, t2, t3, t4⟩ := hw'
    go_simp
  try simp only [Act.put, List.setIfInBounds_toArray, List.set_cons_zero, List.set_cons_succ]
  refine AnyD.taked (i := 5) (d := 22) (v := .pointer (some ⟨h1, o1, none⟩)) rfl rfl (by kernel_rfl) (by kernel_rfl) (by kernel_rfl) rfl (by kernel_rfl) (fun _ _ _ h => h) (Or.inl ⟨by rfl, ?_⟩) HT0.out ?_
  · intro w' hw'
    obtain ⟨t0, t1, t2, t3, t4⟩ := hw'
    go_simp
  try simp only [Act.put, List.setIfInBounds_toArray, List.set_cons_zero, List.set_cons_succ]
  refine AnyD.taked (i := 6) (d := 23) (v := .pointer (some ⟨h1, o1 + 1, none⟩)) rfl rfl (by kernel_rfl) (by kernel_rfl) (by kernel_rfl) rfl (by kernel_rfl) (fun _ _ _ h => h) (Or.inl ⟨by rfl, ?_⟩) HT0.out ?_
  · intro w' hw'
    obtain ⟨t0, t1, t2, t3, t4⟩ := hw'
    go_simp
  try simp only [Act.put, List.setIfInBounds_toArray, List.set_cons_zero, List.set_cons_succ]
  refine AnyD.taked (i := 7) (d := 24) (v := .bool x.had) rfl rfl (by kernel_rfl) (by kernel_rfl) (by kernel_rfl) rfl (by kernel_rfl) (fun _ _ _ h => h) (Or.inl ⟨by rfl, ?_⟩) HT0.out ?_
  · intro w' hw'
    obtain ⟨t0, t1, t2, t3, t4⟩ := hw'
    go_simp
  try simp only [Act.put, List.setIfInBounds_toArray, List.set_cons_zero, List.set_cons_succ]
  refine AnyD.taked (i := 8) (d := 25) (v := .pointer (some ⟨h1, o1, none⟩)) rfl rfl (by kernel_rfl) (by kernel_rfl) (by kernel_rfl) rfl (by kernel_rfl) (fun _ _ _ h => h) (Or.inl ⟨by rfl, ?_⟩) HT0.out ?_
  · intro w' hw'
    obtain ⟨t0, t1, t2, t3, t4⟩ := hw'
    go_simp
  try simp only [Act.put, List.setIfInBounds_toArray, List.set_cons_zero, List.set_cons_succ]
  refine AnyD.taked (i := 9) (d := 26) (v := .pointer (some ⟨h1, o1, none⟩)) rfl rfl (by kernel_rfl) (by kernel_rfl) (by kernel_rfl) rfl (by kernel_rfl) (fun _ _ _ h => h) (Or.inl ⟨by rfl, ?_⟩) HT0.out ?_
  · intro w' hw'
    obtain ⟨t0, t1, t2, t3, t4⟩ := hw'
    go_simp
  try simp only [Act.put, List.setIfInBounds_toArray, List.set_cons_zero, List.set_cons_succ]
  refine AnyD.taked (i := 10) (d := 27) (v := .pointer (some ⟨h1, o1 + 3, none⟩)) rfl rfl (by kernel_rfl) (by kernel_rfl) (by kernel_rfl) rfl (by kernel_rfl) (fun _ _ _ h => h) (Or.inl ⟨by rfl, ?_⟩) HT0.out ?_
  · intro w' hw'
    obtain ⟨t0, t1, t2, t3, t4⟩ := hw'
    go_simp
  try simp only [Act.put, List.setIfInBounds_toArray, List.set_cons_zero, List.set_cons_succ]
  refine AnyD.taked (i := 11) (d := 28) (v := .string x.old) rfl rfl (by kernel_rfl) (by kernel_rfl) (by kernel_rfl) rfl (by kernel_rfl) (fun _ _ _ h => h) (Or.inl ⟨by rfl, ?_⟩) HT0.out ?_
  · intro w' hw'
    obtain ⟨t0, t1, t2, t3, t4⟩ := hw'
    go_simp
  try simp only [Act.put, List.setIfInBounds_toArray, List.set_cons_zero, List.set_cons_succ]
  refine AnyD.taked (i := 12) (d := 29) (v := .pointer (some ⟨h2, o2, none⟩)) rfl rfl (by kernel_rfl) (by kernel_rfl) (by kernel_rfl) rfl (by kernel_rfl) (fun _ _ _ h => h) (Or.inl ⟨by rfl, ?_⟩) HT0.out ?_
  · intro w' hw'
    obtain ⟨t0, t1, t2, t3, t4⟩ := hw'
    go_simp
  try simp only [Act.put, List.setIfInBounds_toArray, List.set_cons_zero, List.set_cons_succ]
  refine AnyD.taked (i := 13) (d := 30) (v := .pointer (some ⟨h2, o2, none⟩)) rfl rfl (by kernel_rfl) (by kernel_rfl) (by kernel_rfl) rfl (by kernel_rfl) (fun _ _ _ h => h) (Or.inl ⟨by rfl, ?_⟩) HT0.out ?_
  · intro w' hw'
    obtain ⟨t0, t1, t2, t3, t4⟩ := hw'
    go_simp
  try simp only [Act.put, List.setIfInBounds_toArray, List.set_cons_zero, List.set_cons_succ]
  refine AnyD.taked (i := 14) (d := 31) (v := .pointer (some ⟨h2, o2 + 2, none⟩)) rfl rfl (by kernel_rfl) (by kernel_rfl) (by kernel_rfl) rfl (by kernel_rfl) (fun _ _ _ h => h) (Or.inl ⟨by rfl, ?_⟩) HT0.out ?_
  · intro w' hw'
    obtain ⟨t0, t1, t2, t3, t4⟩ := hw'
    go_simp
  try simp only [Act.put, List.setIfInBounds_toArray, List.set_cons_zero, List.set_cons_succ]
  refine AnyD.taked (i := 15) (d := 32) (v := .bool y.has) rfl rfl (by kernel_rfl) (by kernel_rfl) (by kernel_rfl) rfl (by kernel_rfl) (fun _ _ _ h => h) (Or.inl ⟨by rfl, ?_⟩) HT0.out ?_
  · intro w' hw'
    obtain ⟨t0, t1, t2, t3, t4⟩ := hw'
    go_simp
  try simp only [Act.put, List.setIfInBounds_toArray, List.set_cons_zero, List.set_cons_succ]
  refine AnyD.taked (i := 16) (d := 33) (v := .pointer (some ⟨h2, o2, none⟩)) rfl rfl (by kernel_rfl) (by kernel_rfl) (by kernel_rfl) rfl (by kernel_rfl) (fun _ _ _ h => h) (Or.inl ⟨by rfl, ?_⟩) HT0.out ?_
  · intro w' hw'
    obtain ⟨t0, t1, t2, t3, t4⟩ := hw'
    go_simp
  try simp only [Act.put, List.setIfInBounds_toArray, List.set_cons_zero, List.set_cons_succ]
  refine AnyD.taked (i := 17) (d := 34) (v := .pointer (some ⟨h2, o2, none⟩)) rfl rfl (by kernel_rfl) (by kernel_rfl) (by kernel_rfl) rfl (by kernel_rfl) (fun _ _ _ h => h) (Or.inl ⟨by rfl, ?_⟩) HT0.out ?_
  · intro w' hw'
    obtain ⟨t0, t1, t2, t3, t4⟩ := hw'
    go_simp
  try simp only [Act.put, List.setIfInBounds_toArray, List.set_cons_zero, List.set_cons_succ]
  refine AnyD.taked (i := 18) (d := 35) (v := .pointer (some ⟨h2, o2 + 4, none⟩)) rfl rfl (by kernel_rfl) (by kernel_rfl) (by kernel_rfl) rfl (by kernel_rfl) (fun _ _ _ h => h) (Or.inl ⟨by rfl, ?_⟩) HT0.out ?_
  · intro w' hw'
    obtain ⟨t0, t1, t2, t3, t4⟩ := hw'
    go_simp
  try simp only [Act.put, List.setIfInBounds_toArray, List.set_cons_zero, List.set_cons_succ]
  refine AnyD.taked (i := 19) (d := 36) (v := .string y.new) rfl rfl (by kernel_rfl) (by kernel_rfl) (by kernel_rfl) rfl (by kernel_rfl) (fun _ _ _ h => h) (Or.inl ⟨by rfl, ?_⟩) HT0.out ?_
  · intro w' hw'
    obtain ⟨t0, t1, t2, t3, t4⟩ := hw'
    go_simp
  try simp only [Act.put, List.setIfInBounds_toArray, List.set_cons_zero, List.set_cons_succ]
  refine AnyD.taked (i := 20) (d := 37) (v := .agg #[.string k, .bool x.had, .bool y.has, .string x.old, .string y.new]) rfl rfl (by kernel_rfl) (by kernel_rfl) (by kernel_rfl) rfl (by kernel_rfl) (fun _ _ _ h => h) (Or.inl ⟨by rfl, ?_⟩) HT0.out ?_
  · intro w' hw'
    obtain ⟨t0, t1, t2, t3, t4⟩ := hw'
    go_simp
  try simp only [Act.put, List.setIfInBounds_toArray, List.set_cons_zero, List.set_cons_succ]
  refine AnyD.one (i := 21) (by kernel_rfl) (wpOp_of rfl fun K hK => ?_)
  go_simp
  refine hK _ _ ⟨(fun h => by cases h), ?_⟩
  clear hK K
  try simp only [Act.put, List.setIfInBounds_toArray, List.set_cons_zero, List.set_cons_succ]
  refine AnyD.done (by kernel_rfl) ?_ _
  go_wp2
  refine bodyPost_ret (results_cell_row rfl _ _ w.heap.size 44 _ (0, 0) _ rfl ((show Bx5 W1.drew w.heap.size ⟨#[]⟩ ⟨false, false, ⟨#[]⟩, ⟨#[]⟩⟩ from HX2.out).all k ⟨x.had, y.has, x.old, y.new⟩) Tryd.underlying44 rfl (by kernel_rfl)) rfl ?_
  refine ⟨rfl, ?_⟩
  exact (((((HB.out.drew).setCell (p := ⟨w.heap.size, 0, none⟩) (Nat.le_refl _) _).setCell (p := ⟨w.heap.size, 1, none⟩) (Nat.le_refl _) _).setCell (p := ⟨w.heap.size, 2, none⟩) (Nat.le_refl _) _).setCell (p := ⟨w.heap.size, 3, none⟩) (Nat.le_refl _) _).setCell (p := ⟨w.heap.size, 4, none⟩) (Nat.le_refl _) _
theorem joined_any (k : ByteArray) (a b : Option ChV) (va vb : Value) (w : World) (ha : PtC w va k a) (hb : PtC w vb k b) (hx : a.isSome = true ∨ b.isSome = true) :
    Calls Tryd.prog 38 #[va, vb] w fun e w' => e = .returned (chA k (joinV (a, b))) ∧ Below w.heap.size w w' := by
  cases a with
  | none =>
    cases (show va = .pointer none from ha)
    cases b with
    | none => simp at hx
    | some y => obtain ⟨h2, o2, rfl, hy⟩ := hb; exact joined_n k y h2 o2 w hy
  | some x =>
    obtain ⟨h1, o1, rfl, hx1⟩ := ha
    cases b with
    | none => cases (show vb = .pointer none from hb); exact joined_o k x h1 o1 w hx1
    | some y => obtain ⟨h2, o2, rfl, hy⟩ := hb; exact joined_on k x y h1 o1 h2 o2 w hx1 hy
end Go.Proofs.YthnidlhcpelomaaDoor
