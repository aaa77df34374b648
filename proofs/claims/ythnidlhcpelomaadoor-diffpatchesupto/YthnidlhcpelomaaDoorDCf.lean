import Derived.Test.YthnidlhcpelomaaDoorDApc
namespace Go.Proofs.YthnidlhcpelomaaDoor
open Go.RowKit
attribute [local go_sem ↓] Go.wp_at_zero Go.wp_at_succ

/-- A pointer to a pair, or none. -/
def PtP (w : World) (v : Value) (k : ByteArray) : Option ByteArray → Prop
  | none => v = .pointer none
  | some y => ∃ g o, v = .pointer (some ⟨g, o, none⟩) ∧ w.cell? ⟨g, o, none⟩ = some (.string k) ∧ w.cell? ⟨g, o + 1, none⟩ = some (.string y)
theorem cell_al {w : World} {p : Addr} {u : Value} (hc : w.cell? p = some u) : (∀ o, (w.alloc o).cell? p = some u) ∧ ∀ o o', ((w.alloc o).alloc o').cell? p = some u := by
  have hb := World.block_lt_of_cell? w _ hc
  exact ⟨fun o => (World.cell?_of_block (Below.heap_alloc w o p.block hb)).trans hc, fun o o' => (World.cell?_of_block ((Below.heap_alloc (w.alloc o) o' p.block (by simp; omega)).trans (Below.heap_alloc w o p.block hb))).trans hc⟩
theorem al_first (w : World) (o o' : Obj) : ((w.alloc o).alloc o').heap[w.heap.size]? = some o := (Below.heap_alloc _ _ _ (by simp)).trans (World.alloc_heap_new w _)
theorem al_below (w : World) (o o' : Obj) : Below w.heap.size w ((w.alloc o).alloc o') := ((Below.refl _ w).alloc (Nat.le_refl _) _).alloc (by simp) _
set_option maxHeartbeats 4000000 in
theorem chfrom_on (k y z : ByteArray) (g1 o1 g2 o2 : Nat) (w : World) (h1 : w.cell? ⟨g1, o1, none⟩ = some (.string k)) (h2 : w.cell? ⟨g1, o1 + 1, none⟩ = some (.string y)) (h3 : w.cell? ⟨g2, o2, none⟩ = some (.string k)) (h4 : w.cell? ⟨g2, o2 + 1, none⟩ = some (.string z)) :
    Calls Tryd.prog 31 #[.pointer (some ⟨g1, o1, none⟩), .pointer (some ⟨g2, o2, none⟩)] w fun e w' => e = .returned (chA k ⟨true, true, y, z⟩) ∧ Below w.heap.size w w' := by
  obtain ⟨a1, a2⟩ := cell_al h1
  obtain ⟨b1, b2⟩ := cell_al h2
  obtain ⟨c1, c2⟩ := cell_al h3
  obtain ⟨d1, d2⟩ := cell_al h4
  go_enter Tryd.func31, Tryd.ntmps31
  go_wp2_with fail
  go_region
  all_goals go_wp2_with fail
  all_goals go_region
  all_goals go_wp2
  all_goals exact bodyPost_ret (results_cell_row rfl _ _ w.heap.size 44 _ (0, 0) _ rfl (al_first w _ _) Tryd.underlying44 rfl (by kernel_rfl)) rfl ⟨rfl, (al_below w _ _).drew.drew⟩
set_option maxHeartbeats 4000000 in
theorem chfrom_o (k y : ByteArray) (g1 o1 : Nat) (w : World) (h1 : w.cell? ⟨g1, o1, none⟩ = some (.string k)) (h2 : w.cell? ⟨g1, o1 + 1, none⟩ = some (.string y)) :
    Calls Tryd.prog 31 #[.pointer (some ⟨g1, o1, none⟩), .pointer none] w fun e w' => e = .returned (chA k ⟨true, false, y, nilB⟩) ∧ Below w.heap.size w w' := by
  obtain ⟨a1, a2⟩ := cell_al h1
  obtain ⟨b1, b2⟩ := cell_al h2
  go_enter Tryd.func31, Tryd.ntmps31
  go_wp2_with fail
  go_region
  all_goals go_wp2
  all_goals exact bodyPost_ret (results_cell_row rfl _ _ w.heap.size 44 _ (0, 0) _ rfl (al_first w _ _) Tryd.underlying44 rfl (by kernel_rfl)) rfl ⟨rfl, (al_below w _ _).drew⟩
set_option maxHeartbeats 4000000 in
theorem chfrom_n (k y : ByteArray) (g1 o1 : Nat) (w : World) (h1 : w.cell? ⟨g1, o1, none⟩ = some (.string k)) (h2 : w.cell? ⟨g1, o1 + 1, none⟩ = some (.string y)) :
    Calls Tryd.prog 31 #[.pointer none, .pointer (some ⟨g1, o1, none⟩)] w fun e w' => e = .returned (chA k ⟨false, true, nilB, y⟩) ∧ Below w.heap.size w w' := by
  obtain ⟨a1, a2⟩ := cell_al h1
  obtain ⟨b1, b2⟩ := cell_al h2
  go_enter Tryd.func31, Tryd.ntmps31
  go_wp2_with fail
  go_region
  all_goals go_wp2
  all_goals exact bodyPost_ret (results_cell_row rfl _ _ w.heap.size 44 _ (0, 0) _ rfl (al_first w _ _) Tryd.underlying44 rfl (by kernel_rfl)) rfl ⟨rfl, (al_below w _ _).drew⟩
theorem chfrom_any (k : ByteArray) (o n : Option ByteArray) (vo vn : Value) (w : World) (ho : PtP w vo k o) (hn : PtP w vn k n) (hx : o.isSome = true ∨ n.isSome = true) :
    Calls Tryd.prog 31 #[vo, vn] w fun e w' => e = .returned (chA k (chgV o n)) ∧ Below w.heap.size w w' := by
  cases o with
  | none =>
    cases n with
    | none => simp at hx
    | some z =>
      obtain ⟨g2, o2, rfl, h3, h4⟩ := hn
      cases (show vo = .pointer none from ho)
      exact chfrom_n k z g2 o2 w h3 h4
  | some y =>
    obtain ⟨g1, o1, rfl, h1, h2⟩ := ho
    cases n with
    | none =>
      cases (show vn = .pointer none from hn)
      exact chfrom_o k y g1 o1 w h1 h2
    | some z =>
      obtain ⟨g2, o2, rfl, h3, h4⟩ := hn
      exact chfrom_on k y z g1 o1 g2 o2 w h1 h2 h3 h4
end Go.Proofs.YthnidlhcpelomaaDoor
