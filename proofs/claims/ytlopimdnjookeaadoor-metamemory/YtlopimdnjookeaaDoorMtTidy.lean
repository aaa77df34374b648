import Derived.Test.YtlopimdnjookeaaDoorMtRead
import Derived.Test.YtlopimdnjookeaaDoorBurst
import Derived.Deep.DeepCutAuto
namespace Go.Proofs.YtlopimdnjookeaaDoor
open Go.RowKit

theorem mayM_mk {P R : Int} {t : Nat} (h1 : 4 ≤ P) (h2 : P ≤ 1048576) (h3 : R = 0 ∨ (2 ≤ R ∧ R < P)) : MayM ⟨P, R, t⟩ := ⟨⟨h1, h2⟩, h3⟩
theorem set_mid {w : World} {b : Nat} {t : TypeId} {v0 v1 v2 u : Value} (h : w.heap[b]? = some (.cells #[v0, v1, v2] t (0, 0))) : (w.setCell ⟨b, 1, none⟩ u).heap[b]? = some (.cells #[v0, u, v2] t (0, 0)) := by
  rw [heap_setCell_same w b 1 _ t _ h]; rfl

set_option maxRecDepth 100000 in
set_option maxHeartbeats 4000000 in
theorem tidy_any (p r : Int) (t : Nat) (w : World) (_hp1 : -9223372036854775808 ≤ p) (_hp2 : p ≤ 9223372036854775807) (_hr1 : -9223372036854775808 ≤ r) (_hr2 : r ≤ 9223372036854775807) :
    Calls Tryd.prog 14 #[.agg #[.int .i64 p, .int .i64 r, .int .u64 (t : Int)]] w fun e w' => ∃ P R : Int, e = .returned (.agg #[.int .i64 P, .int .i64 R, .int .u64 (t : Int)]) ∧ MayM ⟨P, R, t⟩ ∧ Below w.heap.size w w' := by
  have HW : Hid (∀ x : Int, -9223372036854775808 ≤ IntKind.i64.wrap x ∧ IntKind.i64.wrap x ≤ 9223372036854775807) := fun x => by
    rw [IntKind.wrap_i64]; omega
  have HX := hide (boxed_new w #[.int .i64 p, .int .i64 r, .int .u64 (t : Int)] 31)
  have HB := hide (below_new w (.cells #[.int .i64 p, .int .i64 r, .int .u64 (t : Int)] 31))
  obtain ⟨x, hx⟩ : ∃ x, IntKind.i64.wrap (p - 4) = x := ⟨_, rfl⟩
  have HXB : Hid (-9223372036854775808 ≤ x ∧ x ≤ 9223372036854775807) := hx ▸ HW.out _
  obtain ⟨y, hy⟩ : ∃ y, IntKind.i64.wrap (r - 2) = y := ⟨_, rfl⟩
  have HYB : Hid (-9223372036854775808 ≤ y ∧ y ≤ 9223372036854775807) := hy ▸ HW.out _
  clear HW _hp1 _hp2 _hr1 _hr2
  go_enter Tryd.func14, Tryd.ntmps14
  go_wp2_with fail
  have hbx : Boxed w.heap.size [.int .i64 p, .int .i64 r, .int .u64 (t : Int)] ((w.alloc (.cells #[.int .i64 p, .int .i64 r, .int .u64 (t : Int)] 31)).alloc (.cells #[.int .i64 0, .int .i64 0, .int .u64 0] 31)) := HX.out.below (below_new _ _)
  have HB1 := hide (Below.next HB.out (below_new (w.alloc (.cells #[.int .i64 p, .int .i64 r, .int .u64 (t : Int)] 31)) (.cells #[.int .i64 0, .int .i64 0, .int .u64 0] 31)))
  have HZ1 : Hid (((w.alloc (.cells #[.int .i64 p, .int .i64 r, .int .u64 (t : Int)] 31)).alloc (.cells #[.int .i64 0, .int .i64 0, .int .u64 0] 31)).heap[w.heap.size + 1]? = some (.cells #[.int .i64 0, .int .i64 0, .int .u64 0] 31 (0, 0))) := by
    have h := heap_alloc_new (w.alloc (.cells #[.int .i64 p, .int .i64 r, .int .u64 (t : Int)] 31)) (.cells #[.int .i64 0, .int .i64 0, .int .u64 0] 31)
    rw [show (w.alloc (.cells #[.int .i64 p, .int .i64 r, .int .u64 (t : Int)] 31)).heap.size = w.heap.size + 1 by simp] at h
    exact h
  clear HX HB
  generalize (w.alloc (.cells #[.int .i64 p, .int .i64 r, .int .u64 (t : Int)] 31)).alloc (.cells #[.int .i64 0, .int .i64 0, .int .u64 0] 31) = W1 at *
  have c0 := hbx.2 0 (by simp)
  have c2 := hbx.2 2 (by simp)
  simp only [List.getElem_cons_zero, List.getElem_cons_succ] at c0 c2
  have HBX := hide hbx
  clear hbx
  go_cut [1, 2, 3] (fun u1 u2 u3 wx => u1 = .pointer (some ⟨w.heap.size, 0, none⟩) ∧ u2 = .pointer (some ⟨w.heap.size + 1, 0, none⟩) ∧ u3 = .pointer (some ⟨W1.heap.size, 0, none⟩) ∧ ∃ k : Nat, k < 1048573 ∧ wx = (W1.alloc (.cells #[.int .i64 (4 + (k : Int)), .int .i64 0, .int .u64 (t : Int)] 31)).drew)
  case first =>
    go_region_held3 (fun w' => w'.cell? ⟨w.heap.size, 0, none⟩ = some (.int .i64 p) ∧ w'.cell? ⟨w.heap.size, 2, none⟩ = some (.int .u64 (t : Int))) (go_keep)
      (first
        | (go_at_call 9; refine (pick_any x 1048573 _ (by decide) (by decide) HXB.out.1 HXB.out.2).mono ?_; rintro e w' ⟨k, rfl, hk, rfl⟩; have HK : Hid (k < 1048573) := (by have h := hk.2 (by decide); show k < 1048573; omega); have hw4 : IntKind.i64.wrap (4 + (k : Int)) = ((4 + k : Nat) : Int) := (by rw [IntKind.wrap_i64]; have := HK.out; omega); clear hk))
    all_goals
      go_wp2_with fail
      go_meet
      case rel => exact ⟨rfl, rfl, rfl, k, HK.out, rfl⟩
  case rest =>
    obtain ⟨rfl, rfl, rfl, k, hk, rfl⟩ := hcut
    have hb2 : Below W1.heap.size W1 (W1.alloc (.cells #[.int .i64 (4 + (k : Int)), .int .i64 0, .int .u64 (t : Int)] 31)).drew := (below_new W1 _).drew
    have hr2 : (W1.alloc (.cells #[.int .i64 (4 + (k : Int)), .int .i64 0, .int .u64 (t : Int)] 31)).drew.heap[W1.heap.size]? = some (.cells #[.int .i64 (4 + (k : Int)), .int .i64 0, .int .u64 (t : Int)] 31 (0, 0)) := by
      rw [World.drew_is_drewN, World.heap_drewN]; exact heap_alloc_new W1 _
    have hlt : w.heap.size + 1 < W1.heap.size := by
      rcases Nat.lt_or_ge (w.heap.size + 1) W1.heap.size with h' | h'
      · exact h'
      · have h2 := HZ1.out; rw [Array.getElem?_eq_none h'] at h2; cases h2
    have hz2 := (hb2.block _ hlt).trans HZ1.out
    have hbx2 := HBX.out.below hb2
    have d1 := hbx2.2 1 (by simp)
    simp only [List.getElem_cons_zero, List.getElem_cons_succ] at d1
    have HB2 := hide (Below.next HB1.out hb2)
    generalize (W1.alloc (.cells #[.int .i64 (4 + (k : Int)), .int .i64 0, .int .u64 (t : Int)] 31)).drew = W2 at *
    have HNE : Hid (w.heap.size + 1 ≠ W1.heap.size ∧ w.heap.size ≤ W1.heap.size) := ⟨by omega, by omega⟩
    have hne1 : ¬ w.heap.size + 1 = W1.heap.size := by omega
    generalize W1.heap.size = mb at *
    have e0 : W2.cell? ⟨mb, 0, none⟩ = some (.int .i64 (4 + (k : Int))) := by rw [cell_of_row _ _ _ _ _ _ hr2]; rfl
    have e1 : W2.cell? ⟨mb, 1, none⟩ = some (.int .i64 0) := by rw [cell_of_row _ _ _ _ _ _ hr2]; rfl
    have e2 : W2.cell? ⟨mb, 2, none⟩ = some (.int .u64 (t : Int)) := by rw [cell_of_row _ _ _ _ _ _ hr2]; rfl
    have f1 : W2.frozen? ⟨mb, 1, none⟩ = false := frozen_of_row _ _ _ _ _ hr2
    obtain ⟨z0, z1, z2, y0, y1, y2⟩ := zero_cells hz2
    have HZ2 := hide hz2
    clear hb2 hz2 hbx2 hlt c0 c2 HZ1 HB1 HBX
    by_cases h0 : r = 0
    · subst h0
      have HR2 := hide hr2
      clear hr2
      go_wp2_with fail
      refine bodyPost_ret (results_cell_row rfl _ _ (w.heap.size + 1) 31 #[.int .i64 (4 + (k : Int)), .int .i64 0, .int .u64 (t : Int)] (0, 0) _ rfl (set_three HZ2.out) Tryd.underlying31 rfl (by kernel_rfl)) rfl ⟨4 + (k : Int), 0, rfl, mayM_mk (by omega) (by omega) (.inl rfl), below_three HB2.out (by omega)⟩
    · have hd0 : (r != 0) = true := bne_iff_ne.2 h0
      have hs2 : IntKind.i64.wrap (4 + (k : Int) - 2) = 4 + (k : Int) - 2 := by rw [IntKind.wrap_i64]; omega
      have hkI : (k : Int) < 1048573 := by omega
      have HR2 := hide hr2
      clear hr2
      go_wp2_with fail
      refine (pick_any y (4 + (k : Int) - 2) _ (by omega) (by omega) HYB.out.1 HYB.out.2).mono ?_
      rintro e w' ⟨j, rfl, hj, rfl⟩
      have hjl : (j : Int) < 4 + (k : Int) - 2 := hj.2 (by omega)
      have HJ := hide hjl
      have hw2 : IntKind.i64.wrap (2 + (j : Int)) = 2 + (j : Int) := by rw [IntKind.wrap_i64]; omega
      clear hj hs2
      have hr3 := set_mid (u := .int .i64 (2 + (j : Int))) HR2.out
      have HZ3 : Hid ((W2.setCell ⟨mb, 1, none⟩ (.int .i64 (2 + (j : Int)))).heap[w.heap.size + 1]? = some (.cells #[.int .i64 0, .int .i64 0, .int .u64 0] 31 (0, 0))) := by
        show _ = _
        rw [Below.heap_setCell W2 ⟨mb, 1, none⟩ _ _ HNE.out.1]; exact HZ2.out
      have HB3 : Hid (Below w.heap.size w (W2.setCell ⟨mb, 1, none⟩ (.int .i64 (2 + (j : Int))))) := HB2.out.setCell HNE.out.2 _
      go_wp2_with fail
      refine bodyPost_ret (results_cell_row rfl _ _ (w.heap.size + 1) 31 #[.int .i64 (4 + (k : Int)), .int .i64 (2 + (j : Int)), .int .u64 (t : Int)] (0, 0) _ rfl (set_three HZ3.out) Tryd.underlying31 rfl (by kernel_rfl)) rfl ⟨4 + (k : Int), 2 + (j : Int), rfl, mayM_mk (by omega) (by omega) (.inr ⟨by omega, by have := HJ.out; omega⟩), below_three HB3.out (by omega)⟩

end Go.Proofs.YtlopimdnjookeaaDoor
