import Derived.Test.YtlopimdnjookeaaDoorMtFn3
namespace Go.Proofs.YtlopimdnjookeaaDoor
open Go.RowKit

theorem set_three {w : World} {b : Nat} {t : TypeId} {v0 v1 v2 u0 u1 u2 : Value} (h : w.heap[b]? = some (.cells #[v0, v1, v2] t (0, 0))) :
    (((w.setCell ⟨b, 0, none⟩ u0).setCell ⟨b, 1, none⟩ u1).setCell ⟨b, 2, none⟩ u2).heap[b]? = some (.cells #[u0, u1, u2] t (0, 0)) := by
  rw [heap_setCell_same _ b 2 _ t _ (heap_setCell_same _ b 1 _ t _ (heap_setCell_same w b 0 _ t _ h))]; rfl
theorem below_three {w0 w : World} {b : Nat} {u0 u1 u2 : Value} (h : Below w0.heap.size w0 w) (hb : w0.heap.size ≤ b) : Below w0.heap.size w0 (((w.setCell ⟨b, 0, none⟩ u0).setCell ⟨b, 1, none⟩ u1).setCell ⟨b, 2, none⟩ u2) :=
  ((h.setCell hb _).setCell hb _).setCell hb _
theorem box512 (w : World) (l : List UInt8) : RowT 69 (w.alloc (.cells (u8s l).toArray 69)) w.heap.size l := rowT_new _ _ _

set_option maxRecDepth 100000 in
set_option maxHeartbeats 4000000 in
theorem numbersOf_any (l : List UInt8) (w : World) (hl : l.length = 512) :
    Calls Tryd.prog 51 #[.agg (u8s l).toArray] w fun e w' => e = .returned (.agg (parseM l).cells.toArray) ∧ Below w.heap.size w w' := by
  obtain ⟨n1, h1⟩ : ∃ n, n = beNat (sub l 8 4) := ⟨_, rfl⟩
  obtain ⟨n2, h2⟩ : ∃ n, n = beNat (sub l 12 4) := ⟨_, rfl⟩
  obtain ⟨n3, h3⟩ : ∃ n, n = beNat (sub l 16 8) := ⟨_, rfl⟩
  have b1 : n1 < 4294967296 := by have := beNat_lt (sub l 8 4); rw [sub_len _ _ _ (by omega)] at this; rw [h1]; exact this
  have b2 : n2 < 4294967296 := by have := beNat_lt (sub l 12 4); rw [sub_len _ _ _ (by omega)] at this; rw [h2]; exact this
  have HPV : Hid ((parseM l).cells.toArray = #[.int .i64 (n1 : Int), .int .i64 (n2 : Int), .int .u64 (n3 : Int)]) := by show _ = _; rw [h1, h2, h3]; rfl
  have HG : Hid (∀ W o m cap, RowT 69 W w.heap.size l → o + m ≤ 512 → 1 ≤ m → m ≤ 8 → Calls Tryd.prog 58 #[.slice (some ⟨w.heap.size, o, none⟩) m cap] W fun e w' => e = .returned (.int .u64 ((beNat (sub l o m) : Nat) : Int)) ∧ Below W.heap.size W w') := fun W o m cap h hom m1 m8 =>
    getn_any w.heap.size o m cap (sub l o m) W (sub_len _ _ _ (by omega)) m1 m8 (fun j hj => by rw [sub_get l o m j (by omega) hj]; exact h.cell _ _)
  have HG1 : Hid (∀ W, RowT 69 W w.heap.size l → Calls Tryd.prog 58 #[.slice (some ⟨w.heap.size, 8, none⟩) 4 504] W fun e w' => e = .returned (.int .u64 (n1 : Int)) ∧ Below W.heap.size W w') := fun W h => by rw [h1]; exact HG.out W 8 4 504 h (by decide) (by decide) (by decide)
  have HG2 : Hid (∀ W, RowT 69 W w.heap.size l → Calls Tryd.prog 58 #[.slice (some ⟨w.heap.size, 12, none⟩) 4 500] W fun e w' => e = .returned (.int .u64 (n2 : Int)) ∧ Below W.heap.size W w') := fun W h => by rw [h2]; exact HG.out W 12 4 500 h (by decide) (by decide) (by decide)
  have HG3 : Hid (∀ W, RowT 69 W w.heap.size l → Calls Tryd.prog 58 #[.slice (some ⟨w.heap.size, 16, none⟩) 8 496] W fun e w' => e = .returned (.int .u64 (n3 : Int)) ∧ Below W.heap.size W w') := fun W h => by rw [h3]; exact HG.out W 16 8 496 h (by decide) (by decide) (by decide)
  have w1 := wrap_n n1 (by omega)
  have w2 := wrap_n n2 (by omega)
  have s8 := sl_8 w.heap.size
  have s12 := sl_12 w.heap.size
  have s16 := sl_16 w.heap.size
  obtain ⟨CS, hCS⟩ : ∃ CS, CS = (u8s l).toArray := ⟨_, rfl⟩
  have hrow := box512 w l
  rw [← hCS] at hrow ⊢
  have HB0 := hide (below_new w (.cells CS 69))
  have HR0 := hide hrow
  rw [HPV.out]
  clear hCS h1 h2 h3 HG hl b1 b2 hrow HPV
  have HZ : Hid (((w.alloc (.cells CS 69)).alloc (.cells #[.int .i64 0, .int .i64 0, .int .u64 0] 31)).heap[w.heap.size + 1]? = some (.cells #[.int .i64 0, .int .i64 0, .int .u64 0] 31 (0, 0))) := by
    have h := heap_alloc_new (w.alloc (.cells CS 69)) (.cells #[.int .i64 0, .int .i64 0, .int .u64 0] 31)
    rw [show (w.alloc (.cells CS 69)).heap.size = w.heap.size + 1 by simp] at h
    exact h
  have hb1 := below_new (w.alloc (.cells CS 69)) (.cells #[.int .i64 0, .int .i64 0, .int .u64 0] 31)
  have HR1 := hide (HR0.out.below hb1)
  have HB1 := hide (Below.next HB0.out hb1)
  clear HR0 HB0 hb1
  go_enter Tryd.func51, Tryd.ntmps51
  go_wp2_with fail
  generalize (w.alloc (.cells CS 69)).alloc (.cells #[.int .i64 0, .int .i64 0, .int .u64 0] 31) = W1 at *
  have HLT : Hid (w.heap.size + 1 < W1.heap.size) := by
    rcases Nat.lt_or_ge (w.heap.size + 1) W1.heap.size with h' | h'
    · exact h'
    · have h2 := HZ.out; rw [Array.getElem?_eq_none h'] at h2; cases h2
  go_region_held3 (fun _ => True) (trivial)
    (first
      | (go_at_call_of 58 (Value.slice (some ⟨w.heap.size, 8, none⟩) 4 504); refine (HG1.out _ ?_).mono ?_; (exact HR1.out); rintro e w3 ⟨rfl, hb3d⟩; have hb3 : Below W1.heap.size W1 w3 := ⟨hb3d.os, hb3d.tape, hb3d.output, hb3d.size, hb3d.block⟩; have HR2 := hide (HR1.out.below hb3); have HB2 := hide hb3; clear hb3 hb3d)
      | (go_at_call_of 58 (Value.slice (some ⟨w.heap.size, 12, none⟩) 4 500); refine (HG2.out _ ?_).mono ?_; (exact HR2.out); rintro e w4 ⟨rfl, hb3d⟩; have hb3 : Below w3.heap.size w3 w4 := ⟨hb3d.os, hb3d.tape, hb3d.output, hb3d.size, hb3d.block⟩; have HR3 := hide (HR2.out.below hb3); have HB3 := hide (Below.next HB2.out hb3); clear hb3 hb3d)
      | (go_at_call_of 58 (Value.slice (some ⟨w.heap.size, 16, none⟩) 8 496); refine (HG3.out _ ?_).mono ?_; (exact HR3.out); rintro e w5 ⟨rfl, hb3d⟩; have hb3 : Below w4.heap.size w4 w5 := ⟨hb3d.os, hb3d.tape, hb3d.output, hb3d.size, hb3d.block⟩; have hb5 := Below.next HB3.out hb3; have HB5 := hide (Below.next HB1.out hb5); have hz5 : w5.heap[w.heap.size + 1]? = some (.cells #[.int .i64 0, .int .i64 0, .int .u64 0] 31 (0, 0)) := (hb5.block _ HLT.out).trans HZ.out; have HZ5 := hide hz5; have z0 : w5.cell? ⟨w.heap.size + 1, 0, none⟩ = some (.int .i64 0) := by { rw [cell_of_row _ _ _ _ _ _ hz5]; rfl }; have z1 : w5.cell? ⟨w.heap.size + 1, 1, none⟩ = some (.int .i64 0) := by { rw [cell_of_row _ _ _ _ _ _ hz5]; rfl }; have z2 : w5.cell? ⟨w.heap.size + 1, 2, none⟩ = some (.int .u64 0) := by { rw [cell_of_row _ _ _ _ _ _ hz5]; rfl }; have y0 : w5.frozen? ⟨w.heap.size + 1, 0, none⟩ = false := frozen_of_row _ _ _ _ _ hz5; have y1 : w5.frozen? ⟨w.heap.size + 1, 1, none⟩ = false := frozen_of_row _ _ _ _ _ hz5; have y2 : w5.frozen? ⟨w.heap.size + 1, 2, none⟩ = false := frozen_of_row _ _ _ _ _ hz5; clear hb3 hb3d hb5 hz5))
  go_wp2_with fail
  refine bodyPost_ret (results_cell_row rfl _ _ (w.heap.size + 1) 31 #[.int .i64 (n1 : Int), .int .i64 (n2 : Int), .int .u64 (n3 : Int)] (0, 0) _ rfl (set_three HZ5.out) Tryd.underlying31 rfl (by kernel_rfl)) rfl ⟨rfl, below_three HB5.out (by omega)⟩

end Go.Proofs.YtlopimdnjookeaaDoor
