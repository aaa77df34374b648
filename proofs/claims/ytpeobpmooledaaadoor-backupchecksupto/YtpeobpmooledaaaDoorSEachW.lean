import Derived.Test.YtpeobpmooledaaaDoorSWHead
namespace Go.Proofs.YtpeobpmooledaaaDoor.S
open Go.RowKit

theorem Lay.alloc {w : World} (h : Lay w) (o : Obj) : Lay (w.alloc o) := h.below (below_new w o)
theorem RowB.alloc {w : World} {g : Nat} {l : List UInt8} (h : RowB w g l) (o : Obj) : RowB (w.alloc o) g l := h.below (below_new w o)

def HeadFits (h : Nat → Nat) : Prop := ∀ k, k < 5 → h k < 2 ^ (8 * width k)
theorem HeadFits.u64 {h : Nat → Nat} (hf : HeadFits h) (k : Nat) (hk : k < 5) : h k < 18446744073709551616 :=
  Nat.lt_of_lt_of_le (hf k hk) (Nat.le_trans (Nat.pow_le_pow_right (n := 2) (i := 8 * width k) (j := 64) (by decide) (by have := (width_le k).2; omega)) (by decide))

@[reducible] def layV : Value := .agg #[.int .i64 0, .int .i64 1, .int .i64 2, .int .i64 2, .int .i64 4, .int .i64 4, .int .i64 8, .int .i64 8, .int .i64 16, .int .i64 4]
theorem lay_index (w : World) (k : Nat) (hk : k < 5) : (Instr.index 100 layV (.int .i64 (k : Int))).run Tryd.prog w = .ok (.agg #[.int .i64 (place k : Int), .int .i64 (width k : Int)]) w := by
  obtain rfl | rfl | rfl | rfl | rfl : k = 0 ∨ k = 1 ∨ k = 2 ∨ k = 3 ∨ k = 4 := by omega
  all_goals kernel_rfl

set_option maxHeartbeats 1000000 in
theorem eachW_any (g hb : Nat) (h : Nat → Nat) (l : List UInt8) (w : World) (hl : l.length = 4096) (hgb : g ≠ hb) (hL : Lay w) (hr : RowB w g l) (hf : HeadFits h)
    (hc : ∀ k, k < 5 → w.cell? ⟨hb, k, none⟩ = some (.int .u64 (h k : Int))) :
    Calls Tryd.prog 60 #[.slice (some ⟨g, 0, none⟩) 4096 4096, .func (.func 65) #[] #[.pointer (some ⟨hb, 0, none⟩)]] w fun e w' => e = .returned (.tuple #[]) ∧ RowB w' g (headTo l h 5) ∧ Sole g w w' := by
  obtain ⟨hL0, c0, c1, c2, c3, c4, c5, c6, c7, c8, c9⟩ := hL
  have HC : Hid (∀ k, k < 5 → w.cell? ⟨hb, k, none⟩ = some (.int .u64 (h k : Int))) := hc
  have HR : Hid (RowB w g l) := hr
  have HF : Hid (HeadFits h) := hf
  have HL : Hid (l.length = 4096) := hl
  clear hc hr hf hl hL0
  go_enter Tryd.func60, Tryd.ntmps60
  go_wp2_with fail
  go_loopw [7] (fun i wr => ∃ k : Nat, k ≤ 5 ∧ i = .int .i64 (k : Int) ∧ RowB wr g (headTo l h k) ∧ Sole g w wr) (fun i _ => 5 - (intOf i).toNat)
  case atStart => exact ⟨0, by omega, rfl, HR.out, Sole.refl _ _⟩
  case round =>
    obtain ⟨k, hk, rfl, hrow, hs⟩ := hrel
    clear c0 c1 c2 c3 c4 c5 c6 c7 c8 c9
    have HS : Hid (Sole g w wr) := hs
    have HW : Hid (RowB wr g (headTo l h k)) := hrow
    clear hs hrow
    by_cases hlt : k < 5
    · have HCK : Hid (∀ o, (wr.alloc o).cell? ⟨hb, k, none⟩ = some (.int .u64 (h k : Int))) := fun o =>
        ((below_new wr o).cell (p := ⟨hb, k, none⟩) (Nat.lt_of_lt_of_le (World.block_lt_of_cell? w _ (HC.out k hlt)) HS.out.size)).trans (HS.out.cell (HC.out k hlt) (fun e => hgb e.symm))
      have HLN : Hid ((headTo l h k).length = 4096) := by show _ = _; rw [headTo_len _ _ (by rw [HL.out]; omega), HL.out]
      have HFK : Hid (h k < 2 ^ (8 * width k)) := HF.out k hlt
      have HUK : Hid (h k < 18446744073709551616) := HF.out.u64 k hlt
      obtain rfl | rfl | rfl | rfl | rfl : k = 0 ∨ k = 1 ∨ k = 2 ∨ k = 3 ∨ k = 4 := by omega
      · have li := fun w => lay_index w 0 (by decide)
        rw [show ((0 : Nat) : Int) = 0 from rfl] at li ⊢
        simp only [place, width, Int.cast_ofNat_Int] at li
        go_wp2_with (go_at_call 65; refine (wh1_any g hb 0 1 0 (h 0) 4096 (headTo l h 0) _ (by decide) HUK.out (by decide) (by decide) HFK.out (HW.out.alloc _) (by rw [HLN.out]; decide) (HCK.out _)).mono ?_; rintro e w1 ⟨rfl, hr1, hs1⟩; have HR1 : Hid (RowB w1 g (headTo l h (0 + 1))) := hr1; have HS1 : Hid (Sole g w w1) := HS.out.trans ((Sole.of_below (below_new wr _)).trans hs1); clear hr1 hs1)
        go_roundw
        case rel => exact ⟨1, by omega, by go_num, HR1.out, HS1.out⟩
        case measure => simp [intOf]
      · have li := fun w => lay_index w 1 (by decide)
        rw [show ((1 : Nat) : Int) = 1 from rfl] at li ⊢
        simp only [place, width, Int.cast_ofNat_Int] at li
        go_wp2_with (go_at_call 65; refine (wh1_any g hb 2 2 1 (h 1) 4094 (headTo l h 1) _ (by decide) HUK.out (by decide) (by decide) HFK.out (HW.out.alloc _) (by rw [HLN.out]; decide) (HCK.out _)).mono ?_; rintro e w1 ⟨rfl, hr1, hs1⟩; have HR1 : Hid (RowB w1 g (headTo l h (1 + 1))) := hr1; have HS1 : Hid (Sole g w w1) := HS.out.trans ((Sole.of_below (below_new wr _)).trans hs1); clear hr1 hs1)
        go_roundw
        case rel => exact ⟨2, by omega, by go_num, HR1.out, HS1.out⟩
        case measure => simp [intOf]
      · have li := fun w => lay_index w 2 (by decide)
        rw [show ((2 : Nat) : Int) = 2 from rfl] at li ⊢
        simp only [place, width, Int.cast_ofNat_Int] at li
        go_wp2_with (go_at_call 65; refine (wh1_any g hb 4 4 2 (h 2) 4092 (headTo l h 2) _ (by decide) HUK.out (by decide) (by decide) HFK.out (HW.out.alloc _) (by rw [HLN.out]; decide) (HCK.out _)).mono ?_; rintro e w1 ⟨rfl, hr1, hs1⟩; have HR1 : Hid (RowB w1 g (headTo l h (2 + 1))) := hr1; have HS1 : Hid (Sole g w w1) := HS.out.trans ((Sole.of_below (below_new wr _)).trans hs1); clear hr1 hs1)
        go_roundw
        case rel => exact ⟨3, by omega, by go_num, HR1.out, HS1.out⟩
        case measure => simp [intOf]
      · have li := fun w => lay_index w 3 (by decide)
        rw [show ((3 : Nat) : Int) = 3 from rfl] at li ⊢
        simp only [place, width, Int.cast_ofNat_Int] at li
        go_wp2_with (go_at_call 65; refine (wh1_any g hb 8 8 3 (h 3) 4088 (headTo l h 3) _ (by decide) HUK.out (by decide) (by decide) HFK.out (HW.out.alloc _) (by rw [HLN.out]; decide) (HCK.out _)).mono ?_; rintro e w1 ⟨rfl, hr1, hs1⟩; have HR1 : Hid (RowB w1 g (headTo l h (3 + 1))) := hr1; have HS1 : Hid (Sole g w w1) := HS.out.trans ((Sole.of_below (below_new wr _)).trans hs1); clear hr1 hs1)
        go_roundw
        case rel => exact ⟨4, by omega, by go_num, HR1.out, HS1.out⟩
        case measure => simp [intOf]
      · have li := fun w => lay_index w 4 (by decide)
        rw [show ((4 : Nat) : Int) = 4 from rfl] at li ⊢
        simp only [place, width, Int.cast_ofNat_Int] at li
        go_wp2_with (go_at_call 65; refine (wh1_any g hb 16 4 4 (h 4) 4080 (headTo l h 4) _ (by decide) HUK.out (by decide) (by decide) HFK.out (HW.out.alloc _) (by rw [HLN.out]; decide) (HCK.out _)).mono ?_; rintro e w1 ⟨rfl, hr1, hs1⟩; have HR1 : Hid (RowB w1 g (headTo l h (4 + 1))) := hr1; have HS1 : Hid (Sole g w w1) := HS.out.trans ((Sole.of_below (below_new wr _)).trans hs1); clear hr1 hs1)
        go_roundw
        case rel => exact ⟨5, by omega, by go_num, HR1.out, HS1.out⟩
        case measure => simp [intOf]
    · obtain rfl : k = 5 := by omega
      rw [show ((5 : Nat) : Int) = 5 from rfl]
      go_wp2_with fail
      go_end0
      exact ⟨rfl, HW.out, HS.out⟩

end Go.Proofs.YtpeobpmooledaaaDoor.S
