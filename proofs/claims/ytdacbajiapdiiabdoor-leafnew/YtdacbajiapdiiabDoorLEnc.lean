import Derived.Test.YtdacbajiapdiiabDoorLPut
import Derived.Test.YtdacbajiapdiiabDoorLfMath2
import Derived.Test.YtdacbajiapdiiabDoorBase
import Derived.Test.YtdacbajiapdiiabDoorRdStr
import Derived.Deep.RegionHeld3
namespace Go.Proofs.YtdacbajiapdiiabDoor
open Go.RowKit

theorem be_one (n : Nat) (_h : n ≤ 255) : beBytes n 1 = [UInt8.ofNat n] := by
  unfold beBytes digs dig
  simp [List.range, List.range.loop]
theorem be_two (n : Nat) (_h : n < 65536) : beBytes n 2 = [hi8 n, lo8 n] := by
  have e1 : UInt8.ofNat n = lo8 n := by
    apply UInt8.toNat_inj.1
    simp [lo8]
  unfold beBytes digs dig
  simp only [List.range, List.range.loop, List.map_cons, List.map_nil, List.drop_succ_cons, List.drop_zero, Nat.reduceSub, Nat.reduceMul, Nat.reducePow, Nat.div_one]
  rw [e1]; rfl
def headB (p : Pr) : ByteArray := ⟨(headP p.1.size p.2.size).toArray⟩
theorem headB_size (p : Pr) : (headB p).size = 3 := rfl
theorem headB_parts (p : Pr) : (⟨[UInt8.ofNat p.1.size].toArray⟩ : ByteArray) ++ ⟨[hi8 p.2.size, lo8 p.2.size].toArray⟩ = headB p := by
  refine ba_ext' ?_
  simp [headB, headP]
theorem rdA_own {w : World} {base g m c : Nat} {l : List UInt8} (h : w.ownsRow base 5 1 (.slice (some ⟨g, 0, none⟩) m c) m (u8s l)) (hl : l.length = m) : RdA w (.slice (some ⟨g, 0, none⟩) m c) l :=
  ⟨_, _, by rw [hl], fun j hj => ⟨g, 0, rfl, by rw [Nat.zero_add, World.ownsRow.cellAt h j (by omega)]; exact u8s_get l j hj⟩⟩

set_option maxRecDepth 20000 in
set_option maxHeartbeats 1000000 in
theorem lens_any (p : Pr) (w : World) (h1 : p.1.size ≤ 255) (h2 : p.2.size < 65536) :
    Calls Tryd.prog 49 #[.agg #[.string p.1, .string p.2]] w fun e w' => e = .returned (.string (headB p)) ∧ Below w.heap.size w w' := by
  have hbn := below_new w (.cells #[.string p.1, .string p.2] 45)
  have hx := boxed_new w #[.string p.1, .string p.2] 45
  have HP1 := hide (fun W => put_ok p.1.size 1 W (by omega) (by decide) (by decide) (by omega))
  have HP2 := hide (fun W => put_ok p.2.size 2 W (by omega) (by decide) (by decide) (by omega))
  have HBE1 := hide (be_one p.1.size h1)
  have HBE2 := hide (be_two p.2.size h2)
  have HX := hide hx
  have HBN := hide hbn
  have k0 : (w.alloc (.cells #[.string p.1, .string p.2] 45)).cell? ⟨w.heap.size, 0, none⟩ = some (.string p.1) := hx.2 0 (by simp)
  have w1 : (p.1.size : Int) % 18446744073709551616 = (p.1.size : Int) := by omega
  have w2 : (p.2.size : Int) % 18446744073709551616 = (p.2.size : Int) := by omega
  clear hbn hx
  go_enter Tryd.func49, Tryd.ntmps49
  go_wp2_with fail
  refine (HP1.out _).mono ?_
  rintro e w1 ⟨g, c2, rfl, hown, hb1⟩
  rw [HBE1.out] at hown
  have HO1 := hide hown
  have HB1 := hide (Below.next HBN.out hb1)
  have k1 : w1.cell? ⟨w.heap.size, 1, none⟩ = some (.string p.2) := (HX.out.below hb1).2 1 (by simp)
  clear hown hb1 HP1 k0 HBN HX
  go_wp2_with fail
  refine (HP2.out _).mono ?_
  rintro e w2 ⟨g2, c3, rfl, hown2, hb2⟩
  rw [HBE2.out] at hown2
  have ho1 : w2.ownsRow _ 5 1 (.slice (some ⟨g, 0, none⟩) 1 c2) 1 (u8s [UInt8.ofNat p.1.size]) := ⟨HO1.out.1, by
    rcases HO1.out.2 with h' | ⟨g', cap, cur, h', h1', h2', hr⟩
    · exact .inl h'
    · refine .inr ⟨g', cap, cur, h', h1', ?_, hr⟩
      have hg : g' < w1.heap.size := by
        rcases Nat.lt_or_ge g' w1.heap.size with h'' | h''
        · exact h''
        · rw [Array.getElem?_eq_none h''] at h2'; cases h2'
      rw [hb2.block g' hg]; exact h2'⟩
  have cv1 := run_str w2 _ _ (rdA_own ho1 rfl) (by simp)
  have cv2 := run_str w2 _ _ (rdA_own hown2 rfl) (by simp)
  have HB2 := hide (Below.next HB1.out hb2)
  have HH := hide (headB_parts p)
  have HHS := hide (headB_size p)
  obtain ⟨t1, ht1⟩ : ∃ t1 : ByteArray, t1 = ⟨[UInt8.ofNat p.1.size].toArray⟩ := ⟨_, rfl⟩
  obtain ⟨t2, ht2⟩ : ∃ t2 : ByteArray, t2 = ⟨[hi8 p.2.size, lo8 p.2.size].toArray⟩ := ⟨_, rfl⟩
  have z1 : t1.size = 1 := by rw [ht1]; rfl
  have z2 : t2.size = 2 := by rw [ht2]; rfl
  rw [← ht1] at cv1 HH
  rw [← ht2] at cv2 HH
  clear ho1 hown2 hb2 HO1 HB1 HP2 k1 ht1 ht2
  go_wp2
  go_ret
  exact ⟨by rw [← HH.out]; rfl, HB2.out⟩

theorem cellP_parts (p : Pr) : headB p ++ p.1 ++ p.2 = cellP p := by
  refine ba_ext' ?_
  rw [cellP_list]
  simp [headB]

set_option maxRecDepth 20000 in
set_option maxHeartbeats 1000000 in
theorem cell_any (p : Pr) (w : World) (h1 : p.1.size ≤ 255) (h2 : p.2.size < 65536) :
    Calls Tryd.prog 28 #[.agg #[.string p.1, .string p.2]] w fun e w' => e = .returned (.string (cellP p)) ∧ Below w.heap.size w w' := by
  have hbn := below_new w (.cells #[.string p.1, .string p.2] 45)
  have hx := boxed_new w #[.string p.1, .string p.2] 45
  have HL := hide (fun W => lens_any p W h1 h2)
  have HX := hide hx
  have HBN := hide hbn
  have HPA := hide (cellP_parts p)
  have HHS := headB_size p
  obtain ⟨hd, hhd⟩ : ∃ hd, hd = headB p := ⟨_, rfl⟩
  rw [← hhd] at HL HPA HHS
  have s1 : ¬ (9223372036854775807 : Int) < (hd.size : Int) + (p.1.size : Int) := by rw [HHS]; omega
  have s2 : ¬ (9223372036854775807 : Int) < (hd.size : Int) + (p.1.size : Int) + (p.2.size : Int) := by rw [HHS]; omega
  have a1 : ∀ w, (Op.stringOp .add hd p.1).run Tryd.prog w = .ok (.string (hd ++ p.1)) w := fun w => run_string_add_sum (P := Tryd.prog) (w := w) _ _ (by rw [HHS]; omega)
  have a2 : ∀ w, (Op.stringOp .add (hd ++ p.1) p.2).run Tryd.prog w = .ok (.string (hd ++ p.1 ++ p.2)) w := fun w => run_string_add_sum (P := Tryd.prog) (w := w) _ _ (by rw [ByteArray.size_append, HHS]; omega)
  have HS3 := hide HHS
  clear HHS s1 s2
  have k0 : (w.alloc (.cells #[.string p.1, .string p.2] 45)).cell? ⟨w.heap.size, 0, none⟩ = some (.string p.1) := hx.2 0 (by simp)
  have k1 : (w.alloc (.cells #[.string p.1, .string p.2] 45)).cell? ⟨w.heap.size, 1, none⟩ = some (.string p.2) := hx.2 1 (by simp)
  clear hbn hx hhd
  go_enter Tryd.func28, Tryd.ntmps28
  go_wp2_with fail
  generalize w.alloc (.cells #[.string p.1, .string p.2] 45) = W0 at *
  go_region_held3 (fun w' => w'.cell? ⟨w.heap.size, 0, none⟩ = some (.string p.1) ∧ w'.cell? ⟨w.heap.size, 1, none⟩ = some (.string p.2)) (go_keep)
    (first | (go_at_call 49; refine (HL.out _).mono ?_; rintro e w2 ⟨rfl, hb2d⟩; have hb2 : Below W0.heap.size W0 w2 := ⟨hb2d.os, hb2d.tape, hb2d.output, hb2d.size, hb2d.block⟩; have HB2 := hide (Below.next HBN.out hb2); have r0 : w2.cell? ⟨w.heap.size, 0, none⟩ = some (.string p.1) := (HX.out.below hb2).2 0 (by simp); have r1 : w2.cell? ⟨w.heap.size, 1, none⟩ = some (.string p.2) := (HX.out.below hb2).2 1 (by simp); clear hb2 hb2d))
  all_goals
    go_wp2
    go_ret
    exact ⟨by rw [← HPA.out]; rfl, HB2.out⟩

end Go.Proofs.YtdacbajiapdiiabDoor
