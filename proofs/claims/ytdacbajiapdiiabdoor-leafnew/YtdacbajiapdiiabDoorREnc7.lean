import Derived.Test.YtdacbajiapdiiabDoorLRPut
import Derived.Test.YtdacbajiapdiiabDoorLEnc
import Derived.Test.YtdacbajiapdiiabDoorRCheck
import Derived.Test.YtdacbajiapdiiabDoorRLay
namespace Go.Proofs.YtdacbajiapdiiabDoor
open Go.RowKit

set_option maxRecDepth 20000 in
set_option maxHeartbeats 400000 in
theorem cbytes_any (n m : Nat) (w : World) (hn : n < 65536) (h1 : 1 ≤ m) (h8 : m ≤ 8) (hfit : n < 2 ^ (8 * m)) :
    Calls Tryd.prog 55 #[.int .i64 (n : Int), .int .i64 (m : Int)] w fun e w' => ∃ v, e = .returned v ∧ w'.ownsRow w.heap.size 5 1 v m (u8s (beBytes n m)) ∧ Below w.heap.size w w' := by
  have HP := hide (rput_ok n m w (by omega) h1 h8 hfit)
  have w1 : (n : Int) % 18446744073709551616 = (n : Int) := by omega
  clear hfit
  go_enter Tryd.func55, Tryd.ntmps55
  go_wp2_with fail
  refine HP.out.mono ?_
  rintro e w1 ⟨v, rfl, hown, hb⟩
  have HO := hide hown
  clear hown HP
  go_wp2
  go_ret
  exact ⟨_, rfl, HO.out, hb⟩

set_option maxRecDepth 20000 in
set_option maxHeartbeats 1000000 in
theorem rcell_any (p : Pr) (w : World) (h1 : p.1.size ≤ 255) (h2 : p.2.size < 65536) :
    Calls Tryd.prog 31 #[.agg #[.string p.1, .string p.2]] w fun e w' => e = .returned (.string (cellP p)) ∧ Below w.heap.size w w' := by
  have hbn := below_new w (.cells #[.string p.1, .string p.2] 45)
  have hx := boxed_new w #[.string p.1, .string p.2] 45
  have HP1 : Hid (∀ W, Calls Tryd.prog 55 #[.int .i64 (p.1.size : Int), .int .i64 1] W fun e w' => ∃ v, e = .returned v ∧ w'.ownsRow W.heap.size 5 1 v 1 (u8s [UInt8.ofNat p.1.size]) ∧ Below W.heap.size W w') := fun W => by
    have := cbytes_any p.1.size 1 W (by omega) (by decide) (by decide) (by omega)
    rw [be_one _ h1] at this; exact this
  have HP2 : Hid (∀ W, Calls Tryd.prog 55 #[.int .i64 (p.2.size : Int), .int .i64 2] W fun e w' => ∃ v, e = .returned v ∧ w'.ownsRow W.heap.size 5 1 v 2 (u8s [hi8 p.2.size, lo8 p.2.size]) ∧ Below W.heap.size W w') := fun W => by
    have := cbytes_any p.2.size 2 W (by omega) (by decide) (by decide) (by omega)
    rw [be_two _ h2] at this; exact this
  have HX := hide hx
  have HBN := hide hbn
  have k0 : (w.alloc (.cells #[.string p.1, .string p.2] 45)).cell? ⟨w.heap.size, 0, none⟩ = some (.string p.1) := hx.2 0 (by simp)
  clear hbn hx
  go_enter Tryd.func31, Tryd.ntmps31
  go_wp2_with fail
  refine (HP1.out _).mono ?_
  rintro e w1 ⟨v1, rfl, hown1, hb1⟩
  have k1 : w1.cell? ⟨w.heap.size, 1, none⟩ = some (.string p.2) := (HX.out.below hb1).2 1 (by simp)
  obtain ⟨a1, c1, hv1⟩ := own_form1 hown1
  subst hv1
  have HO1 := hide hown1
  have HB1 := hide (Below.next HBN.out hb1)
  have HX1 := hide (HX.out.below hb1)
  have HSZ : Hid ((w.alloc (.cells #[.string p.1, .string p.2] 45)).heap.size ≤ w1.heap.size) := hb1.size
  clear hown1 hb1 HP1 HBN HX k0
  go_wp2_with fail
  refine (HP2.out _).mono ?_
  rintro e w2 ⟨v2, rfl, hown2, hb2⟩
  obtain ⟨a2, c2, hv2⟩ := own_form1 hown2
  subst hv2
  obtain ⟨a3, c3, w3, hrun, hown3, hg3⟩ := append_row 78 5 _ 1 Tryd.info5 Tryd.underlying78 rfl _ 1 _ _ w2 (owns_below HO1.out hb2) _ _ (rowR_of_owns hown2) (u8s_one _) (by simp [u8s_length]) (by decide) (by have := hb2.size; have := HSZ.out; omega)
  rw [← u8s_append] at hown3
  have hln3 : (u8s [hi8 p.2.size, lo8 p.2.size]).length = 2 := rfl
  rw [hln3] at hrun hown3
  have hb3 : Below w.heap.size w w3 := (Below.next HB1.out hb2).grown hg3 (by have := hb2.size; have := HB1.out.size; omega) (fun k hk => by
    have := (World.ownsRow.lt HO1.out k hk).1
    simp at this; omega)
  have hcv : (convert 78 9 (.slice a3 3 c3)).run Tryd.prog w3 = .ok (.string (headB p)) w3 := by
    have hr3 := rowR_of_owns hown3
    obtain ⟨a', c', he, _, _, hcc⟩ := hr3
    simp only [Value.slice.injEq] at he
    obtain ⟨rfl, -, rfl⟩ := he
    refine run_str w3 _ (headP p.1.size p.2.size) ⟨a3, c3, rfl, fun j hj => ?_⟩ (by simp [headP])
    exact hcc j _ (u8s_get _ j hj)
  have hx3 : Boxed w.heap.size [.string p.1, .string p.2] w3 := by
    have hx2 := HX1.out.below hb2
    refine ⟨Nat.lt_of_lt_of_le hx2.1 hg3.size, fun j hj => ?_⟩
    have hne : ∀ k, (Value.slice a1 1 c1).ownBlock = some k → k ≠ w.heap.size := fun k hk => by
      have := (World.ownsRow.lt HO1.out k hk).1
      simp at this; omega
    have hblk : w3.heap[w.heap.size]? = w2.heap[w.heap.size]? := hg3.block w.heap.size hx2.1 (fun h => hne _ h.symm rfl)
    exact (World.cell?_of_block (a := ⟨w.heap.size, j, none⟩) hblk).trans (hx2.2 j hj)
  have m0 : w3.cell? ⟨w.heap.size, 0, none⟩ = some (.string p.1) := hx3.2 0 (by simp)
  have m1 : w3.cell? ⟨w.heap.size, 1, none⟩ = some (.string p.2) := hx3.2 1 (by simp)
  have HB3 := hide hb3
  have HPA := hide (cellP_parts p)
  have HHS := headB_size p
  obtain ⟨hd, hhd⟩ : ∃ hd, hd = headB p := ⟨_, rfl⟩
  rw [← hhd] at hcv HPA HHS
  have b1 : ∀ w, (Op.stringOp .add hd p.1).run Tryd.prog w = .ok (.string (hd ++ p.1)) w := fun w => run_string_add_sum (P := Tryd.prog) (w := w) _ _ (by rw [HHS]; omega)
  have b2 : ∀ w, (Op.stringOp .add (hd ++ p.1) p.2).run Tryd.prog w = .ok (.string (hd ++ p.1 ++ p.2)) w := fun w => run_string_add_sum (P := Tryd.prog) (w := w) _ _ (by rw [ByteArray.size_append, HHS]; omega)
  have HS3 := hide HHS
  clear hown2 hb2 hown3 hb3 hg3 HO1 HB1 HP2 HX1 HSZ k1 hx3 hhd HHS hln3
  go_wp2_with (first | (at_builtin; refine wpList_append_run 78 rfl (.tmp 8) (.tmp 12) rfl rfl _ _ rfl rfl _ _ hrun ?_))
  go_ret
  exact ⟨by rw [← HPA.out]; rfl, HB3.out⟩

end Go.Proofs.YtdacbajiapdiiabDoor
