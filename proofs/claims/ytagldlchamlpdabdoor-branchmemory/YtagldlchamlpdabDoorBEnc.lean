import Derived.Test.YtagldlchamlpdabDoorBrMath2
import Derived.Test.YtagldlchamlpdabDoorBas2
import Derived.Test.YtagldlchamlpdabDoorRdStr
import Derived.Deep.RegionHeld3
namespace Go.Proofs.YtagldlchamlpdabDoor
open Go.RowKit

theorem be_one (n : Nat) (_h : n ≤ 255) : beBytes n 1 = [UInt8.ofNat n] := by
  unfold beBytes digs dig
  simp [List.range, List.range.loop]
theorem rdA_own {w : World} {base g m c : Nat} {l : List UInt8} (h : w.ownsRow base 5 1 (.slice (some ⟨g, 0, none⟩) m c) m (u8s l)) (hl : l.length = m) : RdA w (.slice (some ⟨g, 0, none⟩) m c) l :=
  ⟨_, _, by rw [hl], fun j hj => ⟨g, 0, rfl, by rw [Nat.zero_add, World.ownsRow.cellAt h j (by omega)]; exact u8s_get l j hj⟩⟩
def lenC (n : Nat) : ByteArray := ⟨[UInt8.ofNat n].toArray⟩
theorem lenC_size (n : Nat) : (lenC n).size = 1 := rfl
theorem cellK_parts (p : Lk) : lenC p.1.size ++ p.1 ++ cellC p.2.toNat = cellK p := by
  refine ba_ext' ?_
  rw [cellK_list]
  simp [lenC, cellC]

set_option maxRecDepth 20000 in
set_option maxHeartbeats 1000000 in
theorem cellc_any (m : Nat) (w : World) (hm : m < 1048576) :
    Calls Tryd.prog 33 #[.int .i64 (m : Int)] w fun e w' => e = .returned (.string (cellC m)) ∧ Below w.heap.size w w' := by
  have HP := hide (put_ok m 4 w (by omega) (by decide) (by decide) (by omega))
  have w1 : (m : Int) % 18446744073709551616 = (m : Int) := by omega
  have HL := hide (beBytes_len m 4 (by decide))
  go_enter Tryd.func33, Tryd.ntmps33
  go_wp2_with fail
  refine HP.out.mono ?_
  rintro e w2 ⟨g, c2, rfl, hown, hb⟩
  have cv := run_str w2 _ _ (rdA_own hown HL.out) (by rw [HL.out]; decide)
  have HB := hide hb
  clear hown hb HP
  obtain ⟨cc, hcc⟩ : ∃ cc, cc = cellC m := ⟨_, rfl⟩
  have HCC := hide hcc
  have hce : (⟨(beBytes m 4).toArray⟩ : ByteArray) = cc := by rw [hcc]; rfl
  rw [hce] at cv
  clear hcc hce
  go_wp2
  go_ret
  exact ⟨by rw [← HCC.out]; rfl, HB.out⟩

set_option maxRecDepth 20000 in
set_option maxHeartbeats 1000000 in
theorem keylen_any (key : ByteArray) (w : World) (h1 : key.size ≤ 255) :
    Calls Tryd.prog 64 #[.string key] w fun e w' => e = .returned (.string (lenC key.size)) ∧ Below w.heap.size w w' := by
  have HP := hide (put_ok key.size 1 w (by omega) (by decide) (by decide) (by omega))
  have HBE := hide (be_one key.size h1)
  have w1 : (key.size : Int) % 18446744073709551616 = (key.size : Int) := by omega
  go_enter Tryd.func64, Tryd.ntmps64
  go_wp2_with fail
  refine HP.out.mono ?_
  rintro e w2 ⟨g, c2, rfl, hown, hb⟩
  rw [HBE.out] at hown
  have cv := run_str w2 _ _ (rdA_own hown rfl) (by simp)
  have HB := hide hb
  clear hown hb HP
  obtain ⟨cc, hcc⟩ : ∃ cc, cc = lenC key.size := ⟨_, rfl⟩
  have HCC := hide hcc
  have hce : (⟨[UInt8.ofNat key.size].toArray⟩ : ByteArray) = cc := by rw [hcc]; rfl
  rw [hce] at cv
  clear hcc hce
  go_wp2
  go_ret
  exact ⟨by rw [← HCC.out]; rfl, HB.out⟩

set_option maxRecDepth 20000 in
set_option maxHeartbeats 2000000 in
theorem linkc_any (p : Lk) (w : World) (hp : mayK p = true) :
    Calls Tryd.prog 34 #[.agg #[.string p.1, .int .i64 p.2]] w fun e w' => e = .returned (.string (cellK p)) ∧ Below w.heap.size w w' := by
  obtain ⟨h1, h2, h3, h4⟩ := mayK_parts hp
  obtain ⟨m, hm⟩ : ∃ m : Nat, p.2 = (m : Int) := ⟨p.2.toNat, by omega⟩
  have HPA := hide (cellK_parts p)
  rw [hm] at HPA ⊢
  rw [Int.toNat_natCast] at HPA
  have hmb : m < 1048576 := by omega
  have q0 := below_new w (.cells #[.string p.1, .int .i64 (m : Int)] 54)
  have x0 := RowAt.new w #[.string p.1, .int .i64 (m : Int)] 54
  generalize hW0 : w.alloc (.cells #[.string p.1, .int .i64 (m : Int)] 54) = W0 at *
  have p0 := x0.c0
  have p1 := x0.c1
  have HX := hide x0
  have HQ := hide q0
  have HK : Hid (∀ W, Calls Tryd.prog 64 #[.string p.1] W fun e w' => e = .returned (.string (lenC p.1.size)) ∧ Below W.heap.size W w') := fun W => keylen_any p.1 W h2
  have HC : Hid (∀ W, Calls Tryd.prog 33 #[.int .i64 (m : Int)] W fun e w' => e = .returned (.string (cellC m)) ∧ Below W.heap.size W w') := fun W => cellc_any m W hmb
  obtain ⟨t1, ht1⟩ : ∃ t, t = lenC p.1.size := ⟨_, rfl⟩
  obtain ⟨t2, ht2⟩ : ∃ t, t = cellC m := ⟨_, rfl⟩
  have z1 : t1.size = 1 := by rw [ht1]; rfl
  have z2 : t2.size = 4 := by rw [ht2]; exact cellC_size m
  rw [← ht1] at HK HPA
  rw [← ht2] at HC HPA
  have a1 : ∀ w, (Op.stringOp .add t1 p.1).run Tryd.prog w = .ok (.string (t1 ++ p.1)) w := fun w => run_string_add_sum (P := Tryd.prog) (w := w) _ _ (by rw [z1]; omega)
  have a2 : ∀ w, (Op.stringOp .add (t1 ++ p.1) t2).run Tryd.prog w = .ok (.string (t1 ++ p.1 ++ t2)) w := fun w => run_string_add_sum (P := Tryd.prog) (w := w) _ _ (by rw [ByteArray.size_append, z1, z2]; omega)
  have hge : W0.heap.size ≤ W0.heap.size := Nat.le_refl _
  clear h1 h2 h3 h4 hm hmb q0 x0 ht1 ht2 hp
  go_enter Tryd.func34, Tryd.ntmps34
  go_wp2_with fail
  go_region_held3 (fun w' => w'.cell? ⟨w.heap.size, 0, none⟩ = some (.string p.1) ∧ w'.cell? ⟨w.heap.size, 1, none⟩ = some (.int .i64 (m : Int))) (go_keep)
    (first
      | (go_at_call 64; refine (HK.out _).mono ?_; rintro e w1 ⟨rfl, hb1⟩; have hb1' : Below W0.heap.size W0 w1 := (by first | exact Below.next HB2.out hb1 | exact undrewB hb1); have HB1 := hide hb1'; have m0 := (HX.out.below hb1').c0; have m1 := (HX.out.below hb1').c1; clear hb1 hb1')
      | (go_at_call 33; refine (HC.out _).mono ?_; rintro e w2 ⟨rfl, hb2⟩; have hb2' : Below W0.heap.size W0 w2 := (by first | exact Below.next HB1.out hb2 | exact undrewB hb2); have HB2 := hide hb2'; have n0 := (HX.out.below hb2').c0; have n1 := (HX.out.below hb2').c1; clear hb2 hb2'))
  all_goals
    go_wp2
    go_ret
    exact ⟨by rw [← HPA.out]; rfl, Below.next HQ.out (by first | exact HB2.out | exact HB1.out)⟩

end Go.Proofs.YtagldlchamlpdabDoor
