import Derived.Test.YtagldlchamlpdabDoorKConcat
import Derived.Test.YtagldlchamlpdabDoorBas2
import Derived.Deep.RegionHeld3
namespace Go.Proofs.YtagldlchamlpdabDoor
open Go.RowKit

set_option maxRecDepth 20000 in
set_option maxHeartbeats 1000000 in
theorem bjoin_any (fa fb : Int) (key : ByteArray) (va vb : Value) (la lb : List Lk) (w : World) (hm : la.length + lb.length + 1 ≤ 5864062014805) (ha : LkR w va la) (hb : LkR w vb lb) :
    Calls Tryd.prog 18 #[.agg #[.int .i64 fa, va], .string key, .agg #[.int .i64 fb, vb]] w fun e w' => ∃ u, e = .returned (.agg #[.int .i64 fa, u]) ∧ LkO w' w.heap.size u (joinL la key fb lb) ∧ Below w.heap.size w w' := by
  obtain ⟨a1, c1, hv⟩ := ha.form
  subst hv
  obtain ⟨a2, c2, hv⟩ := hb.form
  subst hv
  obtain ⟨na, hna⟩ : ∃ n, n = la.length := ⟨_, rfl⟩
  obtain ⟨nb, hnb⟩ : ∃ n, n = lb.length := ⟨_, rfl⟩
  rw [← hna] at ha ⊢
  rw [← hnb] at hb ⊢
  have q1 := below_new w (.cells #[.int .i64 fa, .slice a1 na c1] 30)
  have x1 := RowAt.new w #[.int .i64 fa, .slice a1 na c1] 30
  have s1 : (w.alloc (.cells #[.int .i64 fa, .slice a1 na c1] 30)).heap.size = w.heap.size + 1 := by simp
  generalize hW1 : w.alloc (.cells #[.int .i64 fa, .slice a1 na c1] 30) = W1 at *
  have q2 := below_new W1 (.cells #[.int .i64 fb, .slice a2 nb c2] 30)
  have x2 := RowAt.new W1 #[.int .i64 fb, .slice a2 nb c2] 30
  have s2 : (W1.alloc (.cells #[.int .i64 fb, .slice a2 nb c2] 30)).heap.size = W1.heap.size + 1 := by simp
  generalize hW2 : W1.alloc (.cells #[.int .i64 fb, .slice a2 nb c2] 30) = W2 at *
  have q3 := below_new W2 (.cells #[.int .i64 0, .slice none 0 0] 30)
  have x3 := RowAt.new W2 #[.int .i64 0, .slice none 0 0] 30
  have s3 : (W2.alloc (.cells #[.int .i64 0, .slice none 0 0] 30)).heap.size = W2.heap.size + 1 := by simp
  generalize hW3 : W2.alloc (.cells #[.int .i64 0, .slice none 0 0] 30) = W3 at *
  have q4 := below_new W3 (.cells #[.string key, .int .i64 fb] 54)
  have x4 := lkR_lit W3 (key, fb) 54
  have s4 : (W3.alloc (.cells #[.string key, .int .i64 fb] 54)).heap.size = W3.heap.size + 1 := by simp
  generalize hW4 : W3.alloc (.cells #[.string key, .int .i64 fb] 54) = W4 at *
  have q5 := below_new W4 (.cells #[.slice a1 na c1, .slice (some ⟨W3.heap.size, 0, none⟩) 1 1, .slice a2 nb c2] 28)
  have x5 := boxed_new W4 #[.slice a1 na c1, .slice (some ⟨W3.heap.size, 0, none⟩) 1 1, .slice a2 nb c2] 28
  have s5 : (W4.alloc (.cells #[.slice a1 na c1, .slice (some ⟨W3.heap.size, 0, none⟩) 1 1, .slice a2 nb c2] 28)).heap.size = W4.heap.size + 1 := by simp
  generalize hW5 : W4.alloc (.cells #[.slice a1 na c1, .slice (some ⟨W3.heap.size, 0, none⟩) 1 1, .slice a2 nb c2] 28) = W5 at *
  have y1 := ((((x1.below q2).below q3).below q4))
  have y2 := ((x2.below q3).below q4)
  have y3 := (x3.below q4)
  have HCC : Hid (∀ W, Below W5.heap.size W5 W → Calls Tryd.prog 44 #[.slice (some ⟨W4.heap.size, 0, none⟩) 3 3] W fun e w' => ∃ ga gn gc, e = .returned (.slice ga gn gc) ∧ LkO w' W5.heap.size (.slice ga gn gc) (joinL la key fb lb) ∧ Below W5.heap.size W5 w') := fun W hW => by
    refine (kconcat_any W4.heap.size 3 3 [.slice a1 na c1, .slice (some ⟨W3.heap.size, 0, none⟩) 1 1, .slice a2 nb c2] [la, [(key, fb)], lb] W rfl (by decide) rfl ?_ (fun j h => (x5.below hW).2 j h) ?_).mono ?_
    · simp; omega
    · intro j h h'
      have hj : j < 3 := h
      match j, hj with
      | 0, _ => exact ((((((ha.below q1).below q2).below q3).below q4).below q5).below hW)
      | 1, _ => exact (x4.below q5).below hW
      | 2, _ => exact ((((((hb.below q1).below q2).below q3).below q4).below q5).below hW)
    · rintro e w' ⟨u, rfl, ho, hb⟩
      obtain ⟨ga, gc, hu⟩ := ho.form
      subst hu
      refine ⟨ga, _, gc, rfl, ?_, Below.next hW hb⟩
      have he : [la, [(key, fb)], lb].flatten = joinL la key fb lb := by simp [joinL]
      rw [he] at ho ⊢
      exact ho.mono hW.size
  have HQ := hide (Below.next q1 (Below.next q2 (Below.next q3 (Below.next q4 q5))))
  have HQ4 := hide (Below.next q1 (Below.next q2 (Below.next q3 q4)))
  have HY3 := hide (y3.below q5)
  have HS : Hid (W5.heap.size = w.heap.size + 5 ∧ W2.heap.size = w.heap.size + 2) := by show _ ∧ _; omega
  have HQ5 := hide q5
  have HY1 := hide y1
  have HY2 := hide y2
  have p1 : W4.cell? ⟨w.heap.size, 0, none⟩ = some (.int .i64 fa) := y1.c0
  have p2 : W4.cell? ⟨w.heap.size, 1, none⟩ = some (.slice a1 na c1) := y1.c1
  have p3 : W4.cell? ⟨W1.heap.size, 0, none⟩ = some (.int .i64 fb) := y2.c0
  have p4 : W4.cell? ⟨W1.heap.size, 1, none⟩ = some (.slice a2 nb c2) := y2.c1
  have p5 : W3.cell? ⟨W1.heap.size, 0, none⟩ = some (.int .i64 fb) := (x2.below q3).c0
  have r1 : W5.cell? ⟨w.heap.size, 0, none⟩ = some (.int .i64 fa) := (y1.below q5).c0
  have r2 : W5.cell? ⟨w.heap.size, 1, none⟩ = some (.slice a1 na c1) := (y1.below q5).c1
  have r3 : W5.cell? ⟨W1.heap.size, 1, none⟩ = some (.slice a2 nb c2) := (y2.below q5).c1
  have b1 : ¬ w.heap.size = W2.heap.size := by omega
  have b2 : ¬ W1.heap.size = W2.heap.size := by omega
  have b3 : ¬ W2.heap.size = w.heap.size := by omega
  have b4 : ¬ W2.heap.size = W1.heap.size := by omega
  clear q1 q2 q3 q4 q5 x1 x2 x3 x4 x5 y1 y2 y3 s1 s2 s3 s4 s5 ha hb hm hna hnb
  go_enter Tryd.func18, Tryd.ntmps18
  go_wp2_with fail
  go_region_held3 (fun w' => w'.cell? ⟨w.heap.size, 0, none⟩ = some (.int .i64 fa) ∧ w'.cell? ⟨w.heap.size, 1, none⟩ = some (.slice a1 na c1) ∧ w'.cell? ⟨W1.heap.size, 1, none⟩ = some (.slice a2 nb c2)) (go_keep)
    (first
      | (go_at_call 44; refine (HCC.out _ ?_).mono ?_; (exact (Below.refl _ _).drew); rintro e w3 ⟨ga, gn, gc, rfl, ho, hb⟩; have HO := hide ho; have HB := hide hb; have k1 : w3.cell? ⟨w.heap.size, 0, none⟩ = some (.int .i64 fa) := ((HY1.out.below HQ5.out).below hb).c0; have k2 : w3.cell? ⟨w.heap.size, 1, none⟩ = some (.slice a1 na c1) := ((HY1.out.below HQ5.out).below hb).c1; have k3 : w3.cell? ⟨W1.heap.size, 1, none⟩ = some (.slice a2 nb c2) := ((HY2.out.below HQ5.out).below hb).c1; have k4 : w3.cell? ⟨W2.heap.size, 0, none⟩ = some (.int .i64 0) := (HY3.out.below hb).c0; have k5 : w3.cell? ⟨W2.heap.size, 1, none⟩ = some (.slice none 0 0) := (HY3.out.below hb).c1; have z4 := (HY3.out.below hb).free 0; have z5 := (HY3.out.below hb).free 1; clear ho hb))
  all_goals
    clear HCC r1 r2 r3 p1 p2 p3 p4 p5 k1 k2 k3 k4 k5 z4 z5 b1 b2 b3 b4
    go_wp2_with fail
    refine bodyPost_ret (results_cell_row rfl _ _ W2.heap.size 30 _ (0, 0) _ rfl ((HY3.out.below HB.out).two _ _) Tryd.underlying30 rfl (by kernel_rfl)) rfl ⟨.slice ga gn gc, rfl, ?_, ?_⟩
    · exact (HO.out.put2 (by have := HS.out; omega) _ _).mono HQ.out.size
    · exact below_two (Below.next HQ.out HB.out) (by have := HS.out; omega)

end Go.Proofs.YtagldlchamlpdabDoor
