import Derived.Test.YtagldlchamlpdaaDoorBSome
namespace Go.Proofs.YtagldlchamlpdaaDoor
open Go.RowKit

set_option maxRecDepth 20000 in
set_option maxHeartbeats 1000000 in
theorem rbjoin_any (fa fb : Int) (key : ByteArray) (va vb : Value) (la lb : List Lk) (w : World) (hm : la.length + lb.length + 1 ≤ 5864062014805) (ha : LkR w va la) (hb : LkR w vb lb) :
    Calls Tryd.prog 21 #[.agg #[.int .i64 fa, va], .string key, .agg #[.int .i64 fb, vb]] w fun e w' => ∃ u, e = .returned (.agg #[.int .i64 fa, u]) ∧ LkO w' w.heap.size u (joinL la key fb lb) ∧ Below w.heap.size w w' := by
  obtain ⟨a1, c1, hv⟩ := ha.form
  subst hv
  obtain ⟨a2, c2, hv⟩ := hb.form
  subst hv
  obtain ⟨na, hna⟩ : ∃ n, n = la.length := ⟨_, rfl⟩
  obtain ⟨nb, hnb⟩ : ∃ n, n = lb.length := ⟨_, rfl⟩
  rw [← hna] at ha ⊢
  rw [← hnb] at hb ⊢
  have q1 := below_new w (.cells #[.int .i64 fa, .slice a1 na c1] 27)
  have x1 := RowAt.new w #[.int .i64 fa, .slice a1 na c1] 27
  have s1 : (w.alloc (.cells #[.int .i64 fa, .slice a1 na c1] 27)).heap.size = w.heap.size + 1 := by simp
  generalize hW1 : w.alloc (.cells #[.int .i64 fa, .slice a1 na c1] 27) = W1 at *
  have q2 := below_new W1 (.cells #[.int .i64 fb, .slice a2 nb c2] 27)
  have x2 := RowAt.new W1 #[.int .i64 fb, .slice a2 nb c2] 27
  have s2 : (W1.alloc (.cells #[.int .i64 fb, .slice a2 nb c2] 27)).heap.size = W1.heap.size + 1 := by simp
  generalize hW2 : W1.alloc (.cells #[.int .i64 fb, .slice a2 nb c2] 27) = W2 at *
  have q3 := below_new W2 (.cells #[.int .i64 0, .slice none 0 0] 27)
  have x3 := RowAt.new W2 #[.int .i64 0, .slice none 0 0] 27
  have s3 : (W2.alloc (.cells #[.int .i64 0, .slice none 0 0] 27)).heap.size = W2.heap.size + 1 := by simp
  generalize hW3 : W2.alloc (.cells #[.int .i64 0, .slice none 0 0] 27) = W3 at *
  have hq := Below.next q1 (Below.next q2 q3)
  have HS1 := hide (some_any _ la 0 na W3 (by omega) (Nat.zero_le _) (by omega) (ha.below hq))
  have y1 := (x1.below q2).below q3
  have y2 := x2.below q3
  have HX1 := hide y1
  have HX2 := hide y2
  have HX3 := hide x3
  have HQ := hide hq
  have HA := hide (hb.below hq)
  have HNA := hide hna
  have HNB := hide hnb
  have HM1 : Hid ((na + 1) * 24 ≤ 140737488355328) := by show _ ≤ _; omega
  have HM2 : Hid (lb.length ≤ 5864062014805) := by show _ ≤ _; omega
  have HM3 : Hid ((na + 1 + lb.length) * 24 ≤ 140737488355328) := by show _ ≤ _; omega
  have HM4 : Hid (nb ≤ lb.length) := by show _ ≤ _; omega
  have HSZ : Hid (W3.heap.size = w.heap.size + 3 ∧ W2.heap.size = w.heap.size + 2) := by show _ ∧ _; omega
  have p2 := y1.c1
  clear q1 q2 q3 x1 x2 x3 y1 y2 s1 s2 s3 ha hb hna hnb hq hm
  go_enter Tryd.func21, Tryd.ntmps21
  go_wp2_with fail
  refine HS1.out.mono ?_
  rintro e w1 ⟨u1, rfl, ho1, hb1⟩
  rw [Nat.sub_zero, List.drop_zero, HNA.out, List.take_length] at ho1
  have hx2 := HX2.out.below hb1
  obtain ⟨ua, uc, hu⟩ := ho1.form
  rw [← HNA.out] at hu
  subst hu
  obtain ⟨a3, cp3, w2, hrun, ho2, hb2, _⟩ := push_lks W3.heap.size _ _ (key, fb) 35 w1 W3 W3.heap.size na HNA.out.symm ho1 HM1.out hb1.size (Nat.le_refl _) hb1
  dsimp only at hrun
  have p3 := hx2.c0
  have HB2 := hide hb2
  have HO2 := hide ho2
  have p4 := (HX2.out.below HB2.out).c1
  clear ho1 hx2 hb1 HS1 p2 hb2 ho2
  go_wp2_with (first | (at_builtin; have h0 := hrun; clear hrun; refine wpList_append_run 25 rfl (.tmp 15) (.tmp 20) rfl rfl _ _ rfl rfl _ _ h0 ?_; clear h0))
  have HS2 := hide (some_any _ lb 0 nb w2 HM2.out (Nat.zero_le _) HM4.out (HA.out.below HB2.out))
  clear p3
  go_wp2_with fail
  refine HS2.out.mono ?_
  rintro e w3 ⟨u2, rfl, ho3, hb3⟩
  rw [Nat.sub_zero, List.drop_zero, HNB.out, List.take_length] at ho3
  obtain ⟨va, vc, hu⟩ := ho3.form
  subst hu
  have hlen : (la ++ [(key, fb)]).length = na + 1 := by rw [List.length_append, ← HNA.out]; rfl
  obtain ⟨a4, cp4, w4, hrun, ho4, hg4⟩ := append_lks W3.heap.size _ _ _ _ w3 (HO2.out.below hb3) ho3.at (by rw [hlen]; exact HM3.out) (Nat.le_trans HB2.out.size hb3.size)
  have hb4 : Below W3.heap.size W3 w4 := (Below.next HB2.out hb3).grown hg4 (Nat.le_trans HB2.out.size hb3.size) (fun k hk => (HO2.out.blk k hk).1)
  rw [hlen] at hrun ho4
  have hj : la ++ [(key, fb)] ++ lb = joinL la key fb lb := by simp [joinL]
  rw [hj] at ho4
  generalize hL : na + 1 + lb.length = L at hrun ho4
  have r1 := (HX1.out.below hb4).c0
  have hx3 := HX3.out.below hb4
  have r3 := hx3.c0
  have r4 := hx3.c1
  have z3 := hx3.free 0
  have z4 := hx3.free 1
  have HO := hide ho4
  have HB := hide hb4
  have HX := hide hx3
  clear hL hj hlen ho3 hb3 ho4 hb4 hx3 hg4 p4 HS2 HO2 HB2
  go_wp2_with (first | (at_builtin; have h0 := hrun; clear hrun; refine wpList_append_run 25 rfl (.tmp 28) (.tmp 29) rfl rfl _ _ rfl rfl _ _ h0 ?_; clear h0))
  refine bodyPost_ret (results_cell_row rfl _ _ W2.heap.size 27 _ (0, 0) _ rfl (HX.out.two _ _) Tryd.underlying27 rfl (by kernel_rfl)) rfl ⟨.slice a4 L cp4, rfl, ?_, ?_⟩
  · exact (HO.out.put2 (by have := HSZ.out; omega) _ _).mono HQ.out.size
  · exact below_two (Below.next HQ.out HB.out) (by have := HSZ.out; omega)

end Go.Proofs.YtagldlchamlpdaaDoor
