import Derived.Test.YtagldlchamlpdaaDoorBEditF
import Derived.Test.YtagldlchamlpdaaDoorBSome
namespace Go.Proofs.YtagldlchamlpdaaDoor
open Go.RowKit

set_option maxRecDepth 20000 in
set_option maxHeartbeats 2000000 in
theorem rbrem_any (f i : Int) (v : Value) (l : List Lk) (w : World) (hm : l.length ≤ 5864062014800) (hr : LkR w v l) :
    Calls Tryd.prog 28 #[.agg #[.int .i64 f, v], .int .i64 i] w fun e w' =>
      ((hasLk l i = true ∧ ∃ u, e = .returned (.tuple #[.agg #[.int .i64 f, u], .int .i64 0]) ∧ LkO w' w.heap.size u (remL l i.toNat)) ∨
       (hasLk l i = false ∧ e = .returned (.tuple #[.agg #[.int .i64 0, .slice none 0 0], .int .i64 1]))) ∧ Below w.heap.size w w' := by
  obtain ⟨a, cap, hv⟩ := hr.form
  subst hv
  obtain ⟨n, hn⟩ : ∃ n, n = l.length := ⟨_, rfl⟩
  rw [← hn] at hm hr ⊢
  have q0 := below_new w (.cells #[.int .i64 f, .slice a n cap] 27)
  have x0 := RowAt.new w #[.int .i64 f, .slice a n cap] 27
  have s0 : (w.alloc (.cells #[.int .i64 f, .slice a n cap] 27)).heap.size = w.heap.size + 1 := by simp
  generalize hW0 : w.alloc (.cells #[.int .i64 f, .slice a n cap] 27) = W0 at *
  have q1 := below_new W0 (.cells #[.int .i64 0, .slice none 0 0] 27)
  have x1 := RowAt.new W0 #[.int .i64 0, .slice none 0 0] 27
  have s1 : (W0.alloc (.cells #[.int .i64 0, .slice none 0 0] 27)).heap.size = W0.heap.size + 1 := by simp
  generalize hW1 : W0.alloc (.cells #[.int .i64 0, .slice none 0 0] 27) = W1 at *
  have HX0 := hide (x0.below q1)
  have HX1 := hide x1
  have HQ := hide (Below.next q0 q1)
  have HR := hide (hr.below (Below.next q0 q1))
  have HS : Hid (W0.heap.size = w.heap.size + 1 ∧ W1.heap.size = w.heap.size + 2) := ⟨s0, by rw [s1, s0]⟩
  have b1 : ¬ w.heap.size = W0.heap.size := by omega
  have b2 : ¬ W0.heap.size = w.heap.size := by omega
  have HN := hide hn
  have p0 := HX0.out.c0
  have p1 := HX0.out.c1
  clear q0 x0 q1 x1 hr hn s0 s1
  by_cases hg : hasLk l i = true
  · have HG := hide hg
    simp only [hasLk, Bool.and_eq_true, decide_eq_true_eq] at hg
    obtain ⟨k, hk⟩ : ∃ k : Nat, i = (k : Int) := ⟨i.toNat, by omega⟩
    subst hk
    have hkl : k < l.length := by omega
    have HK := hide hkl
    have g1 : ¬ (k : Int) < 0 := by omega
    have g2 : ¬ (n : Int) ≤ (k : Int) := by have := HN.out; omega
    have HSA := hide (some_any (.slice a n cap) l 0 k W1 (by have := HN.out; omega) (Nat.zero_le _) (by omega) HR.out)
    clear hkl hg
    go_enter Tryd.func28, Tryd.ntmps28
    go_wp2_with fail
    refine HSA.out.mono ?_
    rintro e w1 ⟨u1, rfl, ho1, hb1⟩
    have hl1 : ((l.drop 0).take (k - 0)).length = k := by rw [List.drop_zero, Nat.sub_zero, List.length_take]; have := HK.out; omega
    obtain ⟨a1, c1, hu1⟩ := ho1.form
    rw [hl1] at hu1
    subst hu1
    have hw1 : IntKind.i64.wrap ((k : Int) + 1) = ((k + 1 : Nat) : Int) := by have := HK.out; have := HN.out; rw [IntKind.wrap_i64]; omega
    have HSB := hide (some_any (.slice a n cap) l (k + 1) l.length w1 (by have := HN.out; omega) HK.out (Nat.le_refl _) (HR.out.below hb1))
    rw [← HN.out] at HSB
    have HO1 := hide ho1
    have HB1 := hide hb1
    have y0 := (HX0.out.below hb1).c0
    have y1 := (HX0.out.below hb1).c1
    clear ho1 hb1 HSA p0 p1
    go_wp2_with fail
    refine HSB.out.mono ?_
    rintro e w2 ⟨u2, rfl, ho2, hb2⟩
    have hl2 : ((l.drop (k + 1)).take (n - (k + 1))).length = n - (k + 1) := by rw [List.length_take, List.length_drop]; have := HK.out; have := HN.out; omega
    obtain ⟨a2, c2, hu2⟩ := ho2.form
    rw [hl2] at hu2
    subst hu2
    have hs : W1.heap.size ≤ w2.heap.size := Nat.le_trans HB1.out.size hb2.size
    obtain ⟨a3, c3, w3, hrun, ho3, hgr⟩ := append_lks W1.heap.size _ _ _ _ w2 (HO1.out.below hb2) ho2.at (by rw [hl1, hl2]; have := HK.out; have := HN.out; omega) hs
    have hbw : Below W1.heap.size W1 w3 := (Below.next HB1.out hb2).grown hgr hs (fun j hj => (HO1.out.blk j hj).1)
    rw [hl1, hl2] at hrun ho3
    have hfin : (l.drop 0).take (k - 0) ++ (l.drop (k + 1)).take (n - (k + 1)) = remL l k := by
      have h2 : (l.drop (k + 1)).take (n - (k + 1)) = l.drop (k + 1) := List.take_of_length_le (by rw [List.length_drop]; have := HN.out; omega)
      rw [h2, List.drop_zero, Nat.sub_zero]
      rfl
    rw [hfin] at ho3
    obtain ⟨m, hm'⟩ : ∃ m, m = k + (n - (k + 1)) := ⟨_, rfl⟩
    rw [← hm'] at hrun ho3
    have HO := hide ho3
    have HBw := hide hbw
    have x0 := HX0.out.below hbw
    have x1 := HX1.out.below hbw
    have z0 := x0.c0
    have z1 := x0.c1
    have z3 := x1.c0
    have z4 := x1.c1
    have z5 := x1.free 0
    have z6 := x1.free 1
    have HX1' := hide x1
    clear ho2 hb2 hs hbw ho3 hfin hl1 hl2 hm' hgr x0 x1 HSB y0 y1
    go_wp2_with (first | (at_builtin; refine wpList_append_run 25 rfl (.tmp 30) (.tmp 31) rfl rfl _ _ rfl rfl _ _ hrun ?_))
    clear hrun
    have ho2 := (HO.out.put2 (g := W0.heap.size) (by have := HS.out; omega) (.int .i64 f) (.slice a3 m c3)).mono (b2 := w.heap.size) (by have := HS.out; omega)
    have hbw := below_two (b := W0.heap.size) (x := .int .i64 f) (y := .slice a3 m c3) (HQ.out.trans (HBw.out.mono (by have := HS.out; omega))) (by have := HS.out; omega)
    exact bodyPost_ret (results_row_tmp rfl _ _ W0.heap.size 27 _ (0, 0) _ rfl (HX1'.out.two _ _) Tryd.underlying27 rfl (by kernel_rfl)) rfl ⟨.inl ⟨HG.out, _, rfl, ho2⟩, hbw⟩
  · rw [Bool.not_eq_true] at hg
    have HG := hide hg
    have hg2 : i < 0 ∨ (n : Int) ≤ i := by
      have := HN.out
      simp only [hasLk, Bool.and_eq_false_iff, decide_eq_false_iff_not] at hg
      omega
    have z3 := HX1.out.c0
    have z4 := HX1.out.c1
    have z5 := HX1.out.free 0
    have z6 := HX1.out.free 1
    clear hg
    by_cases g0 : i < 0
    · clear hg2
      go_enter Tryd.func28, Tryd.ntmps28
      go_wp2_with fail
      exact bodyPost_ret (results_row_tmp rfl _ _ W0.heap.size 27 _ (0, 0) _ rfl (HX1.out.two _ _) Tryd.underlying27 rfl (by kernel_rfl)) rfl ⟨.inr ⟨HG.out, rfl⟩, below_two HQ.out (by have := HS.out; omega)⟩
    · have g2 : (n : Int) ≤ i := by omega
      clear hg2
      go_enter Tryd.func28, Tryd.ntmps28
      go_wp2_with fail
      exact bodyPost_ret (results_row_tmp rfl _ _ W0.heap.size 27 _ (0, 0) _ rfl (HX1.out.two _ _) Tryd.underlying27 rfl (by kernel_rfl)) rfl ⟨.inr ⟨HG.out, rfl⟩, below_two HQ.out (by have := HS.out; omega)⟩

set_option maxRecDepth 20000 in
set_option maxHeartbeats 2000000 in
theorem rbins_any (f i : Int) (v : Value) (l : List Lk) (key : ByteArray) (c : Int) (w : World) (hm : l.length ≤ 5864062014800) (hr : LkR w v l) :
    Calls Tryd.prog 27 #[.agg #[.int .i64 f, v], .int .i64 i, .agg #[.string key, .int .i64 c]] w fun e w' =>
      ((hasC l i = true ∧ ∃ u, e = .returned (.tuple #[.agg #[.int .i64 f, u], .int .i64 0]) ∧ LkO w' w.heap.size u (insL l i.toNat (key, c))) ∨
       (hasC l i = false ∧ e = .returned (.tuple #[.agg #[.int .i64 0, .slice none 0 0], .int .i64 1]))) ∧ Below w.heap.size w w' := by
  obtain ⟨a, cap, hv⟩ := hr.form
  subst hv
  obtain ⟨n, hn⟩ : ∃ n, n = l.length := ⟨_, rfl⟩
  rw [← hn] at hm hr ⊢
  have q0 := below_new w (.cells #[.int .i64 f, .slice a n cap] 27)
  have x0 := RowAt.new w #[.int .i64 f, .slice a n cap] 27
  have s0 : (w.alloc (.cells #[.int .i64 f, .slice a n cap] 27)).heap.size = w.heap.size + 1 := by simp
  generalize hWa : w.alloc (.cells #[.int .i64 f, .slice a n cap] 27) = Wa at *
  have qa := below_new Wa (.cells #[.string key, .int .i64 c] 35)
  have xa := RowAt.new Wa #[.string key, .int .i64 c] 35
  have sa : (Wa.alloc (.cells #[.string key, .int .i64 c] 35)).heap.size = Wa.heap.size + 1 := by simp
  generalize hW0 : Wa.alloc (.cells #[.string key, .int .i64 c] 35) = W0 at *
  have q1 := below_new W0 (.cells #[.int .i64 0, .slice none 0 0] 27)
  have x1 := RowAt.new W0 #[.int .i64 0, .slice none 0 0] 27
  have s1 : (W0.alloc (.cells #[.int .i64 0, .slice none 0 0] 27)).heap.size = W0.heap.size + 1 := by simp
  generalize hW1 : W0.alloc (.cells #[.int .i64 0, .slice none 0 0] 27) = W1 at *
  have HX0 := hide (x0.below (Below.next qa q1))
  have HXA := hide (xa.below q1)
  have HX1 := hide x1
  have hq := Below.next (Below.next q0 qa) q1
  have HQ := hide hq
  have HR := hide (hr.below hq)
  have HS : Hid (Wa.heap.size = w.heap.size + 1 ∧ W0.heap.size = w.heap.size + 2 ∧ W1.heap.size = w.heap.size + 3) := ⟨s0, by rw [sa, s0], by rw [s1, sa, s0]⟩
  have b1 : ¬ w.heap.size = W0.heap.size := by omega
  have b2 : ¬ W0.heap.size = w.heap.size := by omega
  have HN := hide hn
  have p0 := HX0.out.c0
  have p1 := HX0.out.c1
  clear q0 x0 qa xa q1 x1 hr hn s0 s1 sa hq
  by_cases hg : hasC l i = true
  · have HG := hide hg
    simp only [hasC, Bool.and_eq_true, decide_eq_true_eq] at hg
    obtain ⟨k, hk⟩ : ∃ k : Nat, i = (k : Int) := ⟨i.toNat, by omega⟩
    subst hk
    have hkl : k ≤ l.length := by omega
    have HK := hide hkl
    have g1 : ¬ (k : Int) < 0 := by omega
    have g2 : ¬ (n : Int) < (k : Int) := by have := HN.out; omega
    have HSA := hide (some_any (.slice a n cap) l 0 k W1 (by have := HN.out; omega) (Nat.zero_le _) (by omega) HR.out)
    clear hkl hg
    go_enter Tryd.func27, Tryd.ntmps27
    go_wp2_with fail
    refine HSA.out.mono ?_
    rintro e w1 ⟨u1, rfl, ho1, hb1⟩
    have hl1 : ((l.drop 0).take (k - 0)).length = k := by rw [List.drop_zero, Nat.sub_zero, List.length_take]; have := HK.out; omega
    obtain ⟨a1, c1, hu1⟩ := ho1.form
    rw [hl1] at hu1
    subst hu1
    obtain ⟨a4, c4, w4, hrun4, ho4, hb4, hs4⟩ := push_lks W1.heap.size _ _ (key, c) 35 w1 W1 W1.heap.size k hl1 ho1 (by have := HK.out; have := HN.out; omega) hb1.size (Nat.le_refl _) hb1
    have HSB := hide (some_any (.slice a n cap) l k l.length w4 (by have := HN.out; omega) HK.out (Nat.le_refl _) (HR.out.below hb4))
    rw [← HN.out] at HSB
    have HO4 := hide ho4
    have HB4 := hide hb4
    have y2 := (HXA.out.below hb1).c0
    have y3 := (HXA.out.below hb1).c1
    have y0 := (HX0.out.below hb4).c0
    have y1 := (HX0.out.below hb4).c1
    clear ho1 hb1 HSA p0 p1 ho4 hb4 hs4
    go_wp2_with (first | (at_builtin; refine wpList_append_run 25 rfl (.tmp 24) (.tmp 26) rfl rfl _ _ rfl rfl _ _ hrun4 ?_))
    clear hrun4
    refine HSB.out.mono ?_
    rintro e w2 ⟨u2, rfl, ho2, hb2⟩
    have hl2 : ((l.drop k).take (n - k)).length = n - k := by rw [List.length_take, List.length_drop]; have := HK.out; have := HN.out; omega
    obtain ⟨a2, c2, hu2⟩ := ho2.form
    rw [hl2] at hu2
    subst hu2
    have hl4 : ((l.drop 0).take (k - 0) ++ [(key, c)]).length = k + 1 := by rw [List.length_append, hl1]; rfl
    have hs : W1.heap.size ≤ w2.heap.size := Nat.le_trans HB4.out.size hb2.size
    obtain ⟨a3, c3, w3, hrun, ho3, hgr⟩ := append_lks W1.heap.size _ _ _ _ w2 (HO4.out.below hb2) ho2.at (by rw [hl4, hl2]; have := HK.out; have := HN.out; omega) hs
    have hbw : Below W1.heap.size W1 w3 := (Below.next HB4.out hb2).grown hgr hs (fun j hj => (HO4.out.blk j hj).1)
    rw [hl4, hl2] at hrun ho3
    have hfin : (l.drop 0).take (k - 0) ++ [(key, c)] ++ (l.drop k).take (n - k) = insL l k (key, c) := by
      have h2 : (l.drop k).take (n - k) = l.drop k := List.take_of_length_le (by rw [List.length_drop]; have := HN.out; omega)
      rw [h2, List.drop_zero, Nat.sub_zero, List.append_assoc]
      rfl
    rw [hfin] at ho3
    obtain ⟨m, hm'⟩ : ∃ m, m = k + 1 + (n - k) := ⟨_, rfl⟩
    rw [← hm'] at hrun ho3
    have HO := hide ho3
    have HBw := hide hbw
    have x0 := HX0.out.below hbw
    have x1 := HX1.out.below hbw
    have z0 := x0.c0
    have z1 := x0.c1
    have z3 := x1.c0
    have z4 := x1.c1
    have z5 := x1.free 0
    have z6 := x1.free 1
    have HX1' := hide x1
    clear ho2 hb2 hs hbw ho3 hfin hl1 hl2 hl4 hm' hgr x0 x1 HSB y0 y1 y2 y3
    go_wp2_with (first | (at_builtin; refine wpList_append_run 25 rfl (.tmp 35) (.tmp 36) rfl rfl _ _ rfl rfl _ _ hrun ?_))
    clear hrun
    have ho2 := (HO.out.put2 (g := W0.heap.size) (by have := HS.out; omega) (.int .i64 f) (.slice a3 m c3)).mono (b2 := w.heap.size) (by have := HS.out; omega)
    have hbw := below_two (b := W0.heap.size) (x := .int .i64 f) (y := .slice a3 m c3) (HQ.out.trans (HBw.out.mono (by have := HS.out; omega))) (by have := HS.out; omega)
    exact bodyPost_ret (results_row_tmp rfl _ _ W0.heap.size 27 _ (0, 0) _ rfl (HX1'.out.two _ _) Tryd.underlying27 rfl (by kernel_rfl)) rfl ⟨.inl ⟨HG.out, _, rfl, ho2⟩, hbw⟩
  · rw [Bool.not_eq_true] at hg
    have HG := hide hg
    have hg2 : i < 0 ∨ (n : Int) < i := by
      have := HN.out
      simp only [hasC, Bool.and_eq_false_iff, decide_eq_false_iff_not] at hg
      omega
    have z3 := HX1.out.c0
    have z4 := HX1.out.c1
    have z5 := HX1.out.free 0
    have z6 := HX1.out.free 1
    clear hg
    by_cases g0 : i < 0
    · clear hg2
      go_enter Tryd.func27, Tryd.ntmps27
      go_wp2_with fail
      exact bodyPost_ret (results_row_tmp rfl _ _ W0.heap.size 27 _ (0, 0) _ rfl (HX1.out.two _ _) Tryd.underlying27 rfl (by kernel_rfl)) rfl ⟨.inr ⟨HG.out, rfl⟩, below_two HQ.out (by have := HS.out; omega)⟩
    · have g2 : (n : Int) < i := by omega
      clear hg2
      go_enter Tryd.func27, Tryd.ntmps27
      go_wp2_with fail
      exact bodyPost_ret (results_row_tmp rfl _ _ W0.heap.size 27 _ (0, 0) _ rfl (HX1.out.two _ _) Tryd.underlying27 rfl (by kernel_rfl)) rfl ⟨.inr ⟨HG.out, rfl⟩, below_two HQ.out (by have := HS.out; omega)⟩

end Go.Proofs.YtagldlchamlpdaaDoor
