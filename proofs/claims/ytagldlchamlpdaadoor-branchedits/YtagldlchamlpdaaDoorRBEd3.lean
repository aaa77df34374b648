import Derived.Test.YtagldlchamlpdaaDoorBPutF
import Derived.Test.YtagldlchamlpdaaDoorBSome
namespace Go.Proofs.YtagldlchamlpdaaDoor
open Go.RowKit

set_option maxRecDepth 20000 in
set_option maxHeartbeats 2000000 in
theorem rbput_any (f i c : Int) (v : Value) (l : List Lk) (w : World) (hm : l.length ≤ 5864062014800) (hr : LkR w v l) :
    Calls Tryd.prog 26 #[.agg #[.int .i64 f, v], .int .i64 i, .int .i64 c] w fun e w' =>
      ((hasC l i = true ∧ ∃ u, e = .returned (.tuple #[.agg #[.int .i64 (putF f i.toNat c), u], .int .i64 0]) ∧ LkO w' w.heap.size u (putL l i.toNat c)) ∨
       (hasC l i = false ∧ e = .returned (.tuple #[.agg #[.int .i64 0, .slice none 0 0], .int .i64 1]))) ∧ Below w.heap.size w w' := by
  obtain ⟨a, cap, hv⟩ := hr.form
  subst hv
  obtain ⟨n, hn⟩ : ∃ n, n = l.length := ⟨_, rfl⟩
  rw [← hn] at hm hr ⊢
  have q0 := below_new w (.cells #[.int .i64 f, .slice a n cap] 27)
  have x0 := RowAt.new w #[.int .i64 f, .slice a n cap] 27
  have s0 : (w.alloc (.cells #[.int .i64 f, .slice a n cap] 27)).heap.size = w.heap.size + 1 := by simp
  generalize hW0 : w.alloc (.cells #[.int .i64 f, .slice a n cap] 27) = W0 at *
  have q1 := below_new W0 (.cells #[.int .i64 0, .slice none 0 0] 27)
  have x1 := RowAt.new W0 #[.int .i64 0, .slice none 0 0] 27
  have s1 : (W0.alloc (.cells #[.int .i64 0, .slice none 0 0] 27)).heap.size = W0.heap.size + 1 := by simp
  generalize hW1 : W0.alloc (.cells #[.int .i64 0, .slice none 0 0] 27) = W1 at *
  have HX0 := hide (x0.below q1)
  have HX1 := hide x1
  have HQ := hide (Below.next q0 q1)
  have HR := hide (hr.below (Below.next q0 q1))
  have HS : Hid (W0.heap.size = w.heap.size + 1 ∧ W1.heap.size = w.heap.size + 2) := ⟨s0, by rw [s1, s0]⟩
  have HN := hide hn
  have p0 := HX0.out.c0
  have p1 := HX0.out.c1
  clear q0 x0 q1 x1 hr hn s0 s1
  by_cases hg : hasC l i = true
  · have HG := hide hg
    simp only [hasC, Bool.and_eq_true, decide_eq_true_eq] at hg
    have g1 : ¬ i < 0 := by omega
    have g2 : ¬ (n : Int) < i := by have := HN.out; omega
    have q5 := below_new W1 (.cells #[.int .i64 0, .slice none 0 0] 27)
    have x5 := RowAt.new W1 #[.int .i64 0, .slice none 0 0] 27
    have s5 : (W1.alloc (.cells #[.int .i64 0, .slice none 0 0] 27)).heap.size = W1.heap.size + 1 := by simp
    generalize hW5 : W1.alloc (.cells #[.int .i64 0, .slice none 0 0] 27) = W5 at *
    have HX5 := hide x5
    have HQ5 := hide q5
    have HS5 := hide s5
    have z0 := (HX0.out.below q5).c0
    have z1 := (HX0.out.below q5).c1
    have b5 : ¬ w.heap.size = W1.heap.size := by have := HS.out; omega
    have b6 : ¬ W1.heap.size = w.heap.size := by omega
    have HSM : Hid (∀ W, Below W1.heap.size W1 W → Calls Tryd.prog 46 #[.slice a n cap, .int .i64 0, .int .i64 (n : Int)] W fun e w' => ∃ ua uc, e = .returned (.slice ua n uc) ∧ LkO w' W.heap.size (.slice ua n uc) l ∧ Below W.heap.size W w') := fun W h => by
      have hs := some_any (.slice a n cap) l 0 l.length W (by have := HN.out; omega) (Nat.zero_le _) (Nat.le_refl _) (HR.out.below h)
      rw [← HN.out] at hs
      refine hs.mono ?_
      rintro e w' ⟨u, rfl, ho, hb⟩
      have he : (l.drop 0).take (n - 0) = l := by rw [List.drop_zero, Nat.sub_zero, HN.out, List.take_length]
      rw [he] at ho
      obtain ⟨ua, uc, hu⟩ := ho.form
      rw [← HN.out] at hu
      subst hu
      exact ⟨ua, uc, rfl, ho, hb⟩
    clear q5 x5 s5
    go_enter Tryd.func26, Tryd.ntmps26
    go_wp2_with fail
    go_region_held3 (fun w' => w'.cell? ⟨w.heap.size, 0, none⟩ = some (.int .i64 f) ∧ w'.cell? ⟨w.heap.size, 1, none⟩ = some (.slice a n cap)) (go_keep)
      (first
        | (go_at_call 46; refine (HSM.out _ ?_).mono ?_; (first | exact (Below.refl _ _).drew | exact HQ5.out.drew); rintro e w5 ⟨ua, uc, rfl, ho, hb⟩; have HO5 := hide ho; have HB5 := hide hb; have m0 : w5.cell? ⟨w.heap.size, 0, none⟩ = some (.int .i64 f) := (by first | exact ((HX0.out.below HQ5.out).drew.below hb).c0 | exact (HX0.out.drew.below hb).c0); have m1 : w5.cell? ⟨w.heap.size, 1, none⟩ = some (.slice a n cap) := (by first | exact ((HX0.out.below HQ5.out).drew.below hb).c1 | exact (HX0.out.drew.below hb).c1); try (have m2 := (HX5.out.drew.below hb).c0; have m3 := (HX5.out.drew.below hb).c1; have m4 := (HX5.out.drew.below hb).free 0; have m5 := (HX5.out.drew.below hb).free 1); have m6 := World.new_ne w5 _ m0; clear ho hb))
    all_goals first
      | (have hx := RowAt.new w5 #[.int .i64 f, .slice ua n uc] 27
         have hq := below_new w5 (.cells #[.int .i64 f, .slice ua n uc] 27)
         have hb7 : Below W1.heap.size W1 (w5.alloc (.cells #[.int .i64 f, .slice ua n uc] 27)) := Below.next (undrewB HB5.out) hq
         have ho7 : LkO (w5.alloc (.cells #[.int .i64 f, .slice ua n uc] 27)) W1.heap.size (.slice ua n uc) l := HO5.out.below hq
         have hne7 : (Value.slice ua n uc).ownBlock ≠ some w5.heap.size := fun h => by have := (HO5.out.blk _ h).2; omega
         have hle7 : W1.heap.size ≤ w5.heap.size := (undrewB HB5.out).size
         generalize w5.alloc (.cells #[.int .i64 f, .slice ua n uc] 27) = W7 at *
         obtain ⟨B8, hB9⟩ : ∃ B, B = w5.heap.size := ⟨_, rfl⟩
         rw [← hB9] at hx hne7 hle7 ⊢
         clear hq)
      | (have hx := ((HX5.out.drew.below HB5.out).two (.int .i64 f) (.slice ua n uc))
         have hb7 : Below W1.heap.size W1 ((w5.setCell ⟨W1.heap.size, 0, none⟩ (.int .i64 f)).setCell ⟨W1.heap.size, 1, none⟩ (.slice ua n uc)) := below_two (Below.next HQ5.out (undrewB HB5.out)) (Nat.le_refl _)
         have hne7 : (Value.slice ua n uc).ownBlock ≠ some W1.heap.size := fun h => by have h1 : W5.heap.size ≤ W1.heap.size := (HO5.out.blk _ h).1; have := HS5.out; omega
         have ho7 : LkO ((w5.setCell ⟨W1.heap.size, 0, none⟩ (.int .i64 f)).setCell ⟨W1.heap.size, 1, none⟩ (.slice ua n uc)) W1.heap.size (.slice ua n uc) l := (HO5.out.put2 (g := W1.heap.size) (by have := HS5.out; show W1.heap.size < W5.heap.size; omega) (.int .i64 f) (.slice ua n uc)).mono (by have := HS5.out; show W1.heap.size ≤ W5.heap.size; omega)
         have hle7 : W1.heap.size ≤ W1.heap.size := Nat.le_refl _
         generalize (w5.setCell ⟨W1.heap.size, 0, none⟩ (.int .i64 f)).setCell ⟨W1.heap.size, 1, none⟩ (.slice ua n uc) = W7 at *
         obtain ⟨B8, hB9⟩ : ∃ B, B = W1.heap.size := ⟨_, rfl⟩
         rw [← hB9] at hx hne7 ⊢
         have hle7 : W1.heap.size ≤ B8 := by omega)
    all_goals
      have HX7 := hide hx
      have HB7 := hide hb7
      have HO7 := hide ho7
      have HNE := hide hne7
      have HLE := hide hle7
      clear hx hb7 ho7 hne7 hle7 hB9
      try clear m2 m3 m4 m5
      try clear m6
      clear m0 m1 HO5 HB5 HX5 HQ5 hW5 HS5 z0 z1 b5 b6 p0 p1 HSM
      have x1 := HX1.out.below HB7.out
      have y0 := HX7.out.c0
      have y1 := HX7.out.c1
      have y2 := HX7.out.free 1
      have y7 := HX7.out.free 0
      have y3 := x1.c0
      have y4 := x1.c1
      have y5 := x1.free 0
      have y6 := x1.free 1
      have HX1' := hide x1
      have b1 : ¬ B8 = W0.heap.size := by have := HS.out; have := HLE.out; omega
      have b2 : ¬ W0.heap.size = B8 := by omega
      clear x1
      by_cases h0 : i = 0
      · subst h0
        clear hg g1 g2
        go_wp2_with fail
        have hx := HX1'.out.other (j := 0) b2 (.int .i64 c)
        have ho := HO7.out.put (j := 0) HNE.out (.int .i64 c)
        have ho2 := (ho.put2 (g := W0.heap.size) (by have := HS.out; omega) (.int .i64 c) (.slice ua n uc)).mono (b2 := w.heap.size) (by have := HS.out; omega)
        have hbw := below_two (b := W0.heap.size) (x := .int .i64 c) (y := .slice ua n uc) ((HQ.out.trans (HB7.out.mono (by have := HS.out; omega))).setCell (p := ⟨B8, 0, none⟩) (by have := HLE.out; have := HS.out; show w.heap.size ≤ B8; omega) (.int .i64 c)) (by have := HS.out; omega)
        refine bodyPost_ret (results_row_tmp rfl _ _ W0.heap.size 27 _ (0, 0) _ rfl (hx.two _ _) Tryd.underlying27 rfl (by kernel_rfl)) rfl ⟨.inl ⟨HG.out, .slice ua n uc, by simp [putF], ?_⟩, hbw⟩
        have : putL l (0 : Int).toNat c = l := by simp [putL]
        rw [this]
        exact ho2
      · obtain ⟨k, hk⟩ : ∃ k : Nat, i = (k : Int) + 1 := ⟨(i - 1).toNat, by omega⟩
        subst hk
        have hkl : k < l.length := by omega
        obtain ⟨g, cc, hu, hbg, hgw, _⟩ := HO7.out.has (by omega)
        have hua : ua = some ⟨g, 0, none⟩ := by cases hu; rfl
        subst hua
        have HBG := hide hbg
        have bg1 : ¬ g = B8 := fun h => HNE.out (by rw [← h]; rfl)
        have bg2 : ¬ B8 = g := fun h => bg1 h.symm
        have bg3 : ¬ g = W0.heap.size := by have := HS.out; omega
        have bg4 : ¬ W0.heap.size = g := by omega
        have hown : W7.ownsRow W1.heap.size 35 2 (.slice (some ⟨g, 0, none⟩) n uc) n (lks l) := by
          have := HO7.out
          unfold LkO at this
          rwa [← HN.out] at this
        have v1 : W7.cell? ⟨g, k * 2 + 1, none⟩ = some (.int .i64 l[k].2) := by
          rw [World.ownsRow.cellAt hown (k * 2 + 1) (by have := HN.out; omega)]; exact (lks_get l k hkl).2
        have v2 : W7.frozen? ⟨g, k * 2 + 1, none⟩ = false := World.ownsRow.frozenAt hown (k * 2 + 1)
        have hw1 : IntKind.i64.wrap ((k : Int) + 1 - 1) = (k : Int) := by have := HN.out; rw [IntKind.wrap_i64]; omega
        have hkn : (k : Int) < (n : Int) := by have := HN.out; omega
        have hk0 : (0 : Int) ≤ (k : Int) := by omega
        have hst := (World.ownsRow.stored hown (k * 2 + 1) (.int .i64 c)).1
        have hpl : (lks l).set (k * 2 + 1) (.int .i64 c) = lks (putL l (((k : Int) + 1).toNat) c) := by
          rw [show ((k : Int) + 1).toNat = k + 1 by omega]
          unfold putL
          rw [dif_pos ⟨by omega, by omega⟩]
          exact lks_set2 l k hkl c
        rw [hpl] at hst
        have HST := hide hst
        obtain ⟨oldv, hov⟩ : ∃ x, x = l[k].2 := ⟨_, rfl⟩
        rw [← hov] at v1
        clear hpl hg hu hkl hbg hgw hst hov hown
        go_wp2_with fail
        have hl' : (putL l (((k : Int) + 1).toNat) c).length = n := by rw [putL_len, HN.out]
        have ho : LkO (W7.setCell ⟨g, k * 2 + 1, none⟩ (.int .i64 c)) W1.heap.size (.slice (some ⟨g, 0, none⟩) n uc) (putL l (((k : Int) + 1).toNat) c) := by
          unfold LkO
          rw [hl']
          exact HST.out
        have ho2 := (ho.put2 (g := W0.heap.size) (by have := HS.out; omega) (.int .i64 f) (.slice (some ⟨g, 0, none⟩) n uc)).mono (b2 := w.heap.size) (by have := HS.out; omega)
        have hx := HX1'.out.other (g := g) (j := k * 2 + 1) bg4 (.int .i64 c)
        have hbw := below_two (b := W0.heap.size) (x := .int .i64 f) (y := .slice (some ⟨g, 0, none⟩) n uc) ((HQ.out.trans (HB7.out.mono (by have := HS.out; omega))).setCell (p := ⟨g, k * 2 + 1, none⟩) (by have := HBG.out; have := HS.out; show w.heap.size ≤ g; omega) (.int .i64 c)) (by have := HS.out; omega)
        refine bodyPost_ret (results_row_tmp rfl _ _ W0.heap.size 27 _ (0, 0) _ rfl (hx.two _ _) Tryd.underlying27 rfl (by kernel_rfl)) rfl ⟨.inl ⟨HG.out, .slice (some ⟨g, 0, none⟩) n uc, ?_, ho2⟩, hbw⟩
        have : putF f (((k : Int) + 1).toNat) c = f := by unfold putF; rw [if_neg (by omega)]
        rw [this]
        rfl
  · rw [Bool.not_eq_true] at hg
    have HG := hide hg
    have hg2 : i < 0 ∨ (n : Int) < i := by
      have := HN.out
      simp only [hasC, Bool.and_eq_false_iff, decide_eq_false_iff_not] at hg
      omega
    have z3 := HX1.out.c0
    have z4 := HX1.out.c1
    have z5 := HX1.out.free 0
    have z6 := HX1.out.free 1
    clear hg
    by_cases g0 : i < 0
    · clear hg2
      go_enter Tryd.func26, Tryd.ntmps26
      go_wp2_with fail
      exact bodyPost_ret (results_row_tmp rfl _ _ W0.heap.size 27 _ (0, 0) _ rfl (HX1.out.two _ _) Tryd.underlying27 rfl (by kernel_rfl)) rfl ⟨.inr ⟨HG.out, rfl⟩, below_two HQ.out (by have := HS.out; omega)⟩
    · have g2 : (n : Int) < i := by omega
      clear hg2
      go_enter Tryd.func26, Tryd.ntmps26
      go_wp2_with fail
      exact bodyPost_ret (results_row_tmp rfl _ _ W0.heap.size 27 _ (0, 0) _ rfl (HX1.out.two _ _) Tryd.underlying27 rfl (by kernel_rfl)) rfl ⟨.inr ⟨HG.out, rfl⟩, below_two HQ.out (by have := HS.out; omega)⟩

end Go.Proofs.YtagldlchamlpdaaDoor
