import Derived.Test.YtagldlchamlpdabDoorBSizes
import Derived.Test.YtagldlchamlpdabDoorLErr
namespace Go.Proofs.YtagldlchamlpdabDoor
open Go.RowKit

theorem CutN.boundP {l : List Int} {i : Nat} (h : CutN 3 (gapP l) l i 0) : 1 ≤ i ∧ i + 2 ≤ l.length := by
  rcases h with ⟨_, _, h⟩ | ⟨_, _, _, h⟩ | ⟨h1, _, h2, _⟩
  · omega
  · omega
  · have := h2.1; omega
theorem numOf_nil {A : Nat → Addr} {ev : Value} (h : NumOf A ev 0) : ev = .nilIface := by
  rcases h with ⟨h, _⟩ | ⟨_, h⟩ | ⟨_, h⟩ | ⟨_, h⟩ | ⟨_, h⟩
  · exact h
  all_goals omega
theorem numOf_err {A : Nat → Addr} {ev : Value} {c : Nat} (h : NumOf A ev c) (hc : c ≠ 0) : ∃ k, ev = .iface 167 (.pointer (some (A k))) := by
  rcases h with ⟨_, h⟩ | ⟨h, _⟩ | ⟨h, _⟩ | ⟨h, _⟩ | ⟨h, _⟩
  · omega
  all_goals exact ⟨_, h⟩

/-- What the branch's Cut answers. -/
def BCutV (A : Nat → Addr) (base : Nat) (f : Int) (l : List Lk) (e : Ending) (w : World) : Prop :=
  ∃ (i c : Nat) (key : ByteArray) (f1 f2 : Int) (u1 u2 ev : Value), e = .returned (.tuple #[.agg #[.int .i64 f1, u1], .string key, .agg #[.int .i64 f2, u2], ev]) ∧ CutN 3 (gapP (szsK l)) (szsK l) i c ∧ NumOf A ev c ∧
    ((c = 0 ∧ (∃ h : i < l.length, f1 = f ∧ key = l[i].1 ∧ f2 = l[i].2) ∧ LkO w base u1 (l.take i) ∧ LkO w base u2 (l.drop (i + 1)) ∧ ∀ k, u1.ownBlock = some k → u2.ownBlock ≠ some k) ∨ (c ≠ 0 ∧ f1 = 0 ∧ key = ⟨#[]⟩ ∧ f2 = 0 ∧ u1 = .slice none 0 0 ∧ u2 = .slice none 0 0))

set_option maxRecDepth 20000 in
set_option maxHeartbeats 2000000 in
theorem bcut_any (A : Nat → Addr) (f : Int) (v : Value) (l : List Lk) (w : World) (hok : OkK l) (hm : l.length ≤ 5864062014805) (hr : LkR w v l) (hE : ErrC A w) :
    Calls Tryd.prog 17 #[.agg #[.int .i64 f, v]] w fun e w' => BCutV A w.heap.size f l e w' ∧ Below w.heap.size w w' := by
  obtain ⟨a1, c1, hv⟩ := hr.form
  subst hv
  have hcap := hr.cap
  obtain ⟨n, hn⟩ : ∃ n, n = l.length := ⟨_, rfl⟩
  rw [← hn] at hr hm hcap ⊢
  have q1 := below_new w (.cells #[.int .i64 f, .slice a1 n c1] 30)
  have x1 := RowAt.new w #[.int .i64 f, .slice a1 n c1] 30
  have s1 : (w.alloc (.cells #[.int .i64 f, .slice a1 n c1] 30)).heap.size = w.heap.size + 1 := by simp
  generalize hW1 : w.alloc (.cells #[.int .i64 f, .slice a1 n c1] 30) = W1 at *
  have q2 := below_new W1 (.cells #[.int .i64 0, .slice none 0 0] 30)
  have x2 := RowAt.new W1 #[.int .i64 0, .slice none 0 0] 30
  have s2 : (W1.alloc (.cells #[.int .i64 0, .slice none 0 0] 30)).heap.size = W1.heap.size + 1 := by simp
  generalize hW2 : W1.alloc (.cells #[.int .i64 0, .slice none 0 0] 30) = W2 at *
  have q3 := below_new W2 (.cells #[.int .i64 0, .slice none 0 0] 30)
  have x3 := RowAt.new W2 #[.int .i64 0, .slice none 0 0] 30
  have s3 : (W2.alloc (.cells #[.int .i64 0, .slice none 0 0] 30)).heap.size = W2.heap.size + 1 := by simp
  generalize hW3 : W2.alloc (.cells #[.int .i64 0, .slice none 0 0] 30) = W3 at *
  have hq := Below.next q1 (Below.next q2 q3)
  have HX1 := hide ((x1.below q2).below q3)
  have HX2 := hide (x2.below q3)
  have HX3 := hide x3
  have HQ := hide hq
  have HR := hide (hr.below hq)
  have HE := hide (hE.below hq)
  have HN := hide hn
  have HS := hide (bsizes_any _ l W3 hok (by omega) (hr.below hq))
  have HSZ : Hid (W3.heap.size = w.heap.size + 3 ∧ W2.heap.size = w.heap.size + 2 ∧ W1.heap.size = w.heap.size + 1) := by show _ ∧ _ ∧ _; omega
  have p1 := HX1.out.c1
  have HSL : Hid ((szsK l).length ≤ 17592186044416) := by show _ ≤ _; rw [szsK_len]; omega
  clear q1 q2 q3 x1 x2 x3 s1 s2 s3 hr hE hok hn hq
  go_enter Tryd.func17, Tryd.ntmps17
  go_wp2_with fail
  refine HS.out.mono ?_
  rintro e w1 ⟨u, rfl, hint, hb1⟩
  have HC := hide (pivot_any A u (szsK l) w1 HSL.out hint (HE.out.below hb1).1)
  have HB1 := hide hb1
  clear hint hb1 HS p1
  go_wp2_with fail
  refine HC.out.mono ?_
  rintro e w2 ⟨hv, hb2⟩
  obtain ⟨i, c, ev, rfl, hcn, hno⟩ := hv.num
  have HB2 := hide (Below.next HB1.out hb2)
  have HCN := hide hcn
  have HNO := hide hno
  clear hv hb2 HC HB1
  have hx2 := HX2.out.below HB2.out
  have hx3 := HX3.out.below HB2.out
  have hx1 := HX1.out.below HB2.out
  by_cases hc : c = 0
  · subst hc
    have hev := numOf_nil hno
    subst hev
    obtain ⟨hi1, hi2⟩ := hcn.boundP
    rw [szsK_len, ← HN.out] at hi2
    have hil : i < l.length := by have := HN.out; omega
    have hr2 := HR.out.below HB2.out
    obtain ⟨g, o, rfl, d1, d2⟩ := hr2.spot i hil
    have j0 : (0 : Int) ≤ (i : Int) := by omega
    have j1 : (i : Int) < (n : Int) := by omega
    obtain ⟨p, hp⟩ : ∃ p, p = l[i] := ⟨_, rfl⟩
    rw [← hp] at d1 d2
    have p1 := hx1.c1
    have HI : Hid (∃ h : i < l.length, p = l[i]) := ⟨hil, hp⟩
    have hi3 : i ≤ n := by omega
    have hsl1 := fun W => slToK W (some ⟨g, o, none⟩) n c1 i (by omega)
    obtain ⟨q, hq⟩ : ∃ q, q = i + 1 := ⟨_, rfl⟩
    obtain ⟨a2, hrd, hsl2⟩ := hr2.drop (m := q) (by omega)
    have HQI := hide hq
    have hw1 : IntKind.i64.wrap ((i : Int) + 1) = (q : Int) := by rw [IntKind.wrap_i64]; omega
    have hqn : (q : Int) ≤ (n : Int) := by omega
    have hq0 : (0 : Int) ≤ (q : Int) := by omega
    have hrt := hr2.take (m := i) (by omega)
    have HRD := hide hrd
    have HRT := hide hrt
    have HH1 := hide hx1
    have HH2 := hide hx2
    have HH3 := hide hx3
    clear hp hq hr2 hrd hrt hcn hno hx1 hx2 hx3 hil hi1 hi2
    go_wp2_with fail
    have q4 := below_new w2 (.cells #[.string p.1, .int .i64 p.2] 54)
    have x4 := RowAt.new w2 #[.string p.1, .int .i64 p.2] 54
    have s4 : (w2.alloc (.cells #[.string p.1, .int .i64 p.2] 54)).heap.size = w2.heap.size + 1 := by simp
    generalize w2.alloc (.cells #[.string p.1, .int .i64 p.2] 54) = W4 at *
    have HX4 := hide x4
    have HQ4 := hide q4
    have y1 := HH1.out.below q4
    have k0 := y1.c0
    have k1 := y1.c1
    have q5 := below_new W4 (.cells #[.int .i64 0, .slice none 0 0] 30)
    have x5 := RowAt.new W4 #[.int .i64 0, .slice none 0 0] 30
    have s5 : (W4.alloc (.cells #[.int .i64 0, .slice none 0 0] 30)).heap.size = W4.heap.size + 1 := by simp
    generalize hW5 : W4.alloc (.cells #[.int .i64 0, .slice none 0 0] 30) = W5 at *
    have HX5 := hide x5
    have HQ5 := hide q5
    have z0 := (y1.below q5).c0
    have z1 := (y1.below q5).c1
    have HS5 : Hid (W4.heap.size = w2.heap.size + 1 ∧ W5.heap.size = W4.heap.size + 1 ∧ w.heap.size + 3 ≤ w2.heap.size) := by show _ ∧ _ ∧ _; have := HSZ.out; have := HB2.out.size; omega
    have b1 : ¬ w.heap.size = W4.heap.size := by have := HS5.out; omega
    have b2 : ¬ W4.heap.size = w.heap.size := by have := HS5.out; omega
    have HC1 : Hid (∀ W, Below W4.heap.size W4 W → Calls Tryd.prog 43 #[.slice (some ⟨g, o, none⟩) i c1] W fun e w' => ∃ ua uc, e = .returned (.slice ua i uc) ∧ LkO w' W.heap.size (.slice ua i uc) (l.take i) ∧ Below W.heap.size W w') := fun W h => by
      have hlt : (l.take i).length = i := by rw [List.length_take]; have := HN.out; omega
      refine (kclone_any _ (l.take i) W (by rw [hlt]; omega) ((HRT.out.below q4).below h)).mono ?_
      rintro e w' ⟨u, rfl, ho, hb⟩
      obtain ⟨ua, uc, hu⟩ := ho.form
      rw [hlt] at hu
      subst hu
      exact ⟨ua, uc, rfl, ho, hb⟩
    clear d1 d2 p1 q4 x4 y1 q5 x5 s4 s5
    go_region_held3 (fun w' => w'.cell? ⟨w.heap.size, 0, none⟩ = some (.int .i64 f) ∧ w'.cell? ⟨w.heap.size, 1, none⟩ = some (.slice (some ⟨g, o, none⟩) n c1)) (go_keep)
      (first
        | (go_at_call 43; refine (HC1.out _ ?_).mono ?_; (first | exact (Below.refl _ _).drew | exact HQ5.out.drew); rintro e w5 ⟨ua, uc, rfl, ho, hb⟩; have HO5 := hide ho; have HB5 := hide hb; have m0 : w5.cell? ⟨w.heap.size, 0, none⟩ = some (.int .i64 f) := (by first | exact (((HH1.out.below HQ4.out).below HQ5.out).drew.below hb).c0 | exact ((HH1.out.below HQ4.out).drew.below hb).c0); have m1 : w5.cell? ⟨w.heap.size, 1, none⟩ = some (.slice (some ⟨g, o, none⟩) n c1) := (by first | exact (((HH1.out.below HQ4.out).below HQ5.out).drew.below hb).c1 | exact ((HH1.out.below HQ4.out).drew.below hb).c1); try (have m2 := (HX5.out.drew.below hb).c0; have m3 := (HX5.out.drew.below hb).c1; have m4 := (HX5.out.drew.below hb).free 0; have m5 := (HX5.out.drew.below hb).free 1); have m6 := World.new_ne w5 _ m0; clear ho hb))
    all_goals first
      | (have hx := RowAt.new w5 #[.int .i64 f, .slice ua i uc] 30
         have hq := below_new w5 (.cells #[.int .i64 f, .slice ua i uc] 30)
         have hb7 : Below W4.heap.size W4 (w5.alloc (.cells #[.int .i64 f, .slice ua i uc] 30)) := Below.next (undrewB HB5.out) hq
         have ho7 : LkO (w5.alloc (.cells #[.int .i64 f, .slice ua i uc] 30)) W4.heap.size (.slice ua i uc) (l.take i) := HO5.out.below hq
         have hsz7 : W4.heap.size ≤ w5.heap.size := HB5.out.size
         generalize w5.alloc (.cells #[.int .i64 f, .slice ua i uc] 30) = W7 at *
         obtain ⟨B9, hB9⟩ : ∃ B, B = w5.heap.size := ⟨_, rfl⟩
         rw [← hB9] at hx hsz7 ⊢
         have HBB7 := hide hsz7
         clear hq)
      | (have hx := ((HX5.out.drew.below HB5.out).two (.int .i64 f) (.slice ua i uc))
         have hb7 : Below W4.heap.size W4 ((w5.setCell ⟨W4.heap.size, 0, none⟩ (.int .i64 f)).setCell ⟨W4.heap.size, 1, none⟩ (.slice ua i uc)) := below_two (Below.next HQ5.out (undrewB HB5.out)) (Nat.le_refl _)
         have ho7 : LkO ((w5.setCell ⟨W4.heap.size, 0, none⟩ (.int .i64 f)).setCell ⟨W4.heap.size, 1, none⟩ (.slice ua i uc)) W4.heap.size (.slice ua i uc) (l.take i) := (HO5.out.put2 (g := W4.heap.size) (by have := HS5.out; show W4.heap.size < W5.heap.size; omega) (.int .i64 f) (.slice ua i uc)).mono (by have := HS5.out; show W4.heap.size ≤ W5.heap.size; omega)
         generalize (w5.setCell ⟨W4.heap.size, 0, none⟩ (.int .i64 f)).setCell ⟨W4.heap.size, 1, none⟩ (.slice ua i uc) = W7 at *
         obtain ⟨B9, hB9⟩ : ∃ B, B = W4.heap.size := ⟨_, rfl⟩
         rw [← hB9] at hx ⊢
         have HBB7 : Hid (W4.heap.size ≤ B9) := (by rw [hB9]; exact Nat.le_refl _))
    all_goals
      have HX7 := hide hx
      have HB7 := hide hb7
      have HO7 := hide ho7
      clear hx hb7 ho7 hB9
    all_goals
      try clear hsz7
      try clear m2 m3 m4 m5
      try clear m6
      clear m0 m1 HC1 b1 b2 z0 z1 k0 k1 hsl1 HO5 HB5 HX5 HQ5 hW5 HS5
      have d1 := ((HX4.out).below HB7.out).c0
      have d2 := ((HX4.out).below HB7.out).c1
      have y1 := ((HH1.out.below HQ4.out).below HB7.out)
      have k1 := y1.c1
      have q5 := below_new W7 (.cells #[.int .i64 0, .slice none 0 0] 30)
      have x5 := RowAt.new W7 #[.int .i64 0, .slice none 0 0] 30
      have s5 : (W7.alloc (.cells #[.int .i64 0, .slice none 0 0] 30)).heap.size = W7.heap.size + 1 := by simp
      generalize hW8 : W7.alloc (.cells #[.int .i64 0, .slice none 0 0] 30) = W8 at *
      have HX8 := hide x5
      have HQ8 := hide q5
      have z0 := (((HX4.out).below HB7.out).below q5).c1
      have z1 := (y1.below q5).c1
      have HS8 : Hid (W8.heap.size = W7.heap.size + 1 ∧ w.heap.size + 3 ≤ w2.heap.size ∧ w2.heap.size < W7.heap.size) := by show _ ∧ _ ∧ _; have := HSZ.out; have := HB2.out.size; have := (HX4.out.below HB7.out).lt; omega
      have b1 : ¬ w.heap.size = W7.heap.size := by have := HS8.out; omega
      have b2 : ¬ W7.heap.size = w.heap.size := by have := HS8.out; omega
      have b3 : ¬ w2.heap.size = W7.heap.size := by have := HS8.out; omega
      have b4 : ¬ W7.heap.size = w2.heap.size := by have := HS8.out; omega
      have HC2 : Hid (∀ W, Below W7.heap.size W7 W → Calls Tryd.prog 43 #[.slice a2 (n - q) (c1 - q)] W fun e w' => ∃ va vc, e = .returned (.slice va (n - q) vc) ∧ LkO w' W.heap.size (.slice va (n - q) vc) (l.drop q) ∧ Below W.heap.size W w') := fun W h => by
        have hlt : (l.drop q).length = n - q := by rw [List.length_drop]; have := HN.out; have := HQI.out; omega
        refine (kclone_any _ (l.drop q) W (by rw [hlt]; omega) (((HRD.out.below HQ4.out).below HB7.out).below h)).mono ?_
        rintro e w' ⟨u, rfl, ho, hb⟩
        obtain ⟨ua, uc, hu⟩ := ho.form
        rw [hlt] at hu
        subst hu
        exact ⟨ua, uc, rfl, ho, hb⟩
      generalize n - q = nr at *
      generalize c1 - q = cr at *
      clear q5 x5 y1 s5
      go_wp2_with fail
      go_region_held3 (fun w' => w'.cell? ⟨w2.heap.size, 1, none⟩ = some (.int .i64 p.2) ∧ w'.cell? ⟨w.heap.size, 1, none⟩ = some (.slice (some ⟨g, o, none⟩) n c1)) (go_keep)
        (first
          | (go_at_call 43; refine (HC2.out _ ?_).mono ?_; (first | exact (Below.refl _ _).drew | exact HQ8.out.drew); rintro e w8 ⟨va, vc, rfl, ho, hb⟩; have HO8 := hide ho; have HB8 := hide hb; have m0 : w8.cell? ⟨w2.heap.size, 1, none⟩ = some (.int .i64 p.2) := (by first | exact (((HX4.out.below HB7.out).below HQ8.out).drew.below hb).c1 | exact ((HX4.out.below HB7.out).drew.below hb).c1); have m1 : w8.cell? ⟨w.heap.size, 1, none⟩ = some (.slice (some ⟨g, o, none⟩) n c1) := (by first | exact ((((HH1.out.below HQ4.out).below HB7.out).below HQ8.out).drew.below hb).c1 | exact (((HH1.out.below HQ4.out).below HB7.out).drew.below hb).c1); try (have m2 := (HX8.out.drew.below hb).c0; have m3 := (HX8.out.drew.below hb).c1; have m4 := (HX8.out.drew.below hb).free 0; have m5 := (HX8.out.drew.below hb).free 1); have m6 := World.new_ne w8 _ m0; have m7 := World.new_ne w8 _ m1; clear ho hb))
    all_goals first
      | (have hx := RowAt.new w8 #[.int .i64 p.2, .slice va nr vc] 30
         have hq := below_new w8 (.cells #[.int .i64 p.2, .slice va nr vc] 30)
         have hb7 : Below W7.heap.size W7 (w8.alloc (.cells #[.int .i64 p.2, .slice va nr vc] 30)) := Below.next (undrewB HB8.out) hq
         have ho7 : LkO (w8.alloc (.cells #[.int .i64 p.2, .slice va nr vc] 30)) W7.heap.size (.slice va nr vc) (l.drop q) := HO8.out.below hq
         have hsz7 : W7.heap.size ≤ w8.heap.size := HB8.out.size
         generalize w8.alloc (.cells #[.int .i64 p.2, .slice va nr vc] 30) = W9 at *
         obtain ⟨B10, hB9⟩ : ∃ B, B = w8.heap.size := ⟨_, rfl⟩
         rw [← hB9] at hx hsz7 ⊢
         have HBB9 := hide hsz7
         clear hq)
      | (have hx := ((HX8.out.drew.below HB8.out).two (.int .i64 p.2) (.slice va nr vc))
         have hb7 : Below W7.heap.size W7 ((w8.setCell ⟨W7.heap.size, 0, none⟩ (.int .i64 p.2)).setCell ⟨W7.heap.size, 1, none⟩ (.slice va nr vc)) := below_two (Below.next HQ8.out (undrewB HB8.out)) (Nat.le_refl _)
         have ho7 : LkO ((w8.setCell ⟨W7.heap.size, 0, none⟩ (.int .i64 p.2)).setCell ⟨W7.heap.size, 1, none⟩ (.slice va nr vc)) W7.heap.size (.slice va nr vc) (l.drop q) := (HO8.out.put2 (g := W7.heap.size) (by have := HS8.out; show W7.heap.size < W8.heap.size; omega) (.int .i64 p.2) (.slice va nr vc)).mono (by have := HS8.out; show W7.heap.size ≤ W8.heap.size; omega)
         generalize (w8.setCell ⟨W7.heap.size, 0, none⟩ (.int .i64 p.2)).setCell ⟨W7.heap.size, 1, none⟩ (.slice va nr vc) = W9 at *
         obtain ⟨B10, hB9⟩ : ∃ B, B = W7.heap.size := ⟨_, rfl⟩
         rw [← hB9] at hx ⊢
         have HBB9 : Hid (W7.heap.size ≤ B10) := (by rw [hB9]; exact Nat.le_refl _))
    all_goals
      have HX9 := hide hx
      have HB9 := hide hb7
      have HO9 := hide ho7
      clear hx hb7 ho7 hB9
    all_goals
      try clear hsz7
      try clear m2 m3 m4 m5
      try clear m6 m7
      clear m0 m1 HC2 b1 b2 b3 b4 z0 z1 k1 d1 d2 hsl2 HO8 HB8 HX8 HQ8 hW8
      have y9 := HX7.out.below HB9.out
      have y8 := (HX4.out.below HB7.out).below HB9.out
      have y1 := (((HH2.out.below HQ4.out).below HB7.out).below HB9.out)
      have y2 := (((HH3.out.below HQ4.out).below HB7.out).below HB9.out)
      have e1 := y9.c0
      have e2 := y9.c1
      have e3 := y8.c0
      have e4 := HX9.out.c0
      have e5 := HX9.out.c1
      have e6 := y1.c0
      have e7 := y1.c1
      have e8 := y2.c0
      have e9 := y2.c1
      have f1 := y1.free 0
      have f2 := y1.free 1
      have f3 := y2.free 0
      have f4 := y2.free 1
      have HSS : Hid (W1.heap.size = w.heap.size + 1 ∧ W2.heap.size = w.heap.size + 2 ∧ w.heap.size + 3 ≤ w2.heap.size ∧ w.heap.size + 3 ≤ B9 ∧ w.heap.size + 3 ≤ B10 ∧ w.heap.size + 3 ≤ W4.heap.size ∧ w.heap.size + 3 ≤ W7.heap.size) := by
        have h1 := HSZ.out; have h2 := HBB7.out; have h3 := HBB9.out; have h4 := HQ4.out.size; have h5 := HB7.out.size; have h6 := HS8.out
        exact ⟨h1.2.2, h1.2.1, h6.2.1, by omega, by omega, by omega, by omega⟩
      have g1 : ¬ B9 = W1.heap.size := by have := HSS.out; omega
      have g2 : ¬ W1.heap.size = B9 := by have := HSS.out; omega
      have g3 : ¬ B9 = W2.heap.size := by have := HSS.out; omega
      have g4 : ¬ W2.heap.size = B9 := by have := HSS.out; omega
      have g5 : ¬ B10 = W1.heap.size := by have := HSS.out; omega
      have g6 : ¬ W1.heap.size = B10 := by have := HSS.out; omega
      have g7 : ¬ B10 = W2.heap.size := by have := HSS.out; omega
      have g8 : ¬ W2.heap.size = B10 := by have := HSS.out; omega
      have g9 : ¬ w2.heap.size = W1.heap.size := by have := HSS.out; omega
      have g10 : ¬ W1.heap.size = w2.heap.size := by have := HSS.out; omega
      have g11 : ¬ w2.heap.size = W2.heap.size := by have := HSS.out; omega
      have g12 : ¬ W2.heap.size = w2.heap.size := by have := HSS.out; omega
      have g13 : ¬ W1.heap.size = W2.heap.size := by have := HSS.out; omega
      have g14 : ¬ W2.heap.size = W1.heap.size := by have := HSS.out; omega
      have HY1 := hide y1
      have HY2 := hide y2
      clear y9 y8 y1 y2
      go_wp2_with fail
      go_region_held3 (fun w' => w'.cell? ⟨B9, 0, none⟩ = some (.int .i64 f) ∧ w'.cell? ⟨B9, 1, none⟩ = some (.slice ua i uc) ∧ w'.cell? ⟨w2.heap.size, 0, none⟩ = some (.string p.1) ∧ w'.cell? ⟨B10, 0, none⟩ = some (.int .i64 p.2) ∧ w'.cell? ⟨B10, 1, none⟩ = some (.slice va nr vc)) (go_keep) (fail)
    all_goals
      have r2 : RowAt (((((W9.setCell ⟨W1.heap.size, 0, none⟩ (.int .i64 f)).setCell ⟨W1.heap.size, 1, none⟩ (.slice ua i uc)).setCell ⟨W2.heap.size, 0, none⟩ (.int .i64 p.2)).setCell ⟨W2.heap.size, 1, none⟩ (.slice va nr vc))) W1.heap.size #[.int .i64 f, .slice ua i uc] 30 := ((HY1.out.two _ _).other g13 _).other g13 _
      have r3 : RowAt (((((W9.setCell ⟨W1.heap.size, 0, none⟩ (.int .i64 f)).setCell ⟨W1.heap.size, 1, none⟩ (.slice ua i uc)).setCell ⟨W2.heap.size, 0, none⟩ (.int .i64 p.2)).setCell ⟨W2.heap.size, 1, none⟩ (.slice va nr vc))) W2.heap.size #[.int .i64 p.2, .slice va nr vc] 30 := ((HY2.out.other g14 _).other g14 _).two _ _
      clear e1 e2 e3 e4 e5 e6 e7 e8 e9 f1 f2 f3 f4
      go_wp2_with fail
      have o1 := ((HO7.out.below HB9.out).put2 (g := W1.heap.size) (by have := HSS.out; omega) (.int .i64 f) (.slice ua i uc)).put2 (g := W2.heap.size) (by have := HSS.out; omega) (.int .i64 p.2) (.slice va nr vc)
      have o2 := (HO9.out.put2 (g := W1.heap.size) (by have := HSS.out; omega) (.int .i64 f) (.slice ua i uc)).put2 (g := W2.heap.size) (by have := HSS.out; omega) (.int .i64 p.2) (.slice va nr vc)
      refine bodyPost_ret (results_row_4 rfl _ _ W1.heap.size W2.heap.size 30 30 _ _ (0, 0) (0, 0) _ _ rfl rfl r2.drew r3.drew Tryd.underlying30 Tryd.underlying30 rfl rfl (by kernel_rfl) (by kernel_rfl)) rfl ⟨⟨i, 0, p.1, f, p.2, .slice ua i uc, .slice va nr vc, _, rfl, HCN.out, HNO.out, .inl ⟨rfl, ?_, ?_, ?_, ?_⟩⟩, ?_⟩
      · obtain ⟨h, he⟩ := HI.out
        exact ⟨h, rfl, by rw [he], by rw [he]⟩
      · exact (o1.mono (by have := HSS.out; omega)).drew
      · rw [← HQI.out]; exact (o2.mono (by have := HSS.out; omega)).drew
      · intro k h1 h2
        have a1 := HO7.out.blk k h1
        have a2 := HO9.out.blk k h2
        omega
      · exact below_drewB (below_two (below_two (Below.next HQ.out (Below.next HB2.out (Below.next HQ4.out (Below.next HB7.out HB9.out)))) (by have := HSS.out; omega)) (by have := HSS.out; omega))
  · obtain ⟨k, rfl⟩ := numOf_err hno hc
    have hnn := fun W => iface_ne_nil (some (A k)) W
    have HCZ := hide hc
    have r1 := hx2.c0
    have r2 := hx2.c1
    have r3 := hx3.c0
    have r4 := hx3.c1
    have z1 := hx2.free 0
    have z2 := hx2.free 1
    have z3 := hx3.free 0
    have z4 := hx3.free 1
    have b1 : ¬ W1.heap.size = W2.heap.size := by have := HSZ.out; omega
    have b2 : ¬ W2.heap.size = W1.heap.size := by have := HSZ.out; omega
    have HXX2 := hide hx2
    have HXX3 := hide hx3
    clear hcn hno hc hx1 hx2 hx3
    go_wp2_with fail
    have e2 : RowAt (((((w2.setCell ⟨W1.heap.size, 0, none⟩ (.int .i64 0)).setCell ⟨W1.heap.size, 1, none⟩ (.slice none 0 0)).setCell ⟨W2.heap.size, 0, none⟩ (.int .i64 0)).setCell ⟨W2.heap.size, 1, none⟩ (.slice none 0 0))) W1.heap.size #[.int .i64 0, .slice none 0 0] 30 := ((HXX2.out.two _ _).other b1 _).other b1 _
    have e3 : RowAt (((((w2.setCell ⟨W1.heap.size, 0, none⟩ (.int .i64 0)).setCell ⟨W1.heap.size, 1, none⟩ (.slice none 0 0)).setCell ⟨W2.heap.size, 0, none⟩ (.int .i64 0)).setCell ⟨W2.heap.size, 1, none⟩ (.slice none 0 0))) W2.heap.size #[.int .i64 0, .slice none 0 0] 30 := ((HXX3.out.other b2 _).other b2 _).two _ _
    refine bodyPost_ret (results_row_4 rfl _ _ W1.heap.size W2.heap.size 30 30 _ _ (0, 0) (0, 0) _ _ rfl rfl e2 e3 Tryd.underlying30 Tryd.underlying30 rfl rfl (by kernel_rfl) (by kernel_rfl)) rfl ⟨⟨i, c, _, 0, 0, _, _, _, rfl, HCN.out, HNO.out, .inr ⟨HCZ.out, rfl, rfl, rfl, rfl, rfl⟩⟩, ?_⟩
    exact below_two (below_two (Below.next HQ.out HB2.out) (by have := HSZ.out; omega)) (by have := HSZ.out; omega)

end Go.Proofs.YtagldlchamlpdabDoor
