import Derived.Test.YtagldlchamlpdaaDoorBCut
import Derived.Test.YtagldlchamlpdaaDoorBSome
import Derived.Test.YtagldlchamlpdaaDoorRCut
namespace Go.Proofs.YtagldlchamlpdaaDoor
open Go.RowKit

/-- One int more on a list of the call's own. -/
theorem push_int (base : Nat) (v : Value) (xs : List Int) (x : Int) (t : TypeId) (w w0 : World) (B n : Nat) (hn : xs.length = n) (hown : w.ownsRow base 3 1 v n (ints xs)) (hb : (n + 1) * 8 ≤ 140737488355328) (hbase : base ≤ w.heap.size) (hB : B ≤ base) (h0 : Below B w0 w) :
    ∃ a' cap' w', (Builtin.append_ #[80, 80] 80 #[v, .slice (some ⟨w.heap.size, 0, none⟩) 1 1]).run Tryd.prog (w.alloc (.cells #[.int .i64 x] t)) = .ok (.slice a' (n + 1) cap') w' ∧ w'.ownsRow base 3 1 (.slice a' (n + 1) cap') (n + 1) (ints (xs ++ [x])) ∧ Below B w0 w' ∧ w.heap.size ≤ w'.heap.size := by
  subst hn
  have hr : RowR (w.alloc (.cells #[.int .i64 x] t)) (.slice (some ⟨w.heap.size, 0, none⟩) 1 1) [.int .i64 x] := by
    have hbx := boxed_new w #[.int .i64 x] t
    refine ⟨_, _, rfl, Nat.le_refl _, fun h => (by cases h), fun j u hj => ⟨_, _, rfl, ?_⟩⟩
    have hj0 : j = 0 := by
      have := (List.getElem?_eq_some_iff.1 hj).1
      simpa using this
    subst hj0
    cases hj
    exact hbx.2 0 (by simp)
  obtain ⟨a', cap', w', hrun, hown', hg⟩ := append_row 80 3 _ 8 info3 Tryd.underlying80 rfl base xs.length v (ints xs) _ (World.ownsRow.alloc hown _) _ _ hr (fun u hu => by simp at hu; subst hu; rfl) (by simpa using hb) (by decide) (by simp; omega)
  refine ⟨a', cap', w', hrun, by rw [ints_append]; exact hown', ?_, ?_⟩
  · exact (h0.alloc (Nat.le_trans hB hbase) _).grown hg (by simp; omega) (fun k hk => Nat.le_trans hB (World.ownsRow.lt hown k hk).1)
  · have := hg.size
    simp at this
    omega
theorem own_form {w : World} {base e n : Nat} {v : Value} {xs : List Value} (h : w.ownsRow base e 1 v n xs) : ∃ a c, v = .slice a n c := by
  rcases h.2 with ⟨rfl, rfl⟩ | ⟨g, cap, cur, rfl, _⟩
  · exact ⟨_, _, rfl⟩
  · exact ⟨_, _, rfl⟩


/-- What the document's Cut answers. -/
def RBCutV (base : Nat) (f : Int) (l : List Lk) (e : Ending) (w : World) : Prop :=
  ∃ (i c : Nat) (key : ByteArray) (f1 f2 : Int) (u1 u2 : Value), e = .returned (.tuple #[.agg #[.int .i64 f1, u1], .string key, .agg #[.int .i64 f2, u2], .int .i64 (c : Int)]) ∧ CutN 3 (gapP (szsK l)) (szsK l) i c ∧
    ((c = 0 ∧ (∃ h : i < l.length, f1 = f ∧ key = l[i].1 ∧ f2 = l[i].2) ∧ LkO w base u1 (l.take i) ∧ LkO w base u2 (l.drop (i + 1))) ∨ (c ≠ 0 ∧ f1 = 0 ∧ key = ⟨#[]⟩ ∧ f2 = 0 ∧ u1 = .slice none 0 0 ∧ u2 = .slice none 0 0))

set_option maxRecDepth 20000 in
set_option maxHeartbeats 4000000 in
theorem rbcut_any (f : Int) (v : Value) (l : List Lk) (w : World) (hok : OkK l) (hm : l.length ≤ 5864062014805) (hr : LkR w v l) :
    Calls Tryd.prog 18 #[.agg #[.int .i64 f, v]] w fun e w' => RBCutV w.heap.size f l e w' ∧ Below w.heap.size w w' := by
  obtain ⟨a1, c1, hv⟩ := hr.form
  subst hv
  have hcap := hr.cap
  obtain ⟨n, hn⟩ : ∃ n, n = l.length := ⟨_, rfl⟩
  rw [← hn] at hr hm hcap ⊢
  have q1 := below_new w (.cells #[.int .i64 f, .slice a1 n c1] 27)
  have x1 := RowAt.new w #[.int .i64 f, .slice a1 n c1] 27
  have s1 : (w.alloc (.cells #[.int .i64 f, .slice a1 n c1] 27)).heap.size = w.heap.size + 1 := by simp
  generalize hW1 : w.alloc (.cells #[.int .i64 f, .slice a1 n c1] 27) = W1 at *
  have q2 := below_new W1 (.cells #[.int .i64 0, .slice none 0 0] 27)
  have x2 := RowAt.new W1 #[.int .i64 0, .slice none 0 0] 27
  have s2 : (W1.alloc (.cells #[.int .i64 0, .slice none 0 0] 27)).heap.size = W1.heap.size + 1 := by simp
  generalize hW2 : W1.alloc (.cells #[.int .i64 0, .slice none 0 0] 27) = W2 at *
  have q3 := below_new W2 (.cells #[.int .i64 0, .slice none 0 0] 27)
  have x3 := RowAt.new W2 #[.int .i64 0, .slice none 0 0] 27
  have s3 : (W2.alloc (.cells #[.int .i64 0, .slice none 0 0] 27)).heap.size = W2.heap.size + 1 := by simp
  generalize hW3 : W2.alloc (.cells #[.int .i64 0, .slice none 0 0] 27) = W3 at *
  have hq := Below.next q1 (Below.next q2 q3)
  have HX1 := hide ((x1.below q2).below q3)
  have HX2 := hide (x2.below q3)
  have HX3 := hide x3
  have HQ := hide hq
  have HR := hide (hr.below hq)
  have HGW : Hid (∀ j, j < n → ∀ g o, a1 = some ⟨g, o, none⟩ → g < w.heap.size) := fun j hj g o hg => by
    obtain ⟨g', o', h1, h2, _⟩ := hr.spot j (by omega)
    rw [hg] at h1
    cases h1
    exact World.block_lt_of_cell? w _ h2
  have HN := hide hn
  have HOK := hide hok
  have HSZ : Hid (W3.heap.size = w.heap.size + 3 ∧ W2.heap.size = w.heap.size + 2 ∧ W1.heap.size = w.heap.size + 1) := by show _ ∧ _ ∧ _; omega
  have HSL : Hid ((szsK l).length ≤ 17592186044416) := by show _ ≤ _; rw [szsK_len]; omega
  clear q1 q2 q3 x1 x2 x3 s1 s2 s3 hr hok hn hq hcap
  go_enter Tryd.func18, Tryd.ntmps18
  go_wp2_with fail
  go_loopw [6, 7] (fun u i wr => ∃ k : Nat, k ≤ n ∧ i = .int .i64 k ∧ wr.ownsRow W3.heap.size 3 1 u k (ints (szsK (l.take k))) ∧ Below W3.heap.size W3 wr) (fun _ i _ => n - (intOf i).toNat)
  case atStart => exact ⟨0, Nat.zero_le _, rfl, World.ownsRow_nil _ _ _ _, Below.refl _ _⟩
  case round =>
    obtain ⟨k, hk, rfl, hown, hbw⟩ := hrel
    have htk : (szsK (l.take k)).length = k := by rw [szsK_len, List.length_take]; have := HN.out; omega
    obtain ⟨ua, uc, hu⟩ := own_form hown
    subst hu
    have p1 := (HX1.out.below hbw).c1
    by_cases hlt : k < n
    · have hkl : k < l.length := by have := HN.out; omega
      obtain ⟨g, o, rfl, c0, c2⟩ := (HR.out.below hbw).spot k hkl
      have hp0 := HOK.out l[k] (List.getElem_mem _)
      obtain ⟨x, hx⟩ : ∃ x : Int, x = (szK l[k] : Int) := ⟨_, rfl⟩
      have e2 : IntKind.i64.wrap (7 + (l[k].1.size : Int)) = x := by rw [hx, IntKind.wrap_i64]; unfold szK; omega
      have HS := hide (szsK_take_succ l k hkl)
      rw [← hx] at HS
      generalize l[k].1 = s1 at *
      have hltI : (k : Int) < (n : Int) := by omega
      have j0 : (0 : Int) ≤ (k : Int) := by omega
      obtain ⟨a3, cp3, w1, hrun, hown1, hb1, _⟩ := push_int W3.heap.size _ _ x 3 wr W3 W3.heap.size k htk hown (by omega) hbw.size (Nat.le_refl _) hbw
      rw [← HS.out] at hown1
      have HO := hide hown1
      have HB := hide hb1
      clear hx hp0 hown hown1 hb1 hbw HS htk c2
      go_wp2_with (first | (at_builtin; have h0 := hrun; clear hrun; refine wpList_append_run 80 rfl (.tmp 19) (.tmp 28) rfl rfl _ _ rfl rfl _ _ h0 ?_; clear h0))
      go_wp2
      go_roundw
      case rel => exact ⟨k + 1, by omega, by go_num, HO.out, HB.out⟩
      case measure => simp [intOf]; omega
    · have hkn : k = n := by omega
      subst hkn
      have hall : l.take k = l := by rw [List.take_of_length_le]; have := HN.out; omega
      rw [hall] at hown
      have hint := (rowR_of_owns hown).ints
      have HRC := hide (rpivot_any _ (szsK l) wr HSL.out hint)
      have HB2 := hide hbw
      have hltI : ¬ (k : Int) < (k : Int) := by omega
      clear hown hint hbw hall htk hlt hk
      go_wp2_with fail
      refine HRC.out.mono ?_
      rintro e w2 ⟨i, c, rfl, hcn, rfl⟩
      have HCN := hide hcn
      clear HRC p1
      have hx2 := HX2.out.below HB2.out
      have hx3 := HX3.out.below HB2.out
      have hx1 := HX1.out.below HB2.out
      by_cases hc : c = 0
      · subst hc
        obtain ⟨hi1, hi2⟩ := hcn.boundP
        rw [szsK_len, ← HN.out] at hi2
        have hil : i < l.length := by have := HN.out; omega
        have hr2 := HR.out.below HB2.out
        obtain ⟨g, o, rfl, d1, d2⟩ := hr2.spot i hil
        have j0 : (0 : Int) ≤ (i : Int) := by omega
        have j1 : (i : Int) < (k : Int) := by omega
        obtain ⟨p, hp⟩ : ∃ p, p = l[i] := ⟨_, rfl⟩
        rw [← hp] at d1 d2
        have HI : Hid (∃ h : i < l.length, p = l[i]) := ⟨hil, hp⟩
        have HD : Hid (wr.cell? ⟨g, o + i * 2, none⟩ = some (.string p.1) ∧ wr.cell? ⟨g, o + i * 2 + 1, none⟩ = some (.int .i64 p.2)) := ⟨d1, d2⟩
        obtain ⟨q, hq⟩ : ∃ q, q = i + 1 := ⟨_, rfl⟩
        have HQI := hide hq
        have hw1 : IntKind.i64.wrap ((i : Int) + 1) = (q : Int) := by rw [IntKind.wrap_i64]; omega
        have hik : i ≤ l.length := by omega
        have hqk : q ≤ k := by omega
        have HKL : Hid (k = l.length) := HN.out
        have HRR := hide hr2
        have HH1 := hide hx1
        have HH2 := hide hx2
        have HH3 := hide hx3
        have y1 := hx1
        have k0 := y1.c0
        have k1 := y1.c1
        clear hp hq hr2 hcn hx1 hx2 hx3 hil hi1 hi2 d1 d2
        have q5 := below_new wr (.cells #[.int .i64 0, .slice none 0 0] 27)
        have x5 := RowAt.new wr #[.int .i64 0, .slice none 0 0] 27
        have s5 : (wr.alloc (.cells #[.int .i64 0, .slice none 0 0] 27)).heap.size = wr.heap.size + 1 := by simp
        generalize hW5 : wr.alloc (.cells #[.int .i64 0, .slice none 0 0] 27) = W5 at *
        have HX5 := hide x5
        have HQ5 := hide q5
        have z0 := (y1.below q5).c0
        have z1 := (y1.below q5).c1
        have HS5 : Hid (W5.heap.size = wr.heap.size + 1 ∧ w.heap.size + 3 ≤ wr.heap.size) := by show _ ∧ _; have := HSZ.out; have := HB2.out.size; omega
        have b1 : ¬ w.heap.size = wr.heap.size := by have := HS5.out; omega
        have b2 : ¬ wr.heap.size = w.heap.size := by have := HS5.out; omega
        have HC1 : Hid (∀ W, Below wr.heap.size wr W → Calls Tryd.prog 46 #[.slice (some ⟨g, o, none⟩) k c1, .int .i64 0, .int .i64 (i : Int)] W fun e w' => ∃ ua uc, e = .returned (.slice ua i uc) ∧ LkO w' W.heap.size (.slice ua i uc) (l.take i) ∧ Below W.heap.size W w') := fun W h => by
          have hlt : (l.take i).length = i := by rw [List.length_take]; omega
          refine (some_any _ l 0 i W (by rw [← HKL.out]; exact hm) (Nat.zero_le _) hik (HRR.out.below h)).mono ?_
          rintro e w' ⟨u, rfl, ho, hb⟩
          rw [Nat.sub_zero, List.drop_zero] at ho
          obtain ⟨ua, uc, hu⟩ := ho.form
          rw [hlt] at hu
          subst hu
          exact ⟨ua, uc, rfl, ho, hb⟩
        have hd0 : (((0 : Nat) : Int) != 0) = false := by simp
        clear y1 q5 x5 s5
        go_wp2_with fail
        go_region_held3 (fun w' => w'.cell? ⟨w.heap.size, 0, none⟩ = some (.int .i64 f) ∧ w'.cell? ⟨w.heap.size, 1, none⟩ = some (.slice (some ⟨g, o, none⟩) k c1)) (go_keep)
          (first
            | (go_at_call 46; refine (HC1.out _ ?_).mono ?_; (first | exact (Below.refl _ _).drew | exact HQ5.out.drew); rintro e w5 ⟨ua, uc, rfl, ho, hb⟩; have HO5 := hide ho; have HB5 := hide hb; have m0 : w5.cell? ⟨w.heap.size, 0, none⟩ = some (.int .i64 f) := (by first | exact ((HH1.out.below HQ5.out).drew.below hb).c0 | exact (HH1.out.drew.below hb).c0); have m1 : w5.cell? ⟨w.heap.size, 1, none⟩ = some (.slice (some ⟨g, o, none⟩) k c1) := (by first | exact ((HH1.out.below HQ5.out).drew.below hb).c1 | exact (HH1.out.drew.below hb).c1); try (have m2 := (HX5.out.drew.below hb).c0; have m3 := (HX5.out.drew.below hb).c1; have m4 := (HX5.out.drew.below hb).free 0; have m5 := (HX5.out.drew.below hb).free 1); have m6 := World.new_ne w5 _ m0; clear ho hb))
        all_goals first
          | (have hx := RowAt.new w5 #[.int .i64 f, .slice ua i uc] 27
             have hq := below_new w5 (.cells #[.int .i64 f, .slice ua i uc] 27)
             have hb7 : Below wr.heap.size wr (w5.alloc (.cells #[.int .i64 f, .slice ua i uc] 27)) := Below.next (undrewB HB5.out) hq
             have ho7 : LkO (w5.alloc (.cells #[.int .i64 f, .slice ua i uc] 27)) wr.heap.size (.slice ua i uc) (l.take i) := HO5.out.below hq
             have hsz7 : wr.heap.size ≤ w5.heap.size := HB5.out.size
             generalize w5.alloc (.cells #[.int .i64 f, .slice ua i uc] 27) = W7 at *
             obtain ⟨B9, hB9⟩ : ∃ B, B = w5.heap.size := ⟨_, rfl⟩
             rw [← hB9] at hx hsz7 ⊢
             have HBB7 := hide hsz7
             clear hq)
          | (have hx := ((HX5.out.drew.below HB5.out).two (.int .i64 f) (.slice ua i uc))
             have hb7 : Below wr.heap.size wr ((w5.setCell ⟨wr.heap.size, 0, none⟩ (.int .i64 f)).setCell ⟨wr.heap.size, 1, none⟩ (.slice ua i uc)) := below_two (Below.next HQ5.out (undrewB HB5.out)) (Nat.le_refl _)
             have ho7 : LkO ((w5.setCell ⟨wr.heap.size, 0, none⟩ (.int .i64 f)).setCell ⟨wr.heap.size, 1, none⟩ (.slice ua i uc)) wr.heap.size (.slice ua i uc) (l.take i) := (HO5.out.put2 (g := wr.heap.size) (by have := HS5.out; show wr.heap.size < W5.heap.size; omega) (.int .i64 f) (.slice ua i uc)).mono (by have := HS5.out; show wr.heap.size ≤ W5.heap.size; omega)
             generalize (w5.setCell ⟨wr.heap.size, 0, none⟩ (.int .i64 f)).setCell ⟨wr.heap.size, 1, none⟩ (.slice ua i uc) = W7 at *
             obtain ⟨B9, hB9⟩ : ∃ B, B = wr.heap.size := ⟨_, rfl⟩
             rw [← hB9] at hx ⊢
             have HBB7 : Hid (wr.heap.size ≤ B9) := (by rw [hB9]; exact Nat.le_refl _))
        all_goals
          have HX7 := hide hx
          have HB7 := hide hb7
          have HO7 := hide ho7
          clear hx hb7 ho7 hB9
        all_goals
          try clear hsz7
          try clear m2 m3 m4 m5
          try clear m6
          clear m0 m1 HC1 b1 b2 z0 z1 k0 k1 HO5 HB5 HX5 HQ5 hW5
          have d1 : W7.cell? ⟨g, o + i * 2, none⟩ = some (.string p.1) := (HB7.out.cell (p := ⟨g, o + i * 2, none⟩) (World.block_lt_of_cell? wr _ HD.out.1)).trans HD.out.1
          have d2 : W7.cell? ⟨g, o + i * 2 + 1, none⟩ = some (.int .i64 p.2) := (HB7.out.cell (p := ⟨g, o + i * 2 + 1, none⟩) (World.block_lt_of_cell? wr _ HD.out.2)).trans HD.out.2
          have hgl : g < wr.heap.size := World.block_lt_of_cell? wr _ HD.out.1
          have HD7 : Hid (W7.cell? ⟨g, o + i * 2, none⟩ = some (.string p.1) ∧ W7.cell? ⟨g, o + i * 2 + 1, none⟩ = some (.int .i64 p.2)) := ⟨d1, d2⟩
          have y1 := HH1.out.below HB7.out
          have k1 := y1.c1
          have q5 := below_new W7 (.cells #[.int .i64 0, .slice none 0 0] 27)
          have x5 := RowAt.new W7 #[.int .i64 0, .slice none 0 0] 27
          have s5 : (W7.alloc (.cells #[.int .i64 0, .slice none 0 0] 27)).heap.size = W7.heap.size + 1 := by simp
          generalize hW8 : W7.alloc (.cells #[.int .i64 0, .slice none 0 0] 27) = W8 at *
          have HX8 := hide x5
          have HQ8 := hide q5
          have z0 : W8.cell? ⟨g, o + i * 2 + 1, none⟩ = some (.int .i64 p.2) := (q5.cell (p := ⟨g, o + i * 2 + 1, none⟩) (World.block_lt_of_cell? W7 _ d2)).trans d2
          have z1 := (y1.below q5).c1
          have HS8 : Hid (W8.heap.size = W7.heap.size + 1 ∧ w.heap.size + 3 ≤ wr.heap.size ∧ wr.heap.size ≤ W7.heap.size ∧ g < wr.heap.size) := by show _ ∧ _ ∧ _ ∧ _; have := HSZ.out; have := HB2.out.size; have := HB7.out.size; omega
          have b1 : ¬ w.heap.size = W7.heap.size := by have := HS8.out; omega
          have b2 : ¬ W7.heap.size = w.heap.size := by have := HS8.out; omega
          have b3 : ¬ g = W7.heap.size := by have := HS8.out; omega
          have b4 : ¬ W7.heap.size = g := by have := HS8.out; omega
          have HC2 : Hid (∀ W, Below W7.heap.size W7 W → Calls Tryd.prog 46 #[.slice (some ⟨g, o, none⟩) k c1, .int .i64 (q : Int), .int .i64 (k : Int)] W fun e w' => ∃ va vc, e = .returned (.slice va (k - q) vc) ∧ LkO w' W.heap.size (.slice va (k - q) vc) (l.drop q) ∧ Below W.heap.size W w') := fun W h => by
            have hlt : (l.drop q).length = k - q := by rw [List.length_drop, ← HKL.out]
            refine (some_any _ l q k W (by rw [← HKL.out]; exact hm) hqk (by rw [← HKL.out]; exact Nat.le_refl _) ((HRR.out.below HB7.out).below h)).mono ?_
            rintro e w' ⟨u, rfl, ho, hb⟩
            rw [List.take_of_length_le (by rw [hlt]; exact Nat.le_refl _)] at ho
            obtain ⟨ua, uc, hu⟩ := ho.form
            rw [hlt] at hu
            subst hu
            exact ⟨ua, uc, rfl, ho, hb⟩
          generalize k - q = nr at *
          clear q5 x5 y1 s5 hgl
          go_wp2_with fail
          go_region_held3 (fun w' => w'.cell? ⟨g, o + i * 2 + 1, none⟩ = some (.int .i64 p.2) ∧ w'.cell? ⟨w.heap.size, 1, none⟩ = some (.slice (some ⟨g, o, none⟩) k c1)) (go_keep)
            (first
              | (go_at_call 46; refine (HC2.out _ ?_).mono ?_; (first | exact (Below.refl _ _).drew | exact HQ8.out.drew); rintro e w8 ⟨va, vc, rfl, ho, hb⟩; have HO8 := hide ho; have HB8 := hide hb; have m0 : w8.cell? ⟨g, o + i * 2 + 1, none⟩ = some (.int .i64 p.2) := (by first | exact ((undrewB hb).cell (p := ⟨g, o + i * 2 + 1, none⟩) (World.block_lt_of_cell? W8 _ z0)).trans z0 | exact ((undrewB hb).cell (p := ⟨g, o + i * 2 + 1, none⟩) (World.block_lt_of_cell? W7 _ d2)).trans d2); have m1 : w8.cell? ⟨w.heap.size, 1, none⟩ = some (.slice (some ⟨g, o, none⟩) k c1) := (by first | exact (((HH1.out.below HB7.out).below HQ8.out).drew.below hb).c1 | exact ((HH1.out.below HB7.out).drew.below hb).c1); try (have m2 := (HX8.out.drew.below hb).c0; have m3 := (HX8.out.drew.below hb).c1; have m4 := (HX8.out.drew.below hb).free 0; have m5 := (HX8.out.drew.below hb).free 1); have m6 := World.new_ne w8 _ m0; have m7 := World.new_ne w8 _ m1; clear ho hb))
        all_goals first
          | (have hx := RowAt.new w8 #[.int .i64 p.2, .slice va nr vc] 27
             have hq := below_new w8 (.cells #[.int .i64 p.2, .slice va nr vc] 27)
             have hb7 : Below W7.heap.size W7 (w8.alloc (.cells #[.int .i64 p.2, .slice va nr vc] 27)) := Below.next (undrewB HB8.out) hq
             have ho7 : LkO (w8.alloc (.cells #[.int .i64 p.2, .slice va nr vc] 27)) W7.heap.size (.slice va nr vc) (l.drop q) := HO8.out.below hq
             have hsz7 : W7.heap.size ≤ w8.heap.size := HB8.out.size
             generalize w8.alloc (.cells #[.int .i64 p.2, .slice va nr vc] 27) = W9 at *
             obtain ⟨B10, hB9⟩ : ∃ B, B = w8.heap.size := ⟨_, rfl⟩
             rw [← hB9] at hx hsz7 ⊢
             have HBB9 := hide hsz7
             clear hq)
          | (have hx := ((HX8.out.drew.below HB8.out).two (.int .i64 p.2) (.slice va nr vc))
             have hb7 : Below W7.heap.size W7 ((w8.setCell ⟨W7.heap.size, 0, none⟩ (.int .i64 p.2)).setCell ⟨W7.heap.size, 1, none⟩ (.slice va nr vc)) := below_two (Below.next HQ8.out (undrewB HB8.out)) (Nat.le_refl _)
             have ho7 : LkO ((w8.setCell ⟨W7.heap.size, 0, none⟩ (.int .i64 p.2)).setCell ⟨W7.heap.size, 1, none⟩ (.slice va nr vc)) W7.heap.size (.slice va nr vc) (l.drop q) := (HO8.out.put2 (g := W7.heap.size) (by have := HS8.out; show W7.heap.size < W8.heap.size; omega) (.int .i64 p.2) (.slice va nr vc)).mono (by have := HS8.out; show W7.heap.size ≤ W8.heap.size; omega)
             generalize (w8.setCell ⟨W7.heap.size, 0, none⟩ (.int .i64 p.2)).setCell ⟨W7.heap.size, 1, none⟩ (.slice va nr vc) = W9 at *
             obtain ⟨B10, hB9⟩ : ∃ B, B = W7.heap.size := ⟨_, rfl⟩
             rw [← hB9] at hx ⊢
             have HBB9 : Hid (W7.heap.size ≤ B10) := (by rw [hB9]; exact Nat.le_refl _))
        all_goals
          have HX9 := hide hx
          have HB9 := hide hb7
          have HO9 := hide ho7
          clear hx hb7 ho7 hB9
        all_goals
          try clear hsz7
          try clear m2 m3 m4 m5
          try clear m6 m7
          clear m0 m1 HC2 b1 b2 b3 b4 z0 z1 k1 d1 d2 HO8 HB8 HX8 HQ8 hW8
          have y9 := HX7.out.below HB9.out
          have y0 := (HH1.out.below HB7.out).below HB9.out
          have y1 := (HH2.out.below HB7.out).below HB9.out
          have y2 := (HH3.out.below HB7.out).below HB9.out
          have e0 := y0.c1
          have e1 := y9.c0
          have e2 := y9.c1
          have e3 : W9.cell? ⟨g, o + i * 2, none⟩ = some (.string p.1) := (HB9.out.cell (p := ⟨g, o + i * 2, none⟩) (World.block_lt_of_cell? W7 _ HD7.out.1)).trans HD7.out.1
          have e4 := HX9.out.c0
          have e5 := HX9.out.c1
          have e6 := y1.c0
          have e7 := y1.c1
          have e8 := y2.c0
          have e9 := y2.c1
          have f1 := y1.free 0
          have f2 := y1.free 1
          have f3 := y2.free 0
          have f4 := y2.free 1
          have hgw : g < w.heap.size := HGW.out i (by omega) g o rfl
          have HSS : Hid (W1.heap.size = w.heap.size + 1 ∧ W2.heap.size = w.heap.size + 2 ∧ w.heap.size + 3 ≤ wr.heap.size ∧ w.heap.size + 3 ≤ B9 ∧ w.heap.size + 3 ≤ B10 ∧ w.heap.size + 3 ≤ W7.heap.size ∧ g < w.heap.size) := by
            have h1 := HSZ.out; have h2 := HBB7.out; have h3 := HBB9.out; have h5 := HB7.out.size; have h6 := HS8.out
            exact ⟨h1.2.2, h1.2.1, h6.2.1, by omega, by omega, by omega, hgw⟩
          have g1 : ¬ B9 = W1.heap.size := by have := HSS.out; omega
          have g2 : ¬ W1.heap.size = B9 := by have := HSS.out; omega
          have g3 : ¬ B9 = W2.heap.size := by have := HSS.out; omega
          have g4 : ¬ W2.heap.size = B9 := by have := HSS.out; omega
          have g5 : ¬ B10 = W1.heap.size := by have := HSS.out; omega
          have g6 : ¬ W1.heap.size = B10 := by have := HSS.out; omega
          have g7 : ¬ B10 = W2.heap.size := by have := HSS.out; omega
          have g8 : ¬ W2.heap.size = B10 := by have := HSS.out; omega
          have g9 : ¬ g = W1.heap.size := by have := HSS.out; omega
          have g10 : ¬ W1.heap.size = g := by have := HSS.out; omega
          have g11 : ¬ g = W2.heap.size := by have := HSS.out; omega
          have g12 : ¬ W2.heap.size = g := by have := HSS.out; omega
          have g13 : ¬ W1.heap.size = W2.heap.size := by have := HSS.out; omega
          have g14 : ¬ W2.heap.size = W1.heap.size := by have := HSS.out; omega
          have g15 : ¬ w.heap.size = W2.heap.size := by have := HSS.out; omega
          have g16 : ¬ W2.heap.size = w.heap.size := by have := HSS.out; omega
          have g17 : ¬ w.heap.size = W1.heap.size := by have := HSS.out; omega
          have g18 : ¬ W1.heap.size = w.heap.size := by have := HSS.out; omega
          have HY1 := hide y1
          have HY2 := hide y2
          clear y9 y0 y1 y2 hgw
          go_wp2_with fail
          go_region_held3 (fun w' => w'.cell? ⟨B9, 0, none⟩ = some (.int .i64 f) ∧ w'.cell? ⟨B9, 1, none⟩ = some (.slice ua i uc) ∧ w'.cell? ⟨g, o + i * 2, none⟩ = some (.string p.1) ∧ w'.cell? ⟨w.heap.size, 1, none⟩ = some (.slice (some ⟨g, o, none⟩) k c1) ∧ w'.cell? ⟨B10, 0, none⟩ = some (.int .i64 p.2) ∧ w'.cell? ⟨B10, 1, none⟩ = some (.slice va nr vc)) (go_keep) (fail)
        all_goals
          have r2 : RowAt (((((W9.setCell ⟨W1.heap.size, 0, none⟩ (.int .i64 f)).setCell ⟨W1.heap.size, 1, none⟩ (.slice ua i uc)).setCell ⟨W2.heap.size, 0, none⟩ (.int .i64 p.2)).setCell ⟨W2.heap.size, 1, none⟩ (.slice va nr vc))) W1.heap.size #[.int .i64 f, .slice ua i uc] 27 := ((HY1.out.two _ _).other g13 _).other g13 _
          have r3 : RowAt (((((W9.setCell ⟨W1.heap.size, 0, none⟩ (.int .i64 f)).setCell ⟨W1.heap.size, 1, none⟩ (.slice ua i uc)).setCell ⟨W2.heap.size, 0, none⟩ (.int .i64 p.2)).setCell ⟨W2.heap.size, 1, none⟩ (.slice va nr vc))) W2.heap.size #[.int .i64 p.2, .slice va nr vc] 27 := ((HY2.out.other g14 _).other g14 _).two _ _
          clear e0 e1 e2 e3 e4 e5 e6 e7 e8 e9 f1 f2 f3 f4
          go_wp2_with fail
          have o1 := ((HO7.out.below HB9.out).put2 (g := W1.heap.size) (by have := HSS.out; omega) (.int .i64 f) (.slice ua i uc)).put2 (g := W2.heap.size) (by have := HSS.out; omega) (.int .i64 p.2) (.slice va nr vc)
          have o2 := (HO9.out.put2 (g := W1.heap.size) (by have := HSS.out; omega) (.int .i64 f) (.slice ua i uc)).put2 (g := W2.heap.size) (by have := HSS.out; omega) (.int .i64 p.2) (.slice va nr vc)
          refine bodyPost_ret (results_row_4 rfl _ _ W1.heap.size W2.heap.size 27 27 _ _ (0, 0) (0, 0) _ _ rfl rfl r2.drew r3.drew Tryd.underlying27 Tryd.underlying27 rfl rfl (by kernel_rfl) (by kernel_rfl)) rfl ⟨⟨i, 0, p.1, f, p.2, .slice ua i uc, .slice va nr vc, rfl, HCN.out, .inl ⟨rfl, ?_, ?_, ?_⟩⟩, ?_⟩
          · obtain ⟨h, he⟩ := HI.out
            exact ⟨h, rfl, by rw [he], by rw [he]⟩
          · exact (o1.mono (by have := HSS.out; omega)).drew
          · rw [← HQI.out]; exact (o2.mono (by have := HSS.out; omega)).drew
          · exact below_drewB (below_two (below_two (Below.next HQ.out (Below.next HB2.out (Below.next HB7.out HB9.out))) (by have := HSS.out; omega)) (by have := HSS.out; omega))
      · have HCZ := hide hc
        have hd0 : ((c : Int) != 0) = true := by rw [bne_iff_ne]; omega
        have r1 := hx2.c0
        have r2 := hx2.c1
        have r3 := hx3.c0
        have r4 := hx3.c1
        have z1 := hx2.free 0
        have z2 := hx2.free 1
        have z3 := hx3.free 0
        have z4 := hx3.free 1
        have b1 : ¬ W1.heap.size = W2.heap.size := by have := HSZ.out; omega
        have b2 : ¬ W2.heap.size = W1.heap.size := by have := HSZ.out; omega
        have HXX2 := hide hx2
        have HXX3 := hide hx3
        clear hcn hc hx1 hx2 hx3
        go_wp2_with fail
        have e2 : RowAt (((((wr.setCell ⟨W1.heap.size, 0, none⟩ (.int .i64 0)).setCell ⟨W1.heap.size, 1, none⟩ (.slice none 0 0)).setCell ⟨W2.heap.size, 0, none⟩ (.int .i64 0)).setCell ⟨W2.heap.size, 1, none⟩ (.slice none 0 0))) W1.heap.size #[.int .i64 0, .slice none 0 0] 27 := ((HXX2.out.two _ _).other b1 _).other b1 _
        have e3 : RowAt (((((wr.setCell ⟨W1.heap.size, 0, none⟩ (.int .i64 0)).setCell ⟨W1.heap.size, 1, none⟩ (.slice none 0 0)).setCell ⟨W2.heap.size, 0, none⟩ (.int .i64 0)).setCell ⟨W2.heap.size, 1, none⟩ (.slice none 0 0))) W2.heap.size #[.int .i64 0, .slice none 0 0] 27 := ((HXX3.out.other b2 _).other b2 _).two _ _
        refine bodyPost_ret (results_row_4 rfl _ _ W1.heap.size W2.heap.size 27 27 _ _ (0, 0) (0, 0) _ _ rfl rfl e2 e3 Tryd.underlying27 Tryd.underlying27 rfl rfl (by kernel_rfl) (by kernel_rfl)) rfl ⟨⟨i, c, _, 0, 0, _, _, rfl, HCN.out, .inr ⟨HCZ.out, rfl, rfl, rfl, rfl, rfl⟩⟩, ?_⟩
        exact below_two (below_two (Below.next HQ.out HB2.out) (by have := HSZ.out; omega)) (by have := HSZ.out; omega)

end Go.Proofs.YtagldlchamlpdaaDoor
