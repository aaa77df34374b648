import Derived.Test.YtnaedmmfiiebaaaGreatDoorBEditF
import Derived.Deep.RegionLaw
import Derived.Test.YtnaedmmfiiebaaaGreatDoorG06
import Derived.Deep.RegionHeld3
namespace Go.Proofs.YtnaedmmfiiebaaaGreatDoor.B
open Go.RowKit

set_option maxHeartbeats 8000000 in
set_option maxRecDepth 20000 in
theorem binsA_any (A : Nat → Addr) (f i : Int) (v : Value) (l : List Lk) (key : ByteArray) (c : Int) (w : World) (hm : l.length ≤ 5864062014800) (hr : LkR w v l) (hE : ErrA A w) :
    Calls Tryz.prog 203 #[.agg #[.int .i64 f, v], .int .i64 i, .agg #[.string key, .int .i64 c]] w fun e w' =>
      ((hasC l i = true ∧ ∃ u, e = .returned (.tuple #[.agg #[.int .i64 f, u], .nilIface]) ∧ LkO w' w.heap.size u (insL l i.toNat (key, c))) ∨
       (hasC l i = false ∧ e = .returned (.tuple #[.agg #[.int .i64 0, .slice none 0 0], .iface 360 (.pointer (some (A 0)))]))) ∧ Below w.heap.size w w' := by
  obtain ⟨a, cap, hv⟩ := hr.form
  subst hv
  obtain ⟨n, hn⟩ : ∃ n, n = l.length := ⟨_, rfl⟩
  rw [← hn] at hm hr ⊢
  have q0 := below_new w (.cells #[.int .i64 f, .slice a n cap] 150)
  have x0 := RowAt.new w #[.int .i64 f, .slice a n cap] 150
  have s0 : (w.alloc (.cells #[.int .i64 f, .slice a n cap] 150)).heap.size = w.heap.size + 1 := by simp
  generalize hWa : w.alloc (.cells #[.int .i64 f, .slice a n cap] 150) = Wa at *
  have qa := below_new Wa (.cells #[.string key, .int .i64 c] 179)
  have xa := RowAt.new Wa #[.string key, .int .i64 c] 179
  have sa : (Wa.alloc (.cells #[.string key, .int .i64 c] 179)).heap.size = Wa.heap.size + 1 := by simp
  generalize hW0 : Wa.alloc (.cells #[.string key, .int .i64 c] 179) = W0 at *
  have q1 := below_new W0 (.cells #[.int .i64 0, .slice none 0 0] 150)
  have x1 := RowAt.new W0 #[.int .i64 0, .slice none 0 0] 150
  have s1 : (W0.alloc (.cells #[.int .i64 0, .slice none 0 0] 150)).heap.size = W0.heap.size + 1 := by simp
  generalize hW1 : W0.alloc (.cells #[.int .i64 0, .slice none 0 0] 150) = W1 at *
  have HX0 := hide (x0.below (Below.next qa q1))
  have HXA := hide (xa.below q1)
  have HX1 := hide x1
  have hq := Below.next (Below.next q0 qa) q1
  have HQ := hide hq
  have HR := hide (hr.below hq)
  have HE := hide (hE.below hq)
  have HS : Hid (Wa.heap.size = w.heap.size + 1 ∧ W0.heap.size = w.heap.size + 2 ∧ W1.heap.size = w.heap.size + 3) := ⟨s0, by rw [sa, s0], by rw [s1, sa, s0]⟩
  have b1 : ¬ w.heap.size = W0.heap.size := by omega
  have b2 : ¬ W0.heap.size = w.heap.size := by omega
  have hg0 : 0 < w.heap.size := World.block_lt_of_cell? w _ hE
  have b3 : ¬ 0 = W0.heap.size := by omega
  have b4 : ¬ W0.heap.size = 0 := by omega
  have HN := hide hn
  have HH := hide (bhasc_any f i _ l W1 HR.out)
  have HCL : Hid (∀ W, Below W1.heap.size W1 W → Calls Tryz.prog 209 #[.slice a n cap] W fun e w' => ∃ ua uc, e = .returned (.slice ua n uc) ∧ LkO w' W.heap.size (.slice ua n uc) l ∧ Below W.heap.size W w') := fun W h => by
    refine (kclone_any (.slice a n cap) l W (by have := HN.out; omega) (HR.out.below h)).mono ?_
    rintro e w' ⟨u, rfl, ho, hb⟩
    obtain ⟨ua, uc, hu⟩ := ho.form
    rw [← HN.out] at hu
    subst hu
    exact ⟨ua, uc, rfl, ho, hb⟩
  have HIN : Hid (∀ (k : Nat) (W : World) (ua : Option Addr) (uc base vb : Nat), k ≤ n → W1.heap.size ≤ base → base ≤ W.heap.size → LkO W base (.slice ua n uc) l → RowAt W vb #[.string key, .int .i64 c] 179 → (Value.slice ua n uc).ownBlock ≠ some vb → Below W1.heap.size W1 W → Calls Tryz.prog 231 #[.slice ua n uc, .int .i64 (k : Int), .slice (some ⟨vb, 0, none⟩) 1 1] W fun e w' => ∃ va vc, e = .returned (.slice va (n + 1) vc) ∧ LkO w' W1.heap.size (.slice va (n + 1) vc) (insL l k (key, c)) ∧ Below W1.heap.size W1 w') := fun k W ua uc base vb hk hb1 hb2 ho hrow hne h => by
    refine (kinsert_any base (.slice ua n uc) l k vb (key, c) W (by have := HN.out; omega) (by have := HN.out; omega) ho hb2 hrow hne).mono ?_
    rintro e w' ⟨u, rfl, ho, hb⟩
    obtain ⟨va, vc, hu⟩ := ho.form
    rw [insL_len l k _ (by have := HN.out; omega), ← HN.out] at hu
    subst hu
    exact ⟨va, vc, rfl, ho.mono hb1, h.trans (hb.mono hb1)⟩
  have p0 := HX0.out.c0
  have p1 := HX0.out.c1
  clear q0 x0 qa xa q1 x1 hr hE hn s0 s1 sa hg0 hq
  go_enter Tryz.func203, Tryz.ntmps203
  go_wp2_with fail
  refine HH.out.mono ?_
  rintro e w1 ⟨rfl, hb1⟩
  have HB1 := hide hb1
  clear hb1 HH p0 p1
  by_cases hg : hasC l i = true
  · rw [hg]
    have HG := hide hg
    simp only [hasC, Bool.and_eq_true, decide_eq_true_eq] at hg
    obtain ⟨k, hk⟩ : ∃ k : Nat, i = (k : Int) := ⟨i.toNat, by omega⟩
    subst hk
    have HK : Hid (k ≤ n) := by have := HN.out; show k ≤ n; omega
    have HB1s := hide HB1.out.size
    have p0 := (HX0.out.below HB1.out).c0
    have p1 := (HX0.out.below HB1.out).c1
    have p2 := (HXA.out.below HB1.out).c0
    have p3 := (HXA.out.below HB1.out).c1
    have p4 := World.new_ne w1 _ p1
    clear hg
    go_wp2_with fail
    refine wp_region_held_drew (S := (fun w' => w'.cell? ⟨Wa.heap.size, 0, none⟩ = some (.string key) ∧ w'.cell? ⟨Wa.heap.size, 1, none⟩ = some (.int .i64 c))) (by kernel_rfl) ⟨p2, p3⟩ (fun hHeld => ?_)
    refine wpAnyH_take (i := 0) (oi := { dst := some 14, op := Op.fieldAddr 150 (Operand.tmp 3) 1, type := 0, pos := "branch.go:226", after := #[], guard := none }) (v := ?_) rfl (by kernel_rfl) (by kernel_rfl) (by kernel_rfl) (fun _ _ _ h => h) (Or.inl ⟨by rfl, ?_⟩) (by assumption) ?_
    rotate_left
    · (intro w' hSw; (try dsimp only at hSw); go_simp; try with_reducible rfl)
    simp only [Act.put, List.setIfInBounds_toArray, List.set_cons_zero, List.set_cons_succ]
    refine wpAnyH_take (i := 3) (oi := { dst := some 17, op := Op.move (Operand.tmp 1), type := 3, pos := "branch.go:226", after := #[], guard := none }) (v := ?_) rfl (by kernel_rfl) (by kernel_rfl) (by kernel_rfl) (fun _ _ _ h => h) (Or.inl ⟨by rfl, ?_⟩) (by assumption) ?_
    rotate_left
    · (intro w' hSw; (try dsimp only at hSw); go_simp; try with_reducible rfl)
    simp only [Act.put, List.setIfInBounds_toArray, List.set_cons_zero, List.set_cons_succ]
    refine wpAnyH_take (i := 4) (oi := { dst := some 18, op := Op.load 179 (Operand.tmp 5), type := 179, pos := "branch.go:226", after := #[], guard := none }) (v := ?_) rfl (by kernel_rfl) (by kernel_rfl) (by kernel_rfl) (fun _ _ _ h => h) (Or.inl ⟨by rfl, ?_⟩) (by assumption) ?_
    rotate_left
    · (intro w' hSw; (try dsimp only at hSw); go_simp; try with_reducible rfl)
    simp only [Act.put, List.setIfInBounds_toArray, List.set_cons_zero, List.set_cons_succ]
    refine wpAnyH_ready (rs := [1, 5]) (by kernel_rfl) (by simp) ?_
    refine AllReadyH.cons (o := { dst := some 15, op := Op.load 148 (Operand.tmp 14), type := 148, pos := "branch.go:226", after := #[{ on := 0, ground := Ground.data }], guard := none }) rfl (fun K hK => ?_) (AllReadyH.cons (o := { dst := some 19, op := Op.buildSlice 148 1 #[(0, Operand.tmp 18)], type := 148, pos := "branch.go:226", after := #[{ on := 4, ground := Ground.data }], guard := none }) rfl (fun K hK => ?_) AllReadyH.nil)
    · clear hHeld
      go_simp
      refine hK.out _ _ ⟨p2, p3⟩ (fun hHeld => ?_)
      clear hK K
      refine wpAnyH_ready (rs := [2, 5]) (by kernel_rfl) (by simp) ?_
      refine AllReadyH.cons (o := { dst := some 16, op := Op.call { callee := Callee.value (Operand.func 209), args := #[Operand.tmp 15], argTypes := #[148] }, type := 148, pos := "branch.go:226", after := #[{ on := 1, ground := Ground.data }], guard := none }) rfl (fun K hK => ?_) (AllReadyH.cons (o := { dst := some 19, op := Op.buildSlice 148 1 #[(0, Operand.tmp 18)], type := 148, pos := "branch.go:226", after := #[{ on := 4, ground := Ground.data }], guard := none }) rfl (fun K hK => ?_) AllReadyH.nil)
      · clear hHeld
        go_simp
        refine (HCL.out _ HB1.out.drew).mono ?_
        rintro e w2 ⟨ua, uc, rfl, ho2, hb2⟩
        have HB2 := hide (Below.next HB1.out (undrewB hb2))
        have HO2 := hide ho2
        have HS2 := hide (show w1.heap.size ≤ w2.heap.size from hb2.size)
        have d2 := (HXA.out.below HB2.out).c0
        have d3 := (HXA.out.below HB2.out).c1
        clear ho2 hb2
        refine hK.out _ _ ⟨d2, d3⟩ (fun hHeld => ?_)
        clear hK K
        refine wpAnyH_ready (rs := [5]) (by kernel_rfl) (by simp) ?_
        refine AllReadyH.cons (o := { dst := some 19, op := Op.buildSlice 148 1 #[(0, Operand.tmp 18)], type := 148, pos := "branch.go:226", after := #[{ on := 4, ground := Ground.data }], guard := none }) rfl (fun K hK => ?_) AllReadyH.nil
        clear hHeld
        go_simp
        have q5 := below_new w2 (.cells #[.string key, .int .i64 c] 179)
        have x5 := RowAt.new w2 #[.string key, .int .i64 c] 179
        have HB5 := hide (Below.next HB2.out q5)
        have HO5 := hide (HO2.out.below q5)
        have hne5 : (Value.slice ua n uc).ownBlock ≠ some w2.heap.size := fun h => by have := (HO2.out.blk _ h).2; omega
        have HK5 := hide (HIN.out k (w2.alloc (.cells #[.string key, .int .i64 c] 179)) ua uc w1.heap.size w2.heap.size HK.out HB1s.out (Nat.le_trans HS2.out q5.size) HO5.out x5 hne5 HB5.out)
        have d2 := (HXA.out.below HB5.out).c0
        have d3 := (HXA.out.below HB5.out).c1
        generalize w2.alloc (.cells #[.string key, .int .i64 c] 179) = W5 at *
        clear q5 x5 hne5
        refine hK.out _ _ ⟨d2, d3⟩ (fun hHeld => ?_)
        clear hK K
        refine wpAnyH_ready (rs := [6]) (by kernel_rfl) (by simp) ?_
        refine AllReadyH.cons (o := { dst := some 20, op := Op.call { callee := Callee.value (Operand.func 231), args := #[Operand.tmp 16, Operand.tmp 17, Operand.tmp 19], argTypes := #[148, 3, 148] }, type := 148, pos := "branch.go:226", after := #[{ on := 2, ground := Ground.data }, { on := 3, ground := Ground.data }, { on := 5, ground := Ground.data }, { on := 2, ground := Ground.chain }], guard := none }) rfl (fun K hK => ?_) AllReadyH.nil
        clear hHeld
        go_simp
        refine HK5.out.mono ?_
        rintro e w3 ⟨va, vc, rfl, ho3, hb3⟩
        have HB3 := hide hb3
        have HO3 := hide ho3
        have x0 := HX0.out.below hb3
        have e1 := x0.c1
        have e2 := x0.free 1
        have d2 := (HXA.out.below HB3.out).c0
        have d3 := (HXA.out.below HB3.out).c1
        clear ho3 hb3 x0
        refine hK.out _ _ ⟨d2, d3⟩ (fun hHeld => ?_)
        clear hK K
        clear d2 d3
        refine wpAnyH_take (i := 7) (oi := { dst := some 21, op := Op.fieldAddr 150 (Operand.tmp 3) 1, type := 0, pos := "branch.go:226", after := #[{ on := 0, ground := Ground.phase }, { on := 1, ground := Ground.phase }, { on := 2, ground := Ground.phase }, { on := 3, ground := Ground.phase }, { on := 4, ground := Ground.phase }, { on := 5, ground := Ground.phase }, { on := 6, ground := Ground.phase }], guard := none }) (v := ?_) rfl (by kernel_rfl) (by kernel_rfl) (by kernel_rfl) (fun _ _ _ h => h) (Or.inl ⟨by rfl, ?_⟩) (by assumption) ?_
        rotate_left
        · (intro w' hSw; (try dsimp only at hSw); go_simp; try with_reducible rfl)
        simp only [Act.put, List.setIfInBounds_toArray, List.set_cons_zero, List.set_cons_succ]
        refine wpAnyH_ready (rs := [8]) (by kernel_rfl) (by simp) ?_
        refine AllReadyH.cons (o := { dst := none, op := Op.store 148 (Operand.tmp 21) (Operand.tmp 20), type := 0, pos := "branch.go:226", after := #[{ on := 7, ground := Ground.data }, { on := 6, ground := Ground.data }, { on := 6, ground := Ground.chain }, { on := 0, ground := Ground.phase }, { on := 1, ground := Ground.phase }, { on := 2, ground := Ground.phase }, { on := 3, ground := Ground.phase }, { on := 4, ground := Ground.phase }, { on := 5, ground := Ground.phase }, { on := 6, ground := Ground.phase }], guard := none }) rfl (fun K hK => ?_) AllReadyH.nil
        clear hHeld
        go_simp
        refine hK.out _ _ ⟨?_, ?_⟩ (fun hHeld => ?_)
        · rw [World.cell?_setCell_far _ _ _ _ (by have := HS.out; show w.heap.size ≠ Wa.heap.size; omega)]; exact (HXA.out.below HB3.out).c0
        · rw [World.cell?_setCell_far _ _ _ _ (by have := HS.out; show w.heap.size ≠ Wa.heap.size; omega)]; exact (HXA.out.below HB3.out).c1
        clear hK K
        refine wpAnyH_done (by kernel_rfl) ?_ _
        clear hHeld
        have x0 := HX0.out.below HB3.out
        have x1 := HX1.out.below HB3.out
        have y0 := x0.c0
        have y3 := x1.c0
        have y4 := x1.c1
        have y5 := x1.free 0
        have y6 := x1.free 1
        have HX1' := hide x1
        clear x0 x1
        go_wp2_with fail
        have hx := HX1'.out.other (j := 1) b2 (.slice va (n + 1) vc)
        have ho := HO3.out.put (g := w.heap.size) (j := 1) (fun h => by have := (HO3.out.blk _ h).1; have := HS.out; omega) (.slice va (n + 1) vc)
        have ho2 := (ho.put2 (g := W0.heap.size) (by have := HS.out; omega) (.int .i64 f) (.slice va (n + 1) vc)).mono (b2 := w.heap.size) (by have := HS.out; omega)
        have hbw := below_two (b := W0.heap.size) (x := .int .i64 f) (y := .slice va (n + 1) vc) ((HQ.out.trans (HB3.out.mono (by have := HS.out; omega))).setCell (p := ⟨w.heap.size, 1, none⟩) (Nat.le_refl _) (.slice va (n + 1) vc)) (by have := HS.out; omega)
        exact bodyPost_ret (results_row_tmp rfl _ _ W0.heap.size 150 _ (0, 0) _ rfl (hx.two _ _) Tryz.underlying150 rfl (by kernel_rfl)) rfl ⟨.inl ⟨HG.out, _, rfl, ho2⟩, hbw⟩
      · clear hHeld
        go_simp
        have q5 := below_new w1 (.cells #[.string key, .int .i64 c] 179)
        have x5 := RowAt.new w1 #[.string key, .int .i64 c] 179
        have s5 : (w1.alloc (.cells #[.string key, .int .i64 c] 179)).heap.size = w1.heap.size + 1 := by simp
        have HB5 := hide (Below.next HB1.out q5)
        have HX5 := hide x5.drew
        have HS5 : Hid ((w1.alloc (.cells #[.string key, .int .i64 c] 179)).heap.size = w1.heap.size + 1) := s5
        have d2 := (HXA.out.below HB5.out).c0
        have d3 := (HXA.out.below HB5.out).c1
        have d1 := (HX0.out.below HB5.out).c1
        clear q5 x5 s5
        refine hK.out _ _ ⟨d2, d3⟩ (fun hHeld => ?_)
        clear hK K
        refine wpAnyH_ready (rs := [2]) (by kernel_rfl) (by simp) ?_
        refine AllReadyH.cons (o := { dst := some 16, op := Op.call { callee := Callee.value (Operand.func 209), args := #[Operand.tmp 15], argTypes := #[148] }, type := 148, pos := "branch.go:226", after := #[{ on := 1, ground := Ground.data }], guard := none }) rfl (fun K hK => ?_) AllReadyH.nil
        clear hHeld
        go_simp
        refine (HCL.out _ HB5.out.drew).mono ?_
        rintro e w2 ⟨ua, uc, rfl, ho2, hb2⟩
        have HB2 := hide (Below.next HB5.out (undrewB hb2))
        have HO2 := hide ho2
        have HXV := hide (HX5.out.below hb2)
        have hne5 : (Value.slice ua n uc).ownBlock ≠ some w1.heap.size := fun h => by have := (ho2.blk _ h).1; have := HS5.out; have e : (w1.alloc (.cells #[.string key, .int .i64 c] 179)).drew.heap.size = (w1.alloc (.cells #[.string key, .int .i64 c] 179)).heap.size := rfl; omega
        have HK5 := hide (HIN.out k w2 ua uc _ w1.heap.size HK.out (Nat.le_trans HB1s.out (by have := HS5.out; show w1.heap.size ≤ (w1.alloc (.cells #[.string key, .int .i64 c] 179)).heap.size; omega)) hb2.size HO2.out HXV.out hne5 HB2.out)
        have d2 := (HXA.out.below HB2.out).c0
        have d3 := (HXA.out.below HB2.out).c1
        clear ho2 hb2 hne5
        refine hK.out _ _ ⟨d2, d3⟩ (fun hHeld => ?_)
        clear hK K
        refine wpAnyH_ready (rs := [6]) (by kernel_rfl) (by simp) ?_
        refine AllReadyH.cons (o := { dst := some 20, op := Op.call { callee := Callee.value (Operand.func 231), args := #[Operand.tmp 16, Operand.tmp 17, Operand.tmp 19], argTypes := #[148, 3, 148] }, type := 148, pos := "branch.go:226", after := #[{ on := 2, ground := Ground.data }, { on := 3, ground := Ground.data }, { on := 5, ground := Ground.data }, { on := 2, ground := Ground.chain }], guard := none }) rfl (fun K hK => ?_) AllReadyH.nil
        clear hHeld
        go_simp
        refine HK5.out.mono ?_
        rintro e w3 ⟨va, vc, rfl, ho3, hb3⟩
        have HB3 := hide hb3
        have HO3 := hide ho3
        have x0 := HX0.out.below hb3
        have e1 := x0.c1
        have e2 := x0.free 1
        have d2 := (HXA.out.below HB3.out).c0
        have d3 := (HXA.out.below HB3.out).c1
        clear ho3 hb3 x0
        refine hK.out _ _ ⟨d2, d3⟩ (fun hHeld => ?_)
        clear hK K
        clear d2 d3
        refine wpAnyH_take (i := 7) (oi := { dst := some 21, op := Op.fieldAddr 150 (Operand.tmp 3) 1, type := 0, pos := "branch.go:226", after := #[{ on := 0, ground := Ground.phase }, { on := 1, ground := Ground.phase }, { on := 2, ground := Ground.phase }, { on := 3, ground := Ground.phase }, { on := 4, ground := Ground.phase }, { on := 5, ground := Ground.phase }, { on := 6, ground := Ground.phase }], guard := none }) (v := ?_) rfl (by kernel_rfl) (by kernel_rfl) (by kernel_rfl) (fun _ _ _ h => h) (Or.inl ⟨by rfl, ?_⟩) (by assumption) ?_
        rotate_left
        · (intro w' hSw; (try dsimp only at hSw); go_simp; try with_reducible rfl)
        simp only [Act.put, List.setIfInBounds_toArray, List.set_cons_zero, List.set_cons_succ]
        refine wpAnyH_ready (rs := [8]) (by kernel_rfl) (by simp) ?_
        refine AllReadyH.cons (o := { dst := none, op := Op.store 148 (Operand.tmp 21) (Operand.tmp 20), type := 0, pos := "branch.go:226", after := #[{ on := 7, ground := Ground.data }, { on := 6, ground := Ground.data }, { on := 6, ground := Ground.chain }, { on := 0, ground := Ground.phase }, { on := 1, ground := Ground.phase }, { on := 2, ground := Ground.phase }, { on := 3, ground := Ground.phase }, { on := 4, ground := Ground.phase }, { on := 5, ground := Ground.phase }, { on := 6, ground := Ground.phase }], guard := none }) rfl (fun K hK => ?_) AllReadyH.nil
        clear hHeld
        go_simp
        refine hK.out _ _ ⟨?_, ?_⟩ (fun hHeld => ?_)
        · rw [World.cell?_setCell_far _ _ _ _ (by have := HS.out; show w.heap.size ≠ Wa.heap.size; omega)]; exact (HXA.out.below HB3.out).c0
        · rw [World.cell?_setCell_far _ _ _ _ (by have := HS.out; show w.heap.size ≠ Wa.heap.size; omega)]; exact (HXA.out.below HB3.out).c1
        clear hK K
        refine wpAnyH_done (by kernel_rfl) ?_ _
        clear hHeld
        have x0 := HX0.out.below HB3.out
        have x1 := HX1.out.below HB3.out
        have y0 := x0.c0
        have y3 := x1.c0
        have y4 := x1.c1
        have y5 := x1.free 0
        have y6 := x1.free 1
        have HX1' := hide x1
        clear x0 x1
        go_wp2_with fail
        have hx := HX1'.out.other (j := 1) b2 (.slice va (n + 1) vc)
        have ho := HO3.out.put (g := w.heap.size) (j := 1) (fun h => by have := (HO3.out.blk _ h).1; have := HS.out; omega) (.slice va (n + 1) vc)
        have ho2 := (ho.put2 (g := W0.heap.size) (by have := HS.out; omega) (.int .i64 f) (.slice va (n + 1) vc)).mono (b2 := w.heap.size) (by have := HS.out; omega)
        have hbw := below_two (b := W0.heap.size) (x := .int .i64 f) (y := .slice va (n + 1) vc) ((HQ.out.trans (HB3.out.mono (by have := HS.out; omega))).setCell (p := ⟨w.heap.size, 1, none⟩) (Nat.le_refl _) (.slice va (n + 1) vc)) (by have := HS.out; omega)
        exact bodyPost_ret (results_row_tmp rfl _ _ W0.heap.size 150 _ (0, 0) _ rfl (hx.two _ _) Tryz.underlying150 rfl (by kernel_rfl)) rfl ⟨.inl ⟨HG.out, _, rfl, ho2⟩, hbw⟩
    · clear hHeld
      go_simp
      have q5 := below_new w1 (.cells #[.string key, .int .i64 c] 179)
      have x5 := RowAt.new w1 #[.string key, .int .i64 c] 179
      have s5 : (w1.alloc (.cells #[.string key, .int .i64 c] 179)).heap.size = w1.heap.size + 1 := by simp
      have HB5 := hide (Below.next HB1.out q5)
      have HX5 := hide x5.drew
      have HS5 : Hid ((w1.alloc (.cells #[.string key, .int .i64 c] 179)).heap.size = w1.heap.size + 1) := s5
      have d2 := (HXA.out.below HB5.out).c0
      have d3 := (HXA.out.below HB5.out).c1
      have d1 := (HX0.out.below HB5.out).c1
      clear q5 x5 s5
      refine hK.out _ _ ⟨d2, d3⟩ (fun hHeld => ?_)
      clear hK K
      refine wpAnyH_ready (rs := [1]) (by kernel_rfl) (by simp) ?_
      refine AllReadyH.cons (o := { dst := some 15, op := Op.load 148 (Operand.tmp 14), type := 148, pos := "branch.go:226", after := #[{ on := 0, ground := Ground.data }], guard := none }) rfl (fun K hK => ?_) AllReadyH.nil
      clear hHeld
      go_simp
      refine hK.out _ _ ⟨d2, d3⟩ (fun hHeld => ?_)
      clear hK K
      refine wpAnyH_ready (rs := [2]) (by kernel_rfl) (by simp) ?_
      refine AllReadyH.cons (o := { dst := some 16, op := Op.call { callee := Callee.value (Operand.func 209), args := #[Operand.tmp 15], argTypes := #[148] }, type := 148, pos := "branch.go:226", after := #[{ on := 1, ground := Ground.data }], guard := none }) rfl (fun K hK => ?_) AllReadyH.nil
      clear hHeld
      go_simp
      refine (HCL.out _ HB5.out.drew).mono ?_
      rintro e w2 ⟨ua, uc, rfl, ho2, hb2⟩
      have HB2 := hide (Below.next HB5.out (undrewB hb2))
      have HO2 := hide ho2
      have HXV := hide (HX5.out.below hb2)
      have hne5 : (Value.slice ua n uc).ownBlock ≠ some w1.heap.size := fun h => by have := (ho2.blk _ h).1; have := HS5.out; have e : (w1.alloc (.cells #[.string key, .int .i64 c] 179)).drew.heap.size = (w1.alloc (.cells #[.string key, .int .i64 c] 179)).heap.size := rfl; omega
      have HK5 := hide (HIN.out k w2 ua uc _ w1.heap.size HK.out (Nat.le_trans HB1s.out (by have := HS5.out; show w1.heap.size ≤ (w1.alloc (.cells #[.string key, .int .i64 c] 179)).heap.size; omega)) hb2.size HO2.out HXV.out hne5 HB2.out)
      have d2 := (HXA.out.below HB2.out).c0
      have d3 := (HXA.out.below HB2.out).c1
      clear ho2 hb2 hne5
      refine hK.out _ _ ⟨d2, d3⟩ (fun hHeld => ?_)
      clear hK K
      refine wpAnyH_ready (rs := [6]) (by kernel_rfl) (by simp) ?_
      refine AllReadyH.cons (o := { dst := some 20, op := Op.call { callee := Callee.value (Operand.func 231), args := #[Operand.tmp 16, Operand.tmp 17, Operand.tmp 19], argTypes := #[148, 3, 148] }, type := 148, pos := "branch.go:226", after := #[{ on := 2, ground := Ground.data }, { on := 3, ground := Ground.data }, { on := 5, ground := Ground.data }, { on := 2, ground := Ground.chain }], guard := none }) rfl (fun K hK => ?_) AllReadyH.nil
      clear hHeld
      go_simp
      refine HK5.out.mono ?_
      rintro e w3 ⟨va, vc, rfl, ho3, hb3⟩
      have HB3 := hide hb3
      have HO3 := hide ho3
      have x0 := HX0.out.below hb3
      have e1 := x0.c1
      have e2 := x0.free 1
      have d2 := (HXA.out.below HB3.out).c0
      have d3 := (HXA.out.below HB3.out).c1
      clear ho3 hb3 x0
      refine hK.out _ _ ⟨d2, d3⟩ (fun hHeld => ?_)
      clear hK K
      clear d2 d3
      refine wpAnyH_take (i := 7) (oi := { dst := some 21, op := Op.fieldAddr 150 (Operand.tmp 3) 1, type := 0, pos := "branch.go:226", after := #[{ on := 0, ground := Ground.phase }, { on := 1, ground := Ground.phase }, { on := 2, ground := Ground.phase }, { on := 3, ground := Ground.phase }, { on := 4, ground := Ground.phase }, { on := 5, ground := Ground.phase }, { on := 6, ground := Ground.phase }], guard := none }) (v := ?_) rfl (by kernel_rfl) (by kernel_rfl) (by kernel_rfl) (fun _ _ _ h => h) (Or.inl ⟨by rfl, ?_⟩) (by assumption) ?_
      rotate_left
      · (intro w' hSw; (try dsimp only at hSw); go_simp; try with_reducible rfl)
      simp only [Act.put, List.setIfInBounds_toArray, List.set_cons_zero, List.set_cons_succ]
      refine wpAnyH_ready (rs := [8]) (by kernel_rfl) (by simp) ?_
      refine AllReadyH.cons (o := { dst := none, op := Op.store 148 (Operand.tmp 21) (Operand.tmp 20), type := 0, pos := "branch.go:226", after := #[{ on := 7, ground := Ground.data }, { on := 6, ground := Ground.data }, { on := 6, ground := Ground.chain }, { on := 0, ground := Ground.phase }, { on := 1, ground := Ground.phase }, { on := 2, ground := Ground.phase }, { on := 3, ground := Ground.phase }, { on := 4, ground := Ground.phase }, { on := 5, ground := Ground.phase }, { on := 6, ground := Ground.phase }], guard := none }) rfl (fun K hK => ?_) AllReadyH.nil
      clear hHeld
      go_simp
      refine hK.out _ _ ⟨?_, ?_⟩ (fun hHeld => ?_)
      · rw [World.cell?_setCell_far _ _ _ _ (by have := HS.out; show w.heap.size ≠ Wa.heap.size; omega)]; exact (HXA.out.below HB3.out).c0
      · rw [World.cell?_setCell_far _ _ _ _ (by have := HS.out; show w.heap.size ≠ Wa.heap.size; omega)]; exact (HXA.out.below HB3.out).c1
      clear hK K
      refine wpAnyH_done (by kernel_rfl) ?_ _
      clear hHeld
      have x0 := HX0.out.below HB3.out
      have x1 := HX1.out.below HB3.out
      have y0 := x0.c0
      have y3 := x1.c0
      have y4 := x1.c1
      have y5 := x1.free 0
      have y6 := x1.free 1
      have HX1' := hide x1
      clear x0 x1
      go_wp2_with fail
      have hx := HX1'.out.other (j := 1) b2 (.slice va (n + 1) vc)
      have ho := HO3.out.put (g := w.heap.size) (j := 1) (fun h => by have := (HO3.out.blk _ h).1; have := HS.out; omega) (.slice va (n + 1) vc)
      have ho2 := (ho.put2 (g := W0.heap.size) (by have := HS.out; omega) (.int .i64 f) (.slice va (n + 1) vc)).mono (b2 := w.heap.size) (by have := HS.out; omega)
      have hbw := below_two (b := W0.heap.size) (x := .int .i64 f) (y := .slice va (n + 1) vc) ((HQ.out.trans (HB3.out.mono (by have := HS.out; omega))).setCell (p := ⟨w.heap.size, 1, none⟩) (Nat.le_refl _) (.slice va (n + 1) vc)) (by have := HS.out; omega)
      exact bodyPost_ret (results_row_tmp rfl _ _ W0.heap.size 150 _ (0, 0) _ rfl (hx.two _ _) Tryz.underlying150 rfl (by kernel_rfl)) rfl ⟨.inl ⟨HG.out, _, rfl, ho2⟩, hbw⟩
  · rw [Bool.not_eq_true] at hg
    rw [hg]
    have HG := hide hg
    have x1 := HX1.out.below HB1.out
    have e0 : w1.cell? ⟨0, 0, none⟩ = some (.iface 360 (.pointer (some (A 0)))) := HE.out.below HB1.out
    have p3 := x1.c0
    have p4 := x1.c1
    have p5 := x1.free 0
    have p6 := x1.free 1
    have HX1' := hide x1
    clear x1
    go_wp2_with fail
    go_region_held3 (fun w' => w'.cell? ⟨0, 0, none⟩ = some (.iface 360 (.pointer (some (A 0))))) (go_keep) (fail)
    all_goals
      go_wp2_with fail
      exact bodyPost_ret (results_row_tmp rfl _ _ W0.heap.size 150 _ (0, 0) _ rfl (HX1'.out.two _ _).drew Tryz.underlying150 rfl (by kernel_rfl)) rfl ⟨.inr ⟨HG.out, rfl⟩, below_drewB (below_two (Below.next HQ.out HB1.out) (by have := HS.out; omega))⟩

theorem bins_any (A : Nat → Addr) (f i : Int) (v : Value) (l : List Lk) (key : ByteArray) (c : Int) (w : World) (hm : l.length ≤ 5864062014800) (hr : LkR w v l) (hE : ErrC A w) :
    Calls Tryz.prog 203 #[.agg #[.int .i64 f, v], .int .i64 i, .agg #[.string key, .int .i64 c]] w fun e w' =>
      ((hasC l i = true ∧ ∃ u, e = .returned (.tuple #[.agg #[.int .i64 f, u], .nilIface]) ∧ LkO w' w.heap.size u (insL l i.toNat (key, c))) ∨
       (hasC l i = false ∧ e = .returned (.tuple #[.agg #[.int .i64 0, .slice none 0 0], .iface 360 (.pointer (some (A 0)))]))) ∧ Below w.heap.size w w' := binsA_any A f i v l key c w hm hr hE.a

end Go.Proofs.YtnaedmmfiiebaaaGreatDoor.B

namespace Go.Proofs.YtnaedmmfiiebaaaGreatDoor.T
open Go.RowKit

set_option maxRecDepth 20000 in
set_option maxHeartbeats 4000000 in
theorem wolink_any (A : Nat → Addr) (b : Nat) (n : SN) (pv lv cv : Value) (i : Nat) (w : World) (h : SNR w b n pv lv cv) (hi : i < n.lk.length) (hlen : n.us.length = n.lk.length + 1) (hE : ErrC A w) :
    Calls Tryz.prog 127 #[.pointer (some ⟨b, 0, none⟩), .int .i64 (i : Int)] w fun e w' => New w ⟨[], n.f, B.remL n.lk i, C.remL n.us (i + 1)⟩ e w' := by
  have hf := h.fine
  have HREM : Hid (Calls Tryz.prog 167 #[.agg #[.int .i64 n.f, lv], .int .i64 (i : Int)] w fun e w' => ∃ (ua : Option Addr) (um uc : Nat), e = .returned (.tuple #[.agg #[.int .i64 n.f, .slice ua um uc], .nilIface]) ∧ B.LkO w' w.heap.size (.slice ua um uc) (B.remL n.lk i) ∧ Below w.heap.size w w') := by
    refine (B.brem_any A n.f (i : Int) lv n.lk w (by omega) h.lks hE).mono fun e w' ⟨hv, hb⟩ => ?_
    rcases hv with ⟨_, u, he, ho⟩ | ⟨hg, _⟩
    · obtain ⟨ua, uc, hu⟩ := ho.form
      subst hu
      exact ⟨_, _, _, he, ho, hb⟩
    · exfalso
      simp only [B.hasLk, Bool.and_eq_false_iff, decide_eq_false_iff_not] at hg
      omega
  have p1 := h.c1
  have p2 := h.c2
  have HH := hide h
  have hbw : b < w.heap.size := h.row.lt
  obtain ⟨j, hj⟩ : ∃ j, j = i + 1 := ⟨_, rfl⟩
  have hw1 : IntKind.i64.wrap ((i : Int) + 1) = (j : Int) := by rw [IntKind.wrap_i64]; omega
  have hw2 : IntKind.i64.wrap ((i : Int) + 2) = (j : Int) + 1 := by rw [IntKind.wrap_i64]; omega
  have HJ : Hid (j < n.us.length ∧ n.us.length ≤ 4001) := ⟨by omega, by omega⟩
  have HF := hide hf
  have HI := hide hi
  rw [← hj]
  clear h hf hE hi hlen hj
  go_enter Tryz.func127, Tryz.ntmps127
  go_wp2_with fail
  refine HREM.out.mono ?_
  rintro e w1 ⟨ua, um, uc, rfl, ho, hb1⟩
  have q2 := below_new w1 (.cells #[.int .i64 n.f, .slice ua um uc] 150)
  have x2 := B.RowAt.new w1 #[.int .i64 n.f, .slice ua um uc] 150
  have HO := hide (ho.below q2)
  have HB2 := hide (Below.next hb1 q2)
  have HX2 := hide x2
  have hbn : ¬ b = w1.heap.size := by have := hb1.size; omega
  clear HREM p1 p2 ho hb1 q2 x2
  go_wp2_with fail
  generalize w1.alloc (.cells #[.int .i64 n.f, .slice ua um uc] 150) = W2 at *
  generalize w1.heap.size = k2 at *
  have k0 := HX2.out.c0
  have k1 := HX2.out.c1
  have k3 := (HH.out.below HB2.out).c3
  obtain ⟨ca, cc, hcv⟩ := HH.out.kids.form
  have HCL : Hid (∀ W, Below W2.heap.size W2 W → Calls Tryz.prog 164 #[cv] W fun e w' => ∃ (g c : Nat), e = .returned (.slice (some ⟨g, 0, none⟩) n.us.length c) ∧ C.LkO w' W.heap.size (.slice (some ⟨g, 0, none⟩) n.us.length c) n.us ∧ Below W.heap.size W w') := fun W hW => by
    refine (C.kclone_any cv n.us W (by have := HJ.out; omega) ((HH.out.below (Below.next HB2.out hW)).kids)).mono fun e w' ⟨u, h1, h2, h3⟩ => ?_
    obtain ⟨g, c, hu, _, _⟩ := has_row h2 (by have := HJ.out; omega)
    subst hu
    exact ⟨g, c, h1, h2, h3⟩
  subst hcv
  have HKB : Hid (k2 < W2.heap.size ∧ b < W2.heap.size) := ⟨HX2.out.lt, by have := HB2.out.size; omega⟩
  have HUS : Hid ((C.remL n.us j).length ≤ 4001 ∧ (B.remL n.lk i).length ≤ 4000 ∧ ∀ p ∈ B.remL n.lk i, mayKey p.1) := by
    have h1 := HJ.out
    have h2 := HF.out
    refine ⟨by unfold C.remL; rw [List.length_append, List.length_take, List.length_drop]; omega, by unfold B.remL; rw [List.length_append, List.length_take, List.length_drop]; omega, fun p hp => ?_⟩
    unfold B.remL at hp
    rcases List.mem_append.1 hp with h | h
    · exact h2.2.2.1 p (List.mem_of_mem_take h)
    · exact h2.2.2.1 p (List.mem_of_mem_drop h)
  go_region_held3 (fun w' => w'.cell? ⟨k2, 0, none⟩ = some (.int .i64 n.f) ∧ w'.cell? ⟨k2, 1, none⟩ = some (.slice ua um uc) ∧ w'.cell? ⟨b, 3, none⟩ = some (.slice ca n.us.length cc)) (go_keep)
    (first
      | (go_at_call 164; refine (HCL.out _ (Below.refl _ _).drew).mono ?_; rintro e w3 ⟨g, c, rfl, ho3, hb3⟩; have HO3 := hide ho3; have HB3 := hide (B.undrewB hb3); have m0 := (HX2.out.below HB3.out).c0; have m1 := (HX2.out.below HB3.out).c1; have m3 := (HH.out.below (Below.next HB2.out HB3.out)).c3; clear ho3 hb3)
      | (go_at_call 168; refine (C.kdelete_any _ _ n.us j _ HJ.out.1 HO3.out).mono ?_; rintro e w4 ⟨u4, rfl, ho4, hb4⟩; obtain ⟨a4, c4, hu4⟩ := ho4.form; subst hu4; have HO4 := hide ho4; have HB4 : Hid (Below W2.heap.size W2 w4) := HB3.out.trans hb4; have m0 := (HX2.out.below HB4.out).c0; have m1 := (HX2.out.below HB4.out).c1; have m3 := (HH.out.below (Below.next HB2.out HB4.out)).c3; clear ho4 hb4))
  all_goals (
    have q := below_new w4 (.cells #[.slice none 0 0, .int .i64 n.f, .slice ua um uc, .slice a4 (C.remL n.us j).length c4] 155)
    have xr := B.RowAt.new w4 #[.slice none 0 0, .int .i64 n.f, .slice ua um uc, .slice a4 (C.remL n.us j).length c4] 155
    have HR : Hid (SNR (w4.alloc (.cells #[.slice none 0 0, .int .i64 n.f, .slice ua um uc, .slice a4 (C.remL n.us j).length c4] 155)) w4.heap.size ⟨[], n.f, B.remL n.lk i, C.remL n.us j⟩ (.slice none 0 0) (.slice ua um uc) (.slice a4 (C.remL n.us j).length c4)) := ⟨xr, PrR.nil _, ((HO.out.below HB4.out).below q).at, (HO4.out.below q).at, (fun p hp => by simp at hp), by simp, HUS.out.2.2, HUS.out.2.1, HUS.out.1⟩
    have HBB := hide (Below.next (Below.next HB2.out HB4.out) q)
    clear q xr
    go_wp2
    go_ret
    exact ⟨_, _, _, _, rfl, HR.out, HBB.out⟩)

end Go.Proofs.YtnaedmmfiiebaaaGreatDoor.T
