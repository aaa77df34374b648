import Derived.Test.YtagldlchamlpdabDoorBMade1
import Derived.Test.YtagldlchamlpdabDoorBas2
namespace Go.Proofs.YtagldlchamlpdabDoor
open Go.RowKit

def keyAt (T : List ByteArray) (i : Nat) : ByteArray := if h : 0 < T.length then threeB i ++ headB (T[i % T.length]'(Nat.mod_lt _ h)) else threeB i
def linkAt (T : List ByteArray) (i : Nat) : Lk := (keyAt T i, 3 + (i : Int))
def linksTo (T : List ByteArray) (k : Nat) : List Lk := (List.range k).map (linkAt T)
theorem linksTo_len (T : List ByteArray) (k : Nat) : (linksTo T k).length = k := by simp [linksTo]
theorem linksTo_succ (T : List ByteArray) (k : Nat) : linksTo T (k + 1) = linksTo T k ++ [linkAt T k] := by simp [linksTo, List.range_succ]
theorem threeB_size (i : Nat) : (threeB i).size = 3 := rfl
theorem keyAt_size (T : List ByteArray) (i : Nat) : 3 ≤ (keyAt T i).size ∧ (keyAt T i).size ≤ 255 := by
  unfold keyAt
  split
  · have := headB_size (T[i % T.length]'(Nat.mod_lt _ (by assumption)))
    rw [ByteArray.size_append, threeB_size]; omega
  · rw [threeB_size]; omega
theorem szB_linksTo (T : List ByteArray) (k : Nat) : szB (linksTo T (k + 1)) = szB (linksTo T k) + (7 + (keyAt T k).size) := by
  have h := szB_append (linksTo T k) [linkAt T k]
  have h2 : szB [linkAt T k] = 7 + (keyAt T k).size + 6 := by simp [szB, szK, linkAt]; omega
  rw [linksTo_succ]; omega
theorem szB_linksTo_le (T : List ByteArray) (k : Nat) : szB (linksTo T k) ≤ 6 + 262 * k := by
  induction k with
  | zero => simp [linksTo, szB]
  | succ k ih => rw [szB_linksTo]; have := (keyAt_size T k).2; omega

theorem RowAt.under {w w' : World} {B b : Nat} {cs : Array Value} {t : TypeId} (h : RowAt w b cs t) (hb : Below B w w') (hlt : b < B) : RowAt w' b cs t := by
  unfold RowAt; rw [hb.block b hlt]; exact h
theorem RowAt.set1 {w : World} {b : Nat} {x y : Value} {t : TypeId} (h : RowAt w b #[x, y] t) (y' : Value) : RowAt (w.setCell ⟨b, 1, none⟩ y') b #[x, y'] t := by
  unfold RowAt at *
  rw [heap_setCell_same _ b 1 _ t _ h]
  rfl

set_option maxRecDepth 20000 in
set_option maxHeartbeats 4000000 in
theorem made_any (v : Value) (T : List ByteArray) (n : Nat) (most : Int) (w : World) (hn : n ≤ 1000) (hT : T.length ≤ 8796093022207) (hm : 6 ≤ most ∧ most ≤ 1000000) (hr : StrR w v T) :
    Calls Tryd.prog 14 #[v, .int .i64 (n : Int), .int .i64 most] w fun e w' => ∃ (k : Nat) (u : Value), e = .returned (.agg #[.int .i64 2, u]) ∧ LkO w' w.heap.size u (linksTo T k) ∧ k ≤ n ∧ (szB (linksTo T k) : Int) ≤ most ∧ (k = n ∨ most < (szB (linksTo T (k + 1)) : Int)) ∧ Below w.heap.size w w' := by
  obtain ⟨a, cap, rfl, hcap, hc⟩ := hr
  have q0 := below_new w (.cells #[.int .i64 0, .slice none 0 0] 30)
  have x0 := RowAt.new w #[.int .i64 0, .slice none 0 0] 30
  have s0 : (w.alloc (.cells #[.int .i64 0, .slice none 0 0] 30)).heap.size = w.heap.size + 1 := by simp
  have q1 := below_new (w.alloc (.cells #[.int .i64 0, .slice none 0 0] 30)) (.cells #[.int .i64 2, .slice none 0 0] 30)
  have x1 := RowAt.new (w.alloc (.cells #[.int .i64 0, .slice none 0 0] 30)) #[.int .i64 2, .slice none 0 0] 30
  rw [s0] at x1
  have s1 : ((w.alloc (.cells #[.int .i64 0, .slice none 0 0] 30)).alloc (.cells #[.int .i64 2, .slice none 0 0] 30)).heap.size = w.heap.size + 2 := by simp
  have HX0 := hide (x0.below q1)
  have HX1 := hide x1
  have HQ := hide (Below.next q0 q1)
  have HS1 := hide s1
  have HC := hide hc
  obtain ⟨nT, hnT⟩ : ∃ nT, nT = T.length := ⟨_, rfl⟩
  rw [← hnT] at hT ⊢
  have HNT := hide hnT
  have HL0 : Hid (linksTo T 0 = []) := by show _ = _; simp [linksTo]
  have HZ0 : Hid ((szB (linksTo T 0) : Int) = 6) := by show _ = _; simp [linksTo, szB]
  obtain ⟨Q, hQ⟩ : ∃ Q : Ending → World → Prop, Q = fun e w' => ∃ (k : Nat) (u : Value), e = .returned (.agg #[.int .i64 2, u]) ∧ LkO w' w.heap.size u (linksTo T k) ∧ k ≤ n ∧ (szB (linksTo T k) : Int) ≤ most ∧ (k = n ∨ most < (szB (linksTo T (k + 1)) : Int)) ∧ Below w.heap.size w w' := ⟨_, rfl⟩
  rw [← hQ]
  have HQQ := hide hQ
  clear hQ hc hnT hcap q0 q1 x0 x1 s0 s1
  go_enter Tryd.func14, Tryd.ntmps14
  go_wp2
  generalize (w.alloc (.cells #[.int .i64 0, .slice none 0 0] 30)).alloc (.cells #[.int .i64 2, .slice none 0 0] 30) = W1 at *
  go_loopw [8, 9] (fun z i wr => ∃ (k : Nat) (ua : Option Addr) (uc : Nat), k ≤ n ∧ i = .int .i64 k ∧ z = .int .i64 (szB (linksTo T k) : Int) ∧ (szB (linksTo T k) : Int) ≤ most ∧ RowAt wr w.heap.size #[.int .i64 0, .slice none 0 0] 30 ∧ RowAt wr (w.heap.size + 1) #[.int .i64 2, .slice ua k uc] 30 ∧ LkO wr (w.heap.size + 2) (.slice ua k uc) (linksTo T k) ∧ Below w.heap.size w wr) (fun _ i _ => n - (intOf i).toNat)
  case atStart => exact ⟨0, none, 0, Nat.zero_le _, rfl, by rw [HZ0.out], by rw [HZ0.out]; exact hm.1, HX0.out, HX1.out, by rw [HL0.out]; exact LkO.nil _ _, HQ.out⟩
  case round =>
    obtain ⟨k, ua, uc, hk, rfl, rfl, hmost, hx0, hx1, hown, hbw⟩ := hrel
    clear HX0 HX1
    have HSZL := hide (szB_linksTo_le T k)
    by_cases hlt : k < n
    · have hltI : (k : Int) < (n : Int) := by omega
      have H3 := hide (three_any k wr (by omega))
      obtain ⟨zz, hzz⟩ : ∃ z : Int, z = (szB (linksTo T k) : Int) := ⟨_, rfl⟩
      obtain ⟨z2, hz2⟩ : ∃ z : Int, z = (szB (linksTo T (k + 1)) : Int) := ⟨_, rfl⟩
      have hsum : z2 = zz + 7 + ((keyAt T k).size : Int) := by rw [hzz, hz2, szB_linksTo]; omega
      have hks := keyAt_size T k
      have hzb : 0 ≤ zz ∧ zz ≤ 262006 := by have := HSZL.out; omega
      obtain ⟨kk, hkk⟩ : ∃ kk, kk = keyAt T k := ⟨_, rfl⟩
      rw [← hkk] at hsum hks
      rw [← hzz] at hmost ⊢
      have w7 : IntKind.i64.wrap (zz + 7) = zz + 7 := by rw [IntKind.wrap_i64]; omega
      have w8 : IntKind.i64.wrap (zz + 7 + (kk.size : Int)) = z2 := by rw [IntKind.wrap_i64]; omega
      have HZZ := hide hzz
      have HZ2 := hide hz2
      have HKK := hide hkk
      have HM := hide hmost
      have HO := hide hown
      have HB := hide hbw
      have HX0 := hide hx0
      have HX1 := hide hx1
      have w3i : IntKind.i64.wrap (3 + (k : Int)) = 3 + (k : Int) := by rw [IntKind.wrap_i64]; omega
      clear hsum hzb hkk hzz hz2 hmost hown hbw hx0 hx1
      go_wp2_with fail
      refine H3.out.mono ?_
      rintro e w1 ⟨rfl, hb1⟩
      have HB1 := hide hb1
      clear hb1 H3
      have hgoal : ∃ W2, W2 = w1 := ⟨_, rfl⟩
      clear hgoal
      have r0 := (HX0.out.below HB1.out).c0
      have r1 := (HX0.out.below HB1.out).c1
      have z0 := (HX0.out.below HB1.out).free 0
      have z1 := (HX0.out.below HB1.out).free 1
      have t0 := (HX1.out.below HB1.out).c0
      have t1 := (HX1.out.below HB1.out).c1
      have f0 := (HX1.out.below HB1.out).free 1
      obtain ⟨a3, cp3, w2, hrun, hown1, hb2, _⟩ := push_lks (w.heap.size + 2) _ _ (linkAt T k) 54 w1 w1 (w.heap.size + 2) k (linksTo_len T k) (HO.out.below HB1.out) (by omega) (by have := (HX1.out.below HB1.out).lt; omega) (Nat.le_refl _) (Below.refl _ _)
      rw [← linksTo_succ] at hown1
      simp only [linkAt] at hrun
      rw [← HKK.out] at hrun
      have y0 := (HX0.out.below HB1.out).under hb2 (by omega)
      have y1 := (HX1.out.below HB1.out).under hb2 (by omega)
      have g1 := y1.c1
      have g2 := y1.free 1
      have hbw2 : Below w.heap.size w w2 := (Below.next HB.out HB1.out).trans (hb2.mono (by omega))
      have hb3 : ¬ w.heap.size = w.heap.size + 1 := by omega
      have HY0 := hide (y0.other (g := w.heap.size + 1) (j := 1) hb3 (.slice a3 (k + 1) cp3))
      have HY1 := hide (y1.set1 (.slice a3 (k + 1) cp3))
      have hne : (Value.slice a3 (k + 1) cp3).ownBlock ≠ some (w.heap.size + 1) := fun e => by have := (hown1.blk _ e).1; omega
      have HOW := hide (hown1.put (g := w.heap.size + 1) (j := 1) hne (.slice a3 (k + 1) cp3))
      have HBF := hide (hbw2.setCell (p := ⟨w.heap.size + 1, 1, none⟩) (by show w.heap.size ≤ w.heap.size + 1; omega) (.slice a3 (k + 1) cp3))
      clear hown1 hb2 y0 y1 hbw2 hne
      have HKA : Hid (keyAt T k = if h : 0 < T.length then threeB k ++ headB (T[k % T.length]'(Nat.mod_lt _ h)) else threeB k) := by show _ = _; rfl
      have HFIN : Hid (∀ W : World, Below w.heap.size w W → True) := fun _ _ => trivial
      clear HFIN
      by_cases hT0 : nT = 0
      · have hk3 : threeB k = kk := by rw [HKK.out, HKA.out, dif_neg (by have := HNT.out; omega)]
        rw [hk3]
        have hTd : decide ((0 : Int) < (nT : Int)) = false := decide_eq_false (by omega)
        have hTd2 : decide (0 < nT) = false := decide_eq_false (by omega)
        clear hk3 hT0
        by_cases hg : most < z2
        · clear hrun g1 g2 f0
          go_wp2_with fail
          rw [HQQ.out]
          refine bodyPost_ret (results_cell_row rfl _ _ w.heap.size 30 _ (0, 0) _ rfl ((HX0.out.below HB1.out).two _ _) Tryd.underlying30 rfl (by kernel_rfl)) rfl ⟨k, .slice ua k uc, rfl, ?_, by omega, by rw [← HZZ.out]; exact HM.out, .inr (by rw [← HZ2.out]; exact hg), below_two (Below.next HB.out HB1.out) (Nat.le_refl _)⟩
          exact ((HO.out.below HB1.out).put2 (by omega) _ _).mono (by omega)
        · have hgI : ¬ most < z2 := hg
          clear r0 r1 z0 z1
          go_wp2_with (first | (at_builtin; have h0 := hrun; clear hrun; refine wpList_append_run 28 rfl (.tmp 42) (.tmp 47) rfl rfl _ _ rfl rfl _ _ h0 ?_; clear h0))
          go_wp2
          go_roundw
          case rel => exact ⟨k + 1, a3, cp3, by omega, by go_num, by rw [HZ2.out], by rw [← HZ2.out]; omega, HY0.out, HY1.out, HOW.out, HBF.out⟩
          case measure => simp [intOf]; omega
      · have hpos : 0 < T.length := by have := HNT.out; omega
        obtain ⟨q, hq⟩ : ∃ q, q = k % nT := ⟨_, rfl⟩
        have hql : q < nT := by rw [hq]; exact Nat.mod_lt _ (by omega)
        have hqT : q < T.length := by have := HNT.out; omega
        have hrem : Int.tmod (k : Int) (nT : Int) = (q : Int) := by rw [Int.tmod_eq_emod_of_nonneg (by omega), hq]; rfl
        have hk3 : threeB k ++ headB (T[q]'hqT) = kk := by
          rw [HKK.out, HKA.out, dif_pos hpos]
          congr 2
          simp only [hq, HNT.out]
        obtain ⟨gT, oT, rfl, ct⟩ := HC.out q hqT
        have ct1 : w1.cell? ⟨gT, oT + q, none⟩ = some (.string (T[q]'hqT)) := ((Below.next HB.out HB1.out).cell (p := ⟨gT, oT + q, none⟩) (World.block_lt_of_cell? w _ ct)).trans ct
        have HH := hide (head_any (T[q]'hqT) w1)
        have hhs := headB_size (T[q]'hqT)
        generalize T[q]'hqT = tq at *
        have h3s := threeB_size k
        obtain ⟨th, hth⟩ : ∃ th, th = threeB k := ⟨_, rfl⟩
        obtain ⟨hd, hhd⟩ : ∃ hd, hd = headB tq := ⟨_, rfl⟩
        rw [← hth, ← hhd] at hk3
        rw [← hth] at h3s ⊢
        rw [← hhd] at HH hhs
        have a1 : ∀ w, (Op.stringOp .add th hd).run Tryd.prog w = .ok (.string kk) w := fun w => by
          rw [← hk3]; exact run_string_add_sum (P := Tryd.prog) (w := w) _ _ (by rw [h3s]; omega)
        have hTI : (0 : Int) < (nT : Int) := by omega
        have hqI : (q : Int) < (nT : Int) := by omega
        have hq0 : (0 : Int) ≤ (q : Int) := by omega
        have hnT0 : ¬ (nT : Int) = 0 := by omega
        clear hk3 hq hqT ct hhd hth h3s hhs
        go_wp2_with fail
        refine HH.out.mono ?_
        rintro e w1' ⟨rfl, rfl⟩
        clear HH ct1
        by_cases hg : most < z2
        · clear hrun g1 g2 f0
          go_wp2_with fail
          rw [HQQ.out]
          refine bodyPost_ret (results_cell_row rfl _ _ w.heap.size 30 _ (0, 0) _ rfl ((HX0.out.below HB1.out).two _ _) Tryd.underlying30 rfl (by kernel_rfl)) rfl ⟨k, .slice ua k uc, rfl, ?_, by omega, by rw [← HZZ.out]; exact HM.out, .inr (by rw [← HZ2.out]; exact hg), below_two (Below.next HB.out HB1.out) (Nat.le_refl _)⟩
          exact ((HO.out.below HB1.out).put2 (by omega) _ _).mono (by omega)
        · have hgI : ¬ most < z2 := hg
          clear r0 r1 z0 z1
          go_wp2_with (first | (at_builtin; have h0 := hrun; clear hrun; refine wpList_append_run 28 rfl (.tmp 42) (.tmp 47) rfl rfl _ _ rfl rfl _ _ h0 ?_; clear h0))
          go_wp2
          go_roundw
          case rel => exact ⟨k + 1, a3, cp3, by omega, by go_num, by rw [HZ2.out], by rw [← HZ2.out]; omega, HY0.out, HY1.out, HOW.out, HBF.out⟩
          case measure => simp [intOf]; omega
    · have hkn : k = n := by omega
      have hltI : ¬ (k : Int) < (n : Int) := by omega
      have r0 := hx0.c0
      have r1 := hx0.c1
      have z0 := hx0.free 0
      have z1 := hx0.free 1
      have t0 := hx1.c0
      have t1 := hx1.c1
      have HXX := hide hx0
      have HO := hide hown
      have HB := hide hbw
      have HM := hide hmost
      have HKN := hide hkn
      have HKK := hide hk
      obtain ⟨zz, hzz⟩ : ∃ z : Int, z = (szB (linksTo T k) : Int) := ⟨_, rfl⟩
      rw [← hzz]
      clear hx0 hx1 hown hbw hmost hkn hzz
      go_wp2_with fail
      rw [HQQ.out]
      refine bodyPost_ret (results_cell_row rfl _ _ w.heap.size 30 _ (0, 0) _ rfl (HXX.out.two _ _) Tryd.underlying30 rfl (by kernel_rfl)) rfl ⟨k, .slice ua k uc, rfl, ?_, HKK.out, HM.out, .inl HKN.out, below_two HB.out (Nat.le_refl _)⟩
      exact (HO.out.put2 (by omega) _ _).mono (by omega)

end Go.Proofs.YtagldlchamlpdabDoor
