import Derived.Test.YtagldlchamlpdabDoorBas2
namespace Go.Proofs.YtagldlchamlpdabDoor
open Go.RowKit

theorem zeroK_cells (n : Nat) : (Builtin.zeroCells (Value.agg #[.string ByteArray.empty, .int .i64 0]).cells n).size = n * 2 := by
  simp [Builtin.zeroCells, Value.cells]

set_option maxHeartbeats 1000000 in
theorem kgrow_any (n : Nat) (w : World) (hn : n * 24 ≤ 140737488355328) :
    Calls Tryd.prog 73 #[.slice none 0 0, .int .i64 (n : Int)] w fun e w' => ∃ u, e = .returned u ∧ LkO w' w.heap.size u [] ∧ Below w.heap.size w w' := by
  obtain ⟨i0, hi, hz, hsz, hby⟩ := info_parts infoK
  have hd0 : decide ((n : Int) < 0) = false := decide_eq_false (by omega)
  by_cases h0 : 0 < n
  · have hrun := Lib.run_append_nil_zeros (P := Tryd.prog) w 28 3 28 54 i0 _ .i64 .i64 Tryd.underlying28 Tryd.underlying3 hi hz n h0 (by omega) (by omega) (by rw [hby]; omega)
    have hpos : (0 : Int) < (n : Int) := by omega
    have hw : IntKind.i64.wrap ((n : Int)) = (n : Int) := by rw [IntKind.wrap_i64]; omega
    generalize hcap : grownCap w n 0 54 = cap at *
    have hle : n ≤ cap := by rw [← hcap]; exact grownCap_ge _ _ _ _
    have hmx : cap ≤ maxLen := by rw [← hcap]; exact grownCap_le_maxLen _ _ _ _ (by unfold maxLen; omega)
    generalize hcs : Builtin.zeroCells _ n ++ Builtin.zeroCells _ (cap - n) = cs at hrun
    have hcsz : cs.size = cap * 2 := by rw [← hcs, Array.size_append, zeroK_cells, zeroK_cells]; omega
    have HO : Hid (LkO (w.drew.alloc (.cells cs 54)) w.heap.size (.slice (some ⟨w.heap.size, 0, none⟩) 0 cap) []) :=
      ⟨by simp [lks], .inr ⟨w.heap.size, cap, cs, rfl, Nat.le_refl _, heap_alloc_new w.drew _, Nat.zero_le _, hmx, hcsz, by simp [lks]⟩⟩
    have HB : Hid (Below w.heap.size w (w.drew.alloc (.cells cs 54))) := ((Below.refl _ _).drew).alloc (Nat.le_refl _) _
    clear hcs hcap hi hz hsz hby hcsz
    go_enter Tryd.func73, Tryd.ntmps73
    go_wp2_with (first | (at_builtin; refine Lib.wpList_append_run _ rfl (.tmp 20) (.tmp 21) 28 3 rfl _ _ rfl rfl _ _ hrun ?_))
    go_ret
    exact ⟨_, rfl, HO.out, HB.out⟩
  · obtain rfl : n = 0 := by omega
    go_enter Tryd.func73, Tryd.ntmps73
    go_wp2
    go_ret
    exact ⟨_, rfl, LkO.nil _ _, Below.refl _ _⟩

/-- How many links the first k lists have. -/
def lensToK (LL : List (List Lk)) (k : Nat) : Nat := ((LL.take k).flatten).length
theorem lensToK_succ (LL : List (List Lk)) (k : Nat) (h : k < LL.length) : lensToK LL (k + 1) = lensToK LL k + LL[k].length := by
  unfold lensToK
  rw [List.take_succ_eq_append_getElem h, List.flatten_append, List.length_append]; simp
theorem lensToK_le (LL : List (List Lk)) (k : Nat) : lensToK LL k ≤ LL.flatten.length := by
  unfold lensToK
  conv => rhs; rw [← List.take_append_drop k LL, List.flatten_append, List.length_append]
  omega

set_option maxHeartbeats 2000000 in
theorem kconcat_any (B m cap : Nat) (svs : List Value) (LL : List (List Lk)) (w : World) (hm : LL.length = m) (hmb : m ≤ 3) (hs : svs.length = m) (hbig : LL.flatten.length * 24 ≤ 140737488355328)
    (hc : ∀ j (h : j < svs.length), w.cell? ⟨B, j, none⟩ = some svs[j]) (hr : ∀ j (h : j < LL.length) (h' : j < svs.length), LkR w svs[j] LL[j]) :
    Calls Tryd.prog 44 #[.slice (some ⟨B, 0, none⟩) m cap] w fun e w' => ∃ u, e = .returned u ∧ LkO w' w.heap.size u LL.flatten ∧ Below w.heap.size w w' := by
  have HM := hide hm
  have HS := hide hs
  have HC := hide hc
  have HR := hide hr
  have HBIG := hide hbig
  obtain ⟨T, hT⟩ : ∃ T, T = LL.flatten.length := ⟨_, rfl⟩
  have HT := hide hT
  have hTb : T * 24 ≤ 140737488355328 := by rw [hT]; exact hbig
  have HL0 : Hid (lensToK LL 0 = 0) := by show _ = _; simp [lensToK]
  clear hm hs hc hr hbig hT
  go_enter Tryd.func44, Tryd.ntmps44
  go_wp2
  go_loop [3, 11] (fun r i => ∃ k : Nat, k ≤ m ∧ i = .int .i64 k ∧ r = .int .i64 (lensToK LL k : Int)) (fun _ i => m - (intOf i).toNat)
  case atStart => exact ⟨0, Nat.zero_le _, rfl, by rw [HL0.out]; rfl⟩
  case round =>
    obtain ⟨k, hk, rfl, rfl⟩ := hrel
    by_cases hlt : k < m
    · have hk1 : k < svs.length := by have := HS.out; omega
      have hk2 : k < LL.length := by have := HM.out; omega
      have c1 := HC.out k hk1
      obtain ⟨a, c, hf⟩ := (HR.out k hk2 hk1).form
      rw [hf] at c1
      have HSU := hide (lensToK_succ LL k hk2)
      have HLE := hide (lensToK_le LL (k + 1))
      obtain ⟨x, hx⟩ : ∃ x, x = lensToK LL k := ⟨_, rfl⟩
      obtain ⟨y, hy⟩ : ∃ y, y = lensToK LL (k + 1) := ⟨_, rfl⟩
      obtain ⟨z, hz⟩ : ∃ z, z = LL[k].length := ⟨_, rfl⟩
      rw [← hx, ← hy, ← hz] at HSU
      rw [← hy, ← HT.out] at HLE
      rw [← hx]
      rw [← hz] at c1
      have HY := hide hy
      have hw : IntKind.i64.wrap ((x : Int) + (z : Int)) = (y : Int) := by rw [IntKind.wrap_i64]; have := HSU.out; have := HLE.out; omega
      have hd0 : decide ((y : Int) < 0) = false := decide_eq_false (by omega)
      have hltI : (k : Int) < (m : Int) := by omega
      clear hx hy hz hf HC HR
      go_wp2
      go_round
      case rel => exact ⟨k + 1, by omega, by go_num, by rw [← HY.out]⟩
      case measure => simp [intOf]; omega
    · have hkm : k = m := by omega
      subst hkm
      have hall : lensToK LL k = T := by
        rw [HT.out]; unfold lensToK; rw [List.take_of_length_le (by rw [HM.out]; exact Nat.le_refl _)]
      rw [hall]
      have hltI : ¬ (k : Int) < (k : Int) := by omega
      have HG := hide (kgrow_any T w hTb)
      clear hall hlt hk
      go_wp2_with fail
      refine HG.out.mono ?_
      rintro e w1 ⟨u, rfl, hown, hb1⟩
      have HO := hide hown
      have HB1 := hide hb1
      clear hown hb1 HG
      go_wp2
      go_loopw [6, 27] (fun u i wr => ∃ j : Nat, j ≤ k ∧ i = .int .i64 j ∧ LkO wr w.heap.size u ((LL.take j).flatten) ∧ Below w.heap.size w wr) (fun _ i _ => k - (intOf i).toNat)
      case atStart => exact ⟨0, Nat.zero_le _, rfl, by simpa using HO.out, HB1.out⟩
      case round =>
        obtain ⟨j, hj, rfl, hown, hbw⟩ := hrel
        clear HO HB1
        by_cases hlt : j < k
        · have hk1 : j < svs.length := by have := HS.out; omega
          have hk2 : j < LL.length := by have := HM.out; omega
          have c0 := HC.out j hk1
          have c1 : wr.cell? ⟨B, j, none⟩ = some svs[j] := (hbw.cell (p := ⟨B, j, none⟩) (World.block_lt_of_cell? w _ c0)).trans c0
          have hr1 := (HR.out j hk2 hk1).below hbw
          have hle := lensToK_le LL (j + 1)
          rw [lensToK_succ LL j hk2, ← HT.out] at hle
          unfold lensToK at hle
          obtain ⟨a1, cp1, w2, hrun, hown1, hg1⟩ := append_lks w.heap.size _ _ _ _ wr hown hr1 (by omega) hbw.size
          have hb2 : Below w.heap.size w w2 := hbw.grown hg1 hbw.size (fun q hq => (hown.blk q hq).1)
          obtain ⟨a, c, hf⟩ := hr1.form
          obtain ⟨ua, uc, hu⟩ := hown.form
          subst hu
          rw [hf] at c1 hrun
          have hfl : (LL.take j).flatten ++ LL[j] = (LL.take (j + 1)).flatten := by
            rw [List.take_succ_eq_append_getElem hk2, List.flatten_append]; simp
          rw [hfl] at hown1
          generalize ((LL.take j).flatten).length = L1 at *
          generalize LL[j].length = L2 at *
          have HO2 := hide hown1
          have HB2 := hide hb2
          have hltI : (j : Int) < (k : Int) := by omega
          clear hf HC HR hown hown1 hbw hb2 hg1 hr1 c0 hle
          go_wp2_with (first | (at_builtin; refine wpList_append_run 28 rfl (.tmp 31) (.tmp 32) rfl rfl _ _ rfl rfl _ _ hrun ?_))
          clear hrun
          go_wp2
          go_roundw
          case rel => exact ⟨j + 1, by omega, by go_num, HO2.out, HB2.out⟩
          case measure => simp [intOf]; omega
        · have hall : LL.take j = LL := by rw [List.take_of_length_le]; have := HM.out; omega
          rw [hall] at hown
          have HO := hide hown
          have HB := hide hbw
          have hltI : ¬ (j : Int) < (k : Int) := by omega
          clear hown hbw hall HC HR
          go_wp2
          go_ret
          exact ⟨_, rfl, HO.out, HB.out⟩

end Go.Proofs.YtagldlchamlpdabDoor
