import Derived.Test.YtdacbajiapdiiabDoorLPairs
namespace Go.Proofs.YtdacbajiapdiiabDoor
open Go.RowKit

set_option maxHeartbeats 1000000 in
theorem pairs_any (v : Value) (l : List Pr) (w : World) (hm : l.length ≤ 4398046510976) (hr : PrR w v l) :
    Calls Tryd.prog 10 #[v] w fun e w' => ∃ u, e = .returned u ∧ PrO w' w.heap.size u (l ++ marks 64) ∧ Below w.heap.size w w' := by
  obtain ⟨a, cap, rfl, hcap, _, hc⟩ := hr
  have HC := hide hc
  obtain ⟨n, hn⟩ : ∃ n, n = l.length := ⟨_, rfl⟩
  rw [← hn] at hm ⊢
  have HN := hide hn
  clear hc hn hcap
  go_enter Tryd.func10, Tryd.ntmps10
  go_wp2
  go_loopw [3, 4] (fun u i wr => ∃ k : Nat, k ≤ n ∧ i = .int .i64 k ∧ PrO wr w.heap.size u (l.take k) ∧ Below w.heap.size w wr) (fun _ i _ => n - (intOf i).toNat)
  case atStart => exact ⟨0, Nat.zero_le _, rfl, PrO.nil _ _, Below.refl _ _⟩
  case round =>
    obtain ⟨k, hk, rfl, hown, hbw⟩ := hrel
    have htk : (l.take k).length = k := by rw [List.length_take]; have := HN.out; omega
    by_cases hlt : k < n
    · have hkl : k < l.length := by have := HN.out; omega
      obtain ⟨g, o, rfl, f1, f2⟩ := HC.out k hkl
      have HS := hide (List.take_succ_eq_append_getElem hkl)
      have c1 : wr.cell? ⟨g, o + k * 2, none⟩ = some (.string l[k].1) := (hbw.cell (p := ⟨g, o + k * 2, none⟩) (World.block_lt_of_cell? w _ f1)).trans f1
      have c2 : wr.cell? ⟨g, o + k * 2 + 1, none⟩ = some (.string l[k].2) := (hbw.cell (p := ⟨g, o + k * 2 + 1, none⟩) (World.block_lt_of_cell? w _ f2)).trans f2
      obtain ⟨p, hp⟩ : ∃ p, p = l[k] := ⟨_, rfl⟩
      rw [← hp] at c1 c2 HS
      obtain ⟨a1, cp1, w1, hrun, hown1, hb1, _⟩ := push_prs w.heap.size _ _ p 45 wr w w.heap.size k htk hown (by omega) hbw.size (Nat.le_refl _) hbw
      rw [← HS.out] at hown1
      obtain ⟨ua, uc, hu⟩ := hown.form
      rw [htk] at hu
      subst hu
      have HO := hide hown1
      have HB := hide hb1
      have hltI : (k : Int) < (n : Int) := by omega
      clear hp HC f1 f2 hbw hown hown1 hb1 HS
      go_wp2_with (first | (at_builtin; refine wpList_append_run 24 rfl (.tmp 12) (.tmp 17) rfl rfl _ _ rfl rfl _ _ hrun ?_))
      clear hrun
      go_wp2
      go_roundw
      case rel => exact ⟨k + 1, by omega, by go_num, HO.out, HB.out⟩
      case measure => simp [intOf]; omega
    · have hkn : k = n := by omega
      subst hkn
      have hall : l.take k = l := by rw [List.take_of_length_le]; have := HN.out; omega
      rw [hall] at hown
      obtain ⟨ua, uc, hu⟩ := hown.form
      rw [← HN.out] at hu
      subst hu
      have HO := hide hown
      have HB := hide hbw
      have hltI : ¬ (k : Int) < (k : Int) := by omega
      clear hown hbw HC hall htk hlt hk
      go_wp2
      go_loopw [3, 5] (fun u i wr => ∃ j : Nat, j ≤ 64 ∧ i = .int .i64 j ∧ PrO wr w.heap.size u (l ++ marks j) ∧ Below w.heap.size w wr) (fun _ i _ => 64 - (intOf i).toNat)
      case atStart => exact ⟨0, Nat.zero_le _, rfl, by simpa [marks] using HO.out, HB.out⟩
      case round =>
        obtain ⟨j, hj, rfl, hown, hbw⟩ := hrel
        clear HO HB
        have hlen : (l ++ marks j).length = k + j := by rw [List.length_append, marks_len, ← HN.out]
        obtain ⟨ua2, uc2, hu⟩ := hown.form
        rw [hlen] at hu
        subst hu
        by_cases hlt : j < 64
        · have HM := hide (mark_any j)
          have HO := hide hown
          have HB := hide hbw
          have hltI : (j : Int) < 64 := by omega
          clear hown hbw
          go_wp2_with fail
          refine (HM.out _ (by omega)).mono ?_
          rintro e w1 ⟨rfl, hb1⟩
          obtain ⟨a1, cp1, w2, hrun, hown1, hb2, _⟩ := push_prs w.heap.size _ _ (markN j) 45 w1 w w.heap.size (k + j) hlen (HO.out.below hb1) (by omega) (by have := HB.out.size; have := hb1.size; omega) (Nat.le_refl _) (Below.next HB.out hb1)
          rw [List.append_assoc, ← marks_succ] at hown1
          have HO1 := hide hown1
          have HB2 := hide hb2
          clear hown1 hb2 hb1 HO HB HM
          obtain ⟨m1, hm1⟩ : ∃ m1, m1 = (markN j).1 := ⟨_, rfl⟩
          obtain ⟨m2, hm2⟩ : ∃ m2, m2 = (markN j).2 := ⟨_, rfl⟩
          rw [← hm1, ← hm2] at hrun ⊢
          clear hm1 hm2 hlen
          go_wp2_with (first | (at_builtin; refine wpList_append_run 24 rfl (.tmp 23) (.tmp 26) rfl rfl _ _ rfl rfl _ _ hrun ?_))
          clear hrun
          go_wp2
          go_roundw
          case rel => exact ⟨j + 1, by omega, by go_num, HO1.out, HB2.out⟩
          case measure => simp [intOf]; omega
        · have hj64 : j = 64 := by omega
          subst hj64
          have HO := hide hown
          have HB := hide hbw
          clear hown hbw
          go_wp2
          go_ret
          exact ⟨_, rfl, HO.out, HB.out⟩

end Go.Proofs.YtdacbajiapdiiabDoor
