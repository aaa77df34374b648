import Derived.Test.YtagldlchamlpdaaDoorBKit
namespace Go.Proofs.YtagldlchamlpdaaDoor
open Go.RowKit

set_option maxHeartbeats 1000000 in
theorem some_any (v : Value) (l : List Lk) (i t : Nat) (w : World) (hm : l.length ≤ 5864062014805) (hi : i ≤ t) (ht : t ≤ l.length) (hr : LkR w v l) :
    Calls Tryd.prog 46 #[v, .int .i64 (i : Int), .int .i64 (t : Int)] w fun e w' => ∃ u, e = .returned u ∧ LkO w' w.heap.size u ((l.drop i).take (t - i)) ∧ Below w.heap.size w w' := by
  obtain ⟨a, cap, rfl, hcap, _, hc⟩ := hr
  have HC := hide hc
  obtain ⟨n, hn⟩ : ∃ n, n = l.length := ⟨_, rfl⟩
  rw [← hn] at hm ht ⊢
  have HN := hide hn
  clear hc hn hcap
  go_enter Tryd.func46, Tryd.ntmps46
  go_wp2
  go_loopw [7, 8] (fun u j wr => ∃ k : Nat, i ≤ k ∧ k ≤ t ∧ j = .int .i64 k ∧ LkO wr w.heap.size u ((l.drop i).take (k - i)) ∧ Below w.heap.size w wr) (fun _ j _ => t - (intOf j).toNat)
  case atStart => exact ⟨i, Nat.le_refl _, hi, rfl, by simpa using LkO.nil w w.heap.size, Below.refl _ _⟩
  case round =>
    obtain ⟨k, hik, hk, rfl, hown, hbw⟩ := hrel
    have htk : ((l.drop i).take (k - i)).length = k - i := by rw [List.length_take, List.length_drop]; have := HN.out; omega
    obtain ⟨ua, uc, hu⟩ := hown.form
    rw [htk] at hu
    subst hu
    by_cases hlt : k < t
    · have hkl : k < l.length := by have := HN.out; omega
      obtain ⟨g, o, rfl, f1, f2⟩ := HC.out k hkl
      have HS : Hid ((l.drop i).take (k + 1 - i) = (l.drop i).take (k - i) ++ [l[k]]) := by
        show _ = _
        rw [show k + 1 - i = k - i + 1 by omega, List.take_succ_eq_append_getElem (by rw [List.length_drop]; omega), List.getElem_drop]
        simp only [show i + (k - i) = k by omega]
      have c1 : wr.cell? ⟨g, o + k * 2, none⟩ = some (.string l[k].1) := (hbw.cell (p := ⟨g, o + k * 2, none⟩) (World.block_lt_of_cell? w _ f1)).trans f1
      have c2 : wr.cell? ⟨g, o + k * 2 + 1, none⟩ = some (.int .i64 l[k].2) := (hbw.cell (p := ⟨g, o + k * 2 + 1, none⟩) (World.block_lt_of_cell? w _ f2)).trans f2
      obtain ⟨p, hp⟩ : ∃ p, p = l[k] := ⟨_, rfl⟩
      rw [← hp] at c1 c2 HS
      obtain ⟨a1, cp1, w1, hrun, hown1, hb1, _⟩ := push_lks w.heap.size _ _ p 35 wr w w.heap.size (k - i) htk hown (by omega) hbw.size (Nat.le_refl _) hbw
      rw [← HS.out] at hown1
      obtain ⟨d, hd⟩ : ∃ d, d = k - i := ⟨_, rfl⟩
      rw [← hd] at hrun hown1 ⊢
      have HO := hide hown1
      have HB := hide hb1
      have HD := hide hd
      have hltI : (k : Int) < (t : Int) := by omega
      have hltN : (k : Int) < (n : Int) := by omega
      have hk0 : (0 : Int) ≤ (k : Int) := by omega
      clear hp HC f1 f2 hbw hown hown1 hb1 HS htk hd
      go_wp2_with (first | (at_builtin; refine wpList_append_run 25 rfl (.tmp 15) (.tmp 20) rfl rfl _ _ rfl rfl _ _ hrun ?_))
      clear hrun
      go_wp2
      go_roundw
      case rel => exact ⟨k + 1, by omega, by omega, by go_num, HO.out, HB.out⟩
      case measure => simp [intOf]; omega
    · have hkt : k = t := by omega
      subst hkt
      have HO := hide hown
      have HB := hide hbw
      have hltI : ¬ (k : Int) < (k : Int) := by omega
      clear hown hbw HC
      go_wp2
      go_ret
      exact ⟨_, rfl, HO.out, HB.out⟩

end Go.Proofs.YtagldlchamlpdaaDoor
