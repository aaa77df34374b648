import Derived.Test.YtgljkgkophaefaaDoorLent
import Derived.Test.YtgljkgkophaefaaDoorSame
namespace Go.Proofs.YtgljkgkophaefaaDoor
open Go.RowKit

set_option maxHeartbeats 400000 in
theorem returned_any (l : List It) (g cap base : Nat) (v : Value) (w : World) (hall : ItsOwn w base (.slice (some ⟨g, 0, none⟩) (l.length + 4) cap) (l ++ List.replicate 4 mark)) (hv : ItsAt w anyB v l) :
    Calls Tryd.prog 15 #[.slice (some ⟨g, 0, none⟩) (l.length + 4) cap, v] w fun e w' => e = .returned (.bool true) ∧ Below w.heap.size w w' := by
  have hlen := hv.len_le
  obtain ⟨a, c, rfl⟩ := hv.form
  have hd : ((l.length : Int) + 4 != (l.length : Int) + 4) = false := by simp
  have hL : (l ++ List.replicate 4 mark).length = l.length + 4 := by simp
  have hcap : l.length + 4 ≤ cap := by
    obtain ⟨us, hus, how, hok, hin⟩ := hall
    rw [hL] at how
    rcases how.2 with ⟨h', _⟩ | ⟨g, cap, cur, h', _, _, h1, _⟩
    · cases h'
    · cases h'; exact h1
  have hcell : ∀ i, l.length ≤ i → i < l.length + 4 → w.cell? ⟨g, i * 4, none⟩ = some (.int .i64 77) := fun i h1 h2 => by
    obtain ⟨us, hus, how, hok, hin⟩ := hall
    have hi : i < (l ++ List.replicate 4 mark).length := by simp; omega
    have hc := (cellsOf'_get _ us hus i hi).1
    have hk : (l ++ List.replicate 4 mark)[i].kind = 77 := by
      rw [List.getElem_append_right h1, List.getElem_replicate]; rfl
    rw [hk] at hc
    rw [hL] at how
    exact cell_owned how rfl _ _ hc
  clear hL
  have hhead := hall.head (cap' := cap) hlen
  go_enter Tryd.func15, Tryd.ntmps15
  go_wp2_with fail
  go_loop [5] (fun i => ∃ j : Nat, l.length ≤ j ∧ j ≤ l.length + 4 ∧ i = .int .i64 j) (fun i => l.length + 4 - (intOf i).toNat)
  case atStart => exact ⟨l.length, Nat.le_refl _, by omega, rfl⟩
  case round =>
    obtain ⟨j, hj1, hj2, rfl⟩ := hrel
    by_cases hlt : j < l.length + 4
    · have c0 := hcell j hj1 hlt
      have j0 : (0 : Int) ≤ (j : Int) := Int.natCast_nonneg _
      have j1 : (j : Int) < (l.length : Int) + 4 := by omega
      clear hcell hhead
      go_wp2_with fail
      go_round
      case rel => exact ⟨j + 1, by omega, by omega, by go_num⟩
      case measure => simp [intOf]; omega
    · have hje : j = l.length + 4 := by omega
      subst hje
      clear hcell
      have i1 : (0 : Int) ≤ (l.length : Int) := by omega
      have i2 : (l.length : Int) ≤ (cap : Int) := by omega
      go_wp2_with fail
      refine (sameItems_any _ l l _ _ _ (Nat.le_refl _) ?_ hv).mono ?_
      · exact hhead.any
      rintro e w2 ⟨b, rfl, hbi, hb2⟩
      have hbt : b = true := hbi.2 rfl
      subst hbt
      go_wp2_with fail
      go_ret
      exact ⟨rfl, hb2⟩

end Go.Proofs.YtgljkgkophaefaaDoor
