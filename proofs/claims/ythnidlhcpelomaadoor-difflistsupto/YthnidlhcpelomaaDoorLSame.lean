import Derived.Test.YthnidlhcpelomaaDoorPrEq
namespace Go.Proofs.YthnidlhcpelomaaDoor
open Go.RowKit

set_option maxHeartbeats 1000000 in
theorem samep_same (v1 v2 : Value) (l : List Pr) (w : World) (hm : l.length ≤ 140737488355328) (r1 : PrR w v1 l) (r2 : PrR w v2 l) :
    Calls Tryd.prog 25 #[v1, v2] w fun e w' => e = .returned (.bool true) ∧ Below w.heap.size w w' := by
  obtain ⟨a1, c1, rfl, _, _, h1⟩ := r1
  obtain ⟨a2, c2, rfl, _, _, h2⟩ := r2
  obtain ⟨n, hn⟩ : ∃ n, n = l.length := ⟨_, rfl⟩
  rw [← hn] at hm ⊢
  have H1 := hide h1
  have H2 := hide h2
  have HN := hide hn
  have hd0 : ((n : Int) != (n : Int)) = false := by simp
  obtain ⟨Q, hQ⟩ : ∃ Q : Ending → World → Prop, Q = fun e w' => e = .returned (.bool true) ∧ Below w.heap.size w w' := ⟨_, rfl⟩
  rw [← hQ]
  have HQ := hide hQ
  clear h1 h2 hn hQ
  go_enter Tryd.func25, Tryd.ntmps25
  go_wp2
  go_loopw [5] (fun i wr => ∃ k nq : Nat, k ≤ n ∧ i = .int .i64 k ∧ wr = w.drewN nq) (fun i _ => n - (intOf i).toNat)
  case atStart => exact ⟨0, 0, Nat.zero_le _, rfl, rfl⟩
  case round =>
    obtain ⟨k, nq, hk, rfl, rfl⟩ := hrel
    by_cases hlt : k < n
    · have hk1 : k < l.length := by have := HN.out; omega
      obtain ⟨g1, o1, rfl, f1, f1'⟩ := H1.out k hk1
      obtain ⟨g2, o2, rfl, f2, f2'⟩ := H2.out k hk1
      have j0 : (0 : Int) ≤ (k : Int) := Int.natCast_nonneg k
      have j1 : (k : Int) < (n : Int) := by omega
      generalize l[k].1 = x1 at *
      generalize l[k].2 = x2 at *
      have hne := fun w => pr_nself w x1 x2
      clear H1 H2
      go_wp2
      go_quiet (fail)
      go_wp2
      go_roundw
      case rel => exact ⟨k + 1, _, by omega, by go_num, rfl⟩
      case measure => simp [intOf]; omega
    · have j1 : ¬ (k : Int) < (n : Int) := by omega
      clear H1 H2
      go_wp2
      rw [HQ.out]
      exact ⟨rfl, below_drewN' (Below.refl _ _) _⟩

end Go.Proofs.YthnidlhcpelomaaDoor
