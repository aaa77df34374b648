import Derived.Test.YtocfedakjcghnabDoorCutAns
namespace Go.Proofs.YtocfedakjcghnabDoor
open Go.RowKit

set_option maxHeartbeats 1000000 in
theorem samei_two (a1 a2 : Option Addr) (c1 c2 n : Nat) (l : List Int) (w : World) (hm : n ≤ 140737488355328) (e1 : l.length = n)
    (h1 : ∀ j (h : j < l.length), ∃ g o, a1 = some ⟨g, o, none⟩ ∧ w.cell? ⟨g, o + j, none⟩ = some (.int .i64 l[j])) (h2 : ∀ j (h : j < l.length), ∃ g o, a2 = some ⟨g, o, none⟩ ∧ w.cell? ⟨g, o + j, none⟩ = some (.int .i64 l[j])) :
    Calls Tryd.prog 8 #[.slice a1 n c1, .slice a2 n c2] w fun e w' => e = .returned (.bool true) ∧ Below w.heap.size w w' := by
  have HE : Hid (l.length = n) := e1
  have H1 := hide h1
  have H2 := hide h2
  have hd0 : ((n : Int) != (n : Int)) = false := by simp
  clear e1 h1 h2
  go_enter Tryd.func8, Tryd.ntmps8
  go_wp2
  go_loopw [5] (fun i wr => ∃ k nq : Nat, k ≤ n ∧ i = .int .i64 k ∧ wr = w.drewN nq) (fun i _ => n - (intOf i).toNat)
  case atStart => exact ⟨0, 0, Nat.zero_le _, rfl, rfl⟩
  case round =>
    obtain ⟨k, nq, hk, rfl, rfl⟩ := hrel
    by_cases hlt : k < n
    · have hk1 : k < l.length := by have := HE.out; omega
      obtain ⟨g1, o1, rfl, f1⟩ := H1.out k hk1
      obtain ⟨g2, o2, rfl, f2⟩ := H2.out k hk1
      have j0 : (0 : Int) ≤ (k : Int) := Int.natCast_nonneg k
      have j1 : (k : Int) < (n : Int) := by omega
      obtain ⟨x, hx⟩ : ∃ x, x = l[k] := ⟨_, rfl⟩
      rw [← hx] at f1 f2
      have hd1 : (x != x) = false := by simp
      clear hx H1 H2
      go_wp2
      go_quiet (fail)
      go_wp2
      go_roundw
      case rel => exact ⟨k + 1, _, by omega, by go_num, rfl⟩
      case measure => simp [intOf]; omega
    · clear H1 H2
      go_wp2
      go_ret
      exact ⟨rfl, below_drewN' (Below.refl _ _) _⟩
theorem samei_any (v1 v2 : Value) (l : List Int) (w : World) (hm : l.length ≤ 140737488355328) (r1 : IntR w v1 l) (r2 : IntR w v2 l) :
    Calls Tryd.prog 8 #[v1, v2] w fun e w' => e = .returned (.bool true) ∧ Below w.heap.size w w' := by
  obtain ⟨a1, c1, rfl, _, f1⟩ := r1
  obtain ⟨a2, c2, rfl, _, f2⟩ := r2
  exact samei_two a1 a2 c1 c2 l.length l w hm rfl f1 f2

end Go.Proofs.YtocfedakjcghnabDoor
