import Derived.Test.YtiihnoohodklhaaDoorPP
import Derived.Test.YtiihnoohodklhaaDoorAN
namespace Go.Proofs.YtiihnoohodklhaaDoor
open Go.RowKit

end Go.Proofs.YtiihnoohodklhaaDoor

namespace Go.Proofs.YtiihnoohodklhaaDoor
open Go.RowKit

end Go.Proofs.YtiihnoohodklhaaDoor

namespace Go.Proofs.YtiihnoohodklhaaDoor
open Go.RowKit
attribute [local go_sem ↓] Go.wp_at_zero Go.wp_at_succ

theorem ch_under : Tryd.prog.underlying 39 = some (.struct (Tryd.prog.fieldsOf 39)) := by kernel_rfl
theorem ch_held : Tryd.prog.stoodInHeld 39 = false := by kernel_rfl
set_option maxRecDepth 100000 in
set_option maxHeartbeats 1000000 in
theorem ch_self (w : World) (k : ByteArray) (x : ChV) : (binOp .eql 39 (chA k x) (chA k x)).run Tryd.prog w = .ok (.bool true) w := by
  obtain ⟨had, has, old, new⟩ := x
  unfold chA
  rw [run_eql_struct, run_equalIn_agg w 9999 39 _ _ ch_under ch_held]
  simp [go_sem]
theorem ch_nself (w : World) (k : ByteArray) (x : ChV) : (binOp .neq 39 (chA k x) (chA k x)).run Tryd.prog w = .ok (.bool false) w := by
  have h := ch_self w k x
  unfold chA at h ⊢
  rw [run_eql_struct] at h
  rw [run_neq_struct]
  revert h
  generalize (Op.equalIn 10000 39 (.agg _) (.agg _)).run Tryd.prog w = r
  cases r with
  | ok v w' => intro h; simp [Result.andThen] at h ⊢; obtain ⟨rfl, rfl⟩ := h; simp
  | halt v w' => intro h; simp [Result.andThen] at h
set_option maxHeartbeats 1000000 in
theorem samec_same (v1 v2 : Value) (l : List Ch) (w : World) (hm : l.length ≤ 140737488355328) (r1 : ChR w v1 l) (r2 : ChR w v2 l) :
    Calls Tryd.prog 15 #[v1, v2] w fun e w' => e = .returned (.bool true) ∧ Below w.heap.size w w' := by
  obtain ⟨a1, c1, rfl, _, _, h1⟩ := r1
  obtain ⟨a2, c2, rfl, _, _, h2⟩ := r2
  obtain ⟨n, hn⟩ : ∃ n, n = l.length := ⟨_, rfl⟩
  rw [← hn] at hm ⊢
  have H1 := hide h1
  have H2 := hide h2
  have HN := hide hn
  have hd0 : ((n : Int) != (n : Int)) = false := by simp
  obtain ⟨Q, hQ⟩ : ∃ Q : Ending → World → Prop, Q = fun e w' => e = .returned (.bool true) ∧ Below w.heap.size w w' := ⟨_, rfl⟩
  rw [← hQ]
  have HQ := hide hQ
  clear h1 h2 hn hQ
  go_enter Tryd.func15, Tryd.ntmps15
  go_wp2
  go_loopw [5] (fun i wr => ∃ k nq : Nat, k ≤ n ∧ i = .int .i64 k ∧ wr = w.drewN nq) (fun i _ => n - (intOf i).toNat)
  case atStart => exact ⟨0, 0, Nat.zero_le _, rfl, rfl⟩
  case round =>
    obtain ⟨k, nq, hk, rfl, rfl⟩ := hrel
    by_cases hlt : k < n
    · have hk1 : k < l.length := by have := HN.out; omega
      obtain ⟨g1, o1, rfl, f0, f1, f2, f3, f4⟩ := H1.out k hk1
      obtain ⟨g2, o2, rfl, z0, z1, z2, z3, z4⟩ := H2.out k hk1
      have j0 : (0 : Int) ≤ (k : Int) := Int.natCast_nonneg k
      have j1 : (k : Int) < (n : Int) := by omega
      obtain ⟨⟨key, x⟩, hx⟩ : ∃ c : Ch, c = l[k] := ⟨_, rfl⟩
      rw [← hx] at f0 f1 f2 f3 f4 z0 z1 z2 z3 z4
      simp only at f0 f1 f2 f3 f4 z0 z1 z2 z3 z4
      have hne : ∀ w, (binOp .neq 39 (.agg #[.string key, .bool x.had, .bool x.has, .string x.old, .string x.new]) (.agg #[.string key, .bool x.had, .bool x.has, .string x.old, .string x.new])).run Tryd.prog w = .ok (.bool false) w := fun w => ch_nself w key x
      clear H1 H2 hx
      go_wp2
      go_quiet (fail)
      go_wp2
      go_roundw
      case rel => exact ⟨k + 1, _, by omega, by go_num, rfl⟩
      case measure => simp [intOf]; omega
    · have j1 : ¬ (k : Int) < (n : Int) := by omega
      clear H1 H2
      go_wp2
      rw [HQ.out]
      exact ⟨rfl, below_drewN2 (Below.refl _ _) _⟩
end Go.Proofs.YtiihnoohodklhaaDoor
