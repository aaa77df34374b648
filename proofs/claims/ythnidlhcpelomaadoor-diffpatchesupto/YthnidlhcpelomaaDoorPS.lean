import Derived.Test.YthnidlhcpelomaaDoorPP
import Derived.Test.YthnidlhcpelomaaDoorDStep2
namespace Go.Proofs.YthnidlhcpelomaaDoor
open Go.RowKit

theorem pr_under : Tryd.prog.underlying 28 = some (.struct (Tryd.prog.fieldsOf 28)) := by kernel_rfl
theorem pr_held : Tryd.prog.stoodInHeld 28 = false := by kernel_rfl
set_option maxRecDepth 100000 in
set_option maxHeartbeats 1000000 in
theorem pr_eq (w : World) (a b a' b' : ByteArray) :
    (binOp .eql 28 (.agg #[.string a, .string b]) (.agg #[.string a', .string b'])).run Tryd.prog w = .ok (.bool (a.toList == a'.toList && b.toList == b'.toList)) w := by
  rw [run_eql_struct, run_equalIn_agg w 9999 28 _ _ pr_under pr_held]
  simp [go_sem]
  by_cases h1 : a.toList = a'.toList
  · by_cases h2 : b.toList = b'.toList
    · simp [h1, h2]
    · simp [h1, h2]
  · simp [h1]
theorem pr_self (w : World) (a b : ByteArray) : (binOp .eql 28 (.agg #[.string a, .string b]) (.agg #[.string a, .string b])).run Tryd.prog w = .ok (.bool true) w := by
  rw [pr_eq]; simp
theorem pr_neq (w : World) (x y : Array Value) (bb : Bool) (h : (binOp .eql 28 (.agg x) (.agg y)).run Tryd.prog w = .ok (.bool bb) w) : (binOp .neq 28 (.agg x) (.agg y)).run Tryd.prog w = .ok (.bool (!bb)) w := by
  rw [run_eql_struct] at h
  rw [run_neq_struct]
  revert h
  generalize (Op.equalIn 10000 28 (.agg x) (.agg y)).run Tryd.prog w = r
  cases r with
  | ok v w' => intro h; simp [Result.andThen] at h ⊢; obtain ⟨rfl, rfl⟩ := h; simp
  | halt v w' => intro h; simp [Result.andThen] at h
theorem pr_nself (w : World) (a b : ByteArray) : (binOp .neq 28 (.agg #[.string a, .string b]) (.agg #[.string a, .string b])).run Tryd.prog w = .ok (.bool false) w := pr_neq w _ _ true (pr_self w a b)

end Go.Proofs.YthnidlhcpelomaaDoor

namespace Go.Proofs.YthnidlhcpelomaaDoor
open Go.RowKit

set_option maxHeartbeats 1000000 in
theorem samep_same (v1 v2 : Value) (l : List Pr) (w : World) (hm : l.length ≤ 140737488355328) (r1 : PrR w v1 l) (r2 : PrR w v2 l) :
    Calls Tryd.prog 25 #[v1, v2] w fun e w' => e = .returned (.bool true) ∧ Below w.heap.size w w' := by
  obtain ⟨a1, c1, rfl, _, _, h1⟩ := r1
  obtain ⟨a2, c2, rfl, _, _, h2⟩ := r2
  obtain ⟨n, hn⟩ : ∃ n, n = l.length := ⟨_, rfl⟩
  rw [← hn] at hm ⊢
  have H1 := hide h1
  have H2 := hide h2
  have HN := hide hn
  have hd0 : ((n : Int) != (n : Int)) = false := by simp
  obtain ⟨Q, hQ⟩ : ∃ Q : Ending → World → Prop, Q = fun e w' => e = .returned (.bool true) ∧ Below w.heap.size w w' := ⟨_, rfl⟩
  rw [← hQ]
  have HQ := hide hQ
  clear h1 h2 hn hQ
  go_enter Tryd.func25, Tryd.ntmps25
  go_wp2
  go_loopw [5] (fun i wr => ∃ k nq : Nat, k ≤ n ∧ i = .int .i64 k ∧ wr = w.drewN nq) (fun i _ => n - (intOf i).toNat)
  case atStart => exact ⟨0, 0, Nat.zero_le _, rfl, rfl⟩
  case round =>
    obtain ⟨k, nq, hk, rfl, rfl⟩ := hrel
    by_cases hlt : k < n
    · have hk1 : k < l.length := by have := HN.out; omega
      obtain ⟨g1, o1, rfl, f1, f1'⟩ := H1.out k hk1
      obtain ⟨g2, o2, rfl, f2, f2'⟩ := H2.out k hk1
      have j0 : (0 : Int) ≤ (k : Int) := Int.natCast_nonneg k
      have j1 : (k : Int) < (n : Int) := by omega
      generalize l[k].1 = x1 at *
      generalize l[k].2 = x2 at *
      have hne := fun w => pr_nself w x1 x2
      clear H1 H2
      go_wp2
      go_quiet (fail)
      go_wp2
      go_roundw
      case rel => exact ⟨k + 1, _, by omega, by go_num, rfl⟩
      case measure => simp [intOf]; omega
    · have j1 : ¬ (k : Int) < (n : Int) := by omega
      clear H1 H2
      go_wp2
      rw [HQ.out]
      exact ⟨rfl, below_drewN' (Below.refl _ _) _⟩

end Go.Proofs.YthnidlhcpelomaaDoor

namespace Go.Proofs.YthnidlhcpelomaaDoor
open Go.RowKit
attribute [local go_sem ↓] Go.wp_at_zero Go.wp_at_succ

theorem ch_under : Tryd.prog.underlying 44 = some (.struct (Tryd.prog.fieldsOf 44)) := by kernel_rfl
theorem ch_held : Tryd.prog.stoodInHeld 44 = false := by kernel_rfl
set_option maxRecDepth 100000 in
set_option maxHeartbeats 1000000 in
theorem ch_self (w : World) (k : ByteArray) (x : ChV) : (binOp .eql 44 (chA k x) (chA k x)).run Tryd.prog w = .ok (.bool true) w := by
  obtain ⟨had, has, old, new⟩ := x
  unfold chA
  rw [run_eql_struct, run_equalIn_agg w 9999 44 _ _ ch_under ch_held]
  simp [go_sem]
theorem ch_nself (w : World) (k : ByteArray) (x : ChV) : (binOp .neq 44 (chA k x) (chA k x)).run Tryd.prog w = .ok (.bool false) w := by
  have h := ch_self w k x
  unfold chA at h ⊢
  rw [run_eql_struct] at h
  rw [run_neq_struct]
  revert h
  generalize (Op.equalIn 10000 44 (.agg _) (.agg _)).run Tryd.prog w = r
  cases r with
  | ok v w' => intro h; simp [Result.andThen] at h ⊢; obtain ⟨rfl, rfl⟩ := h; simp
  | halt v w' => intro h; simp [Result.andThen] at h
set_option maxHeartbeats 1000000 in
theorem samec_same (v1 v2 : Value) (l : List Ch) (w : World) (hm : l.length ≤ 140737488355328) (r1 : ChR w v1 l) (r2 : ChR w v2 l) :
    Calls Tryd.prog 11 #[v1, v2] w fun e w' => e = .returned (.bool true) ∧ Below w.heap.size w w' := by
  obtain ⟨a1, c1, rfl, _, _, h1⟩ := r1
  obtain ⟨a2, c2, rfl, _, _, h2⟩ := r2
  obtain ⟨n, hn⟩ : ∃ n, n = l.length := ⟨_, rfl⟩
  rw [← hn] at hm ⊢
  have H1 := hide h1
  have H2 := hide h2
  have HN := hide hn
  have hd0 : ((n : Int) != (n : Int)) = false := by simp
  obtain ⟨Q, hQ⟩ : ∃ Q : Ending → World → Prop, Q = fun e w' => e = .returned (.bool true) ∧ Below w.heap.size w w' := ⟨_, rfl⟩
  rw [← hQ]
  have HQ := hide hQ
  clear h1 h2 hn hQ
  go_enter Tryd.func11, Tryd.ntmps11
  go_wp2
  go_loopw [5] (fun i wr => ∃ k nq : Nat, k ≤ n ∧ i = .int .i64 k ∧ wr = w.drewN nq) (fun i _ => n - (intOf i).toNat)
  case atStart => exact ⟨0, 0, Nat.zero_le _, rfl, rfl⟩
  case round =>
    obtain ⟨k, nq, hk, rfl, rfl⟩ := hrel
    by_cases hlt : k < n
    · have hk1 : k < l.length := by have := HN.out; omega
      obtain ⟨g1, o1, rfl, f0, f1, f2, f3, f4⟩ := H1.out k hk1
      obtain ⟨g2, o2, rfl, z0, z1, z2, z3, z4⟩ := H2.out k hk1
      have j0 : (0 : Int) ≤ (k : Int) := Int.natCast_nonneg k
      have j1 : (k : Int) < (n : Int) := by omega
      obtain ⟨⟨key, x⟩, hx⟩ : ∃ c : Ch, c = l[k] := ⟨_, rfl⟩
      rw [← hx] at f0 f1 f2 f3 f4 z0 z1 z2 z3 z4
      simp only at f0 f1 f2 f3 f4 z0 z1 z2 z3 z4
      have hne : ∀ w, (binOp .neq 44 (.agg #[.string key, .bool x.had, .bool x.has, .string x.old, .string x.new]) (.agg #[.string key, .bool x.had, .bool x.has, .string x.old, .string x.new])).run Tryd.prog w = .ok (.bool false) w := fun w => ch_nself w key x
      clear H1 H2 hx
      go_wp2
      go_quiet (fail)
      go_wp2
      go_roundw
      case rel => exact ⟨k + 1, _, by omega, by go_num, rfl⟩
      case measure => simp [intOf]; omega
    · have j1 : ¬ (k : Int) < (n : Int) := by omega
      clear H1 H2
      go_wp2
      rw [HQ.out]
      exact ⟨rfl, below_drewN2 (Below.refl _ _) _⟩
set_option maxHeartbeats 1000000 in
theorem lpairs_any (v : Value) (l : List Pr) (w : World) (hR : PrR w v l) (hn : (l.length + 1) * 32 ≤ 140737488355328) : Calls Tryd.prog 6 #[v] w fun e w' => ∃ v', e = .returned v' ∧ PrO w' w.heap.size v' l ∧ Below w.heap.size w w' := by
  obtain ⟨a', cap', w', hrun, hown, hgr⟩ := append_prs w.heap.size (.slice none 0 0) v [] l w (PrO.nil _ _) hR (by simp; omega) (Nat.le_refl _)
  obtain ⟨a, c, rfl⟩ : ∃ a c, v = .slice a l.length c := by obtain ⟨x, y, h, _⟩ := hR; exact ⟨x, y, h⟩
  have HB : Hid (Below w.heap.size w w') := ⟨hgr.os, hgr.tape, hgr.output, hgr.size, fun k hk => hgr.block k hk (fun e => by cases e)⟩
  have HO := hide hown
  clear hown hgr
  go_enter Tryd.func6, Tryd.ntmps6
  go_wp2_with (first | (at_builtin; refine wpList_append_run 22 rfl (.tmp 4) (.tmp 5) rfl rfl _ _ rfl rfl _ _ hrun ?_))
  clear hrun
  go_wp2
  go_ret
  exact ⟨_, rfl, by simpa using HO.out, HB.out⟩
set_option maxHeartbeats 1000000 in
theorem lchanges_any (v : Value) (l : List Ch) (w : World) (hR : ChR w v l) (hn : (l.length + 1) * 56 ≤ 140737488355328) : Calls Tryd.prog 15 #[v] w fun e w' => ∃ v', e = .returned v' ∧ ChO w' w.heap.size v' l ∧ Below w.heap.size w w' := by
  obtain ⟨a', cap', w', hrun, hown, hgr⟩ := append_chs w.heap.size (.slice none 0 0) v [] l w (ChO.nil _ _) hR (by simp; omega) (Nat.le_refl _)
  obtain ⟨a, c, rfl⟩ := hR.form
  have HB : Hid (Below w.heap.size w w') := ⟨hgr.os, hgr.tape, hgr.output, hgr.size, fun k hk => hgr.block k hk (fun e => by cases e)⟩
  have HO := hide hown
  clear hown hgr
  go_enter Tryd.func15, Tryd.ntmps15
  go_wp2_with (first | (at_builtin; refine wpList_append_run 23 rfl (.tmp 4) (.tmp 5) rfl rfl _ _ rfl rfl _ _ hrun ?_))
  clear hrun
  go_wp2
  go_ret
  exact ⟨_, rfl, by simpa using HO.out, HB.out⟩
end Go.Proofs.YthnidlhcpelomaaDoor
