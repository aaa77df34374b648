import Derived.Test.YthnidlhcpelomaaDoorPrR
namespace Go.Proofs.YthnidlhcpelomaaDoor
open Go.RowKit

theorem pr_under : Tryd.prog.underlying 28 = some (.struct (Tryd.prog.fieldsOf 28)) := by kernel_rfl
theorem pr_held : Tryd.prog.stoodInHeld 28 = false := by kernel_rfl
set_option maxRecDepth 100000 in
set_option maxHeartbeats 1000000 in
theorem pr_eq (w : World) (a b a' b' : ByteArray) :
    (binOp .eql 28 (.agg #[.string a, .string b]) (.agg #[.string a', .string b'])).run Tryd.prog w = .ok (.bool (a.toList == a'.toList && b.toList == b'.toList)) w := by
  rw [run_eql_struct, run_equalIn_agg w 9999 28 _ _ pr_under pr_held]
  simp [go_sem]
  by_cases h1 : a.toList = a'.toList
  · by_cases h2 : b.toList = b'.toList
    · simp [h1, h2]
    · simp [h1, h2]
  · simp [h1]
theorem pr_self (w : World) (a b : ByteArray) : (binOp .eql 28 (.agg #[.string a, .string b]) (.agg #[.string a, .string b])).run Tryd.prog w = .ok (.bool true) w := by
  rw [pr_eq]; simp
theorem pr_neq (w : World) (x y : Array Value) (bb : Bool) (h : (binOp .eql 28 (.agg x) (.agg y)).run Tryd.prog w = .ok (.bool bb) w) : (binOp .neq 28 (.agg x) (.agg y)).run Tryd.prog w = .ok (.bool (!bb)) w := by
  rw [run_eql_struct] at h
  rw [run_neq_struct]
  revert h
  generalize (Op.equalIn 10000 28 (.agg x) (.agg y)).run Tryd.prog w = r
  cases r with
  | ok v w' => intro h; simp [Result.andThen] at h ⊢; obtain ⟨rfl, rfl⟩ := h; simp
  | halt v w' => intro h; simp [Result.andThen] at h
theorem pr_nself (w : World) (a b : ByteArray) : (binOp .neq 28 (.agg #[.string a, .string b]) (.agg #[.string a, .string b])).run Tryd.prog w = .ok (.bool false) w := pr_neq w _ _ true (pr_self w a b)

end Go.Proofs.YthnidlhcpelomaaDoor
