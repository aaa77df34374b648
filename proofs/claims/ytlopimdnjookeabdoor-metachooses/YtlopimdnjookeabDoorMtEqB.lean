import Derived.Test.YtlopimdnjookeabDoorMtDec
namespace Go.Proofs.YtlopimdnjookeabDoor
open Go.RowKit

theorem mt_under : Tryd.prog.underlying 28 = some (.struct (Tryd.prog.fieldsOf 28)) := by kernel_rfl
theorem mt_held : Tryd.prog.stoodInHeld 28 = false := by kernel_rfl
set_option maxRecDepth 100000 in
set_option maxHeartbeats 1000000 in
theorem mt_eq (w : World) (p r t p' r' t' : Int) :
    (binOp .eql 28 (.agg #[.int .i64 p, .int .i64 r, .int .u64 t]) (.agg #[.int .i64 p', .int .i64 r', .int .u64 t'])).run Tryd.prog w = .ok (.bool (p == p' && (r == r' && t == t'))) w := by
  rw [run_eql_struct, run_equalIn_agg w 9999 28 _ _ mt_under mt_held]
  simp [go_sem]
  by_cases h1 : p = p'
  · by_cases h2 : r = r'
    · by_cases h3 : t = t'
      · simp [h1, h2, h3]
      · simp [h1, h2, h3]
    · simp [h1, h2]
  · simp [h1]
theorem mt_self (w : World) (p r t : Int) : (binOp .eql 28 (.agg #[.int .i64 p, .int .i64 r, .int .u64 t]) (.agg #[.int .i64 p, .int .i64 r, .int .u64 t])).run Tryd.prog w = .ok (.bool true) w := by
  rw [mt_eq]; simp
theorem mt_neq (w : World) (x y : Array Value) (bb : Bool) (h : (binOp .eql 28 (.agg x) (.agg y)).run Tryd.prog w = .ok (.bool bb) w) : (binOp .neq 28 (.agg x) (.agg y)).run Tryd.prog w = .ok (.bool (!bb)) w := by
  rw [run_eql_struct] at h
  rw [run_neq_struct]
  revert h
  generalize (Op.equalIn 10000 28 (.agg x) (.agg y)).run Tryd.prog w = r
  cases r with
  | ok v w' => intro h; simp [Result.andThen] at h ⊢; obtain ⟨rfl, rfl⟩ := h; simp
  | halt v w' => intro h; simp [Result.andThen] at h

end Go.Proofs.YtlopimdnjookeabDoor
