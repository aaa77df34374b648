import Derived.Test.YtagldlchamlpdaaDoorLkR
namespace Go.Proofs.YtagldlchamlpdaaDoor
open Go.RowKit

theorem lk_under : Tryd.prog.underlying 35 = some (.struct (Tryd.prog.fieldsOf 35)) := by kernel_rfl
theorem lk_held : Tryd.prog.stoodInHeld 35 = false := by kernel_rfl
set_option maxRecDepth 100000 in
set_option maxHeartbeats 1000000 in
theorem lk_eq (w : World) (a a' : ByteArray) (b b' : Int) :
    (binOp .eql 35 (.agg #[.string a, .int .i64 b]) (.agg #[.string a', .int .i64 b'])).run Tryd.prog w = .ok (.bool (a.toList == a'.toList && b == b')) w := by
  rw [run_eql_struct, run_equalIn_agg w 9999 35 _ _ lk_under lk_held]
  simp [go_sem]
  by_cases h1 : a.toList = a'.toList
  · by_cases h2 : b = b'
    · simp [h1, h2]
    · simp [h1, h2]
  · simp [h1]
theorem lk_self (w : World) (a : ByteArray) (b : Int) : (binOp .eql 35 (.agg #[.string a, .int .i64 b]) (.agg #[.string a, .int .i64 b])).run Tryd.prog w = .ok (.bool true) w := by
  rw [lk_eq]; simp
theorem lk_neq (w : World) (x y : Array Value) (bb : Bool) (h : (binOp .eql 35 (.agg x) (.agg y)).run Tryd.prog w = .ok (.bool bb) w) : (binOp .neq 35 (.agg x) (.agg y)).run Tryd.prog w = .ok (.bool (!bb)) w := by
  rw [run_eql_struct] at h
  rw [run_neq_struct]
  revert h
  generalize (Op.equalIn 10000 35 (.agg x) (.agg y)).run Tryd.prog w = r
  cases r with
  | ok v w' => intro h; simp [Result.andThen] at h ⊢; obtain ⟨rfl, rfl⟩ := h; simp
  | halt v w' => intro h; simp [Result.andThen] at h
theorem lk_nself (w : World) (a : ByteArray) (b : Int) : (binOp .neq 35 (.agg #[.string a, .int .i64 b]) (.agg #[.string a, .int .i64 b])).run Tryd.prog w = .ok (.bool false) w := lk_neq w _ _ true (lk_self w a b)

end Go.Proofs.YtagldlchamlpdaaDoor
