import Derived.Test.YtmifadjgmjnkgaaDoorPg
namespace Go.Proofs.YtmifadjgmjnkgaaDoor
open Go.RowKit

theorem sh_under : Tryd.prog.underlying 31 = some (.struct (Tryd.prog.fieldsOf 31)) := by kernel_rfl
theorem sh_held : Tryd.prog.stoodInHeld 31 = false := by kernel_rfl
theorem sh_guard : Tryd.prog.eqGuardType Tryd.prog.depth 31 = false := by kernel_rfl
set_option maxRecDepth 100000 in
set_option maxHeartbeats 1000000 in
theorem sh_eq (w : World) (k i t c k' i' t' c' : Int) (b b' : ByteArray) :
    (binOp .eql 31 (.agg #[.int .i64 k, .int .i64 i, .int .u64 t, .int .i64 c, .string b]) (.agg #[.int .i64 k', .int .i64 i', .int .u64 t', .int .i64 c', .string b'])).run Tryd.prog w = .ok (.bool (k == k' && (i == i' && (t == t' && (c == c' && b.toList == b'.toList))))) w := by
  rw [run_eql_struct, run_equalIn_agg w 9999 31 _ _ sh_under sh_held]
  simp [go_sem]
  by_cases h1 : k = k'
  · by_cases h2 : i = i'
    · by_cases h3 : t = t'
      · by_cases h4 : c = c'
        · by_cases h5 : b.toList = b'.toList
          · simp [h1, h2, h3, h4, h5]
          · simp [h1, h2, h3, h4, h5]
        · simp [h1, h2, h3, h4]
      · simp [h1, h2, h3]
    · simp [h1, h2]
  · simp [h1]
theorem sh_self (w : World) (k i t c : Int) (b : ByteArray) :
    (binOp .eql 31 (.agg #[.int .i64 k, .int .i64 i, .int .u64 t, .int .i64 c, .string b]) (.agg #[.int .i64 k, .int .i64 i, .int .u64 t, .int .i64 c, .string b])).run Tryd.prog w = .ok (.bool true) w := by
  rw [sh_eq]; simp
theorem sh_neq (w : World) (x y : Array Value) (bb : Bool) (h : (binOp .eql 31 (.agg x) (.agg y)).run Tryd.prog w = .ok (.bool bb) w) : (binOp .neq 31 (.agg x) (.agg y)).run Tryd.prog w = .ok (.bool (!bb)) w := by
  rw [run_eql_struct] at h
  rw [run_neq_struct]
  revert h
  generalize (Op.equalIn 10000 31 (.agg x) (.agg y)).run Tryd.prog w = r
  cases r with
  | ok v w' => intro h; simp [Result.andThen] at h ⊢; obtain ⟨rfl, rfl⟩ := h; simp
  | halt v w' => intro h; simp [Result.andThen] at h
theorem sh_nself (w : World) (k i t c : Int) (b : ByteArray) :
    (binOp .neq 31 (.agg #[.int .i64 k, .int .i64 i, .int .u64 t, .int .i64 c, .string b]) (.agg #[.int .i64 k, .int .i64 i, .int .u64 t, .int .i64 c, .string b])).run Tryd.prog w = .ok (.bool false) w := sh_neq w _ _ true (sh_self w k i t c b)

end Go.Proofs.YtmifadjgmjnkgaaDoor
