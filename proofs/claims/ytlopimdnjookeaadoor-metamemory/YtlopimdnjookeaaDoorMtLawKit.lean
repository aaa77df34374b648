import Derived.Test.YtlopimdnjookeaaDoorMtDec
import Derived.Test.YtlopimdnjookeaaDoorMtEnc
import Derived.Test.YtlopimdnjookeaaDoorMtTidy
import Derived.Test.YtlopimdnjookeaaDoorNum2
namespace Go.Proofs.YtlopimdnjookeaaDoor
open Go.RowKit

theorem mt_under : Tryd.prog.underlying 31 = some (.struct (Tryd.prog.fieldsOf 31)) := by kernel_rfl
theorem mt_held : Tryd.prog.stoodInHeld 31 = false := by kernel_rfl
set_option maxRecDepth 100000 in
set_option maxHeartbeats 1000000 in
theorem mt_eq (w : World) (p r t p' r' t' : Int) :
    (binOp .eql 31 (.agg #[.int .i64 p, .int .i64 r, .int .u64 t]) (.agg #[.int .i64 p', .int .i64 r', .int .u64 t'])).run Tryd.prog w = .ok (.bool (p == p' && (r == r' && t == t'))) w := by
  rw [run_eql_struct, run_equalIn_agg w 9999 31 _ _ mt_under mt_held]
  simp [go_sem]
  by_cases h1 : p = p'
  · by_cases h2 : r = r'
    · by_cases h3 : t = t'
      · simp [h1, h2, h3]
      · simp [h1, h2, h3]
    · simp [h1, h2]
  · simp [h1]
theorem mt_self (w : World) (p r t : Int) : (binOp .eql 31 (.agg #[.int .i64 p, .int .i64 r, .int .u64 t]) (.agg #[.int .i64 p, .int .i64 r, .int .u64 t])).run Tryd.prog w = .ok (.bool true) w := by
  rw [mt_eq]; simp
theorem mt_neq (w : World) (x y : Array Value) (bb : Bool) (h : (binOp .eql 31 (.agg x) (.agg y)).run Tryd.prog w = .ok (.bool bb) w) : (binOp .neq 31 (.agg x) (.agg y)).run Tryd.prog w = .ok (.bool (!bb)) w := by
  rw [run_eql_struct] at h
  rw [run_neq_struct]
  revert h
  generalize (Op.equalIn 10000 31 (.agg x) (.agg y)).run Tryd.prog w = r
  cases r with
  | ok v w' => intro h; simp [Result.andThen] at h ⊢; obtain ⟨rfl, rfl⟩ := h; simp
  | halt v w' => intro h; simp [Result.andThen] at h

/-- What the laws over metas find: the two refusals and the table. -/
structure EnvM (a0 a1 : Addr) (w : World) : Prop where
  arg : w.cell? ⟨0, 0, none⟩ = some (.iface 108 (.pointer (some a0)))
  text : w.cell? ⟨3, 0, none⟩ = some (.iface 108 (.pointer (some a1)))
  tab : Tab w
theorem EnvM.below {a0 a1 : Addr} {w w' : World} (h : EnvM a0 a1 w) (hb : Below w.heap.size w w') : EnvM a0 a1 w' :=
  ⟨(hb.cell (World.block_lt_of_cell? w _ h.arg)).trans h.arg, (hb.cell (World.block_lt_of_cell? w _ h.text)).trans h.text, h.tab.below hb⟩
theorem decV_own (a0 a1 : Addr) (m : Mt) (hm : MayM m) (hx : m.txid < 18446744073709551616) : decV a0 a1 (mpage m) m.pages ((m.txid % 2 : Nat) : Int) = #[.agg m.cells.toArray, .nilIface] := by
  unfold decV
  rw [if_neg (by rintro (h | h); exact h hm.1; exact h (by omega)), if_pos ((okM_mpage m hm hx _ _).2 ⟨rfl, rfl⟩), parse_mpage m hm hx]
theorem decV_other (a0 a1 : Addr) (m : Mt) (hm : MayM m) (hx : m.txid < 18446744073709551616) (pages slot : Int) (hp : PagesOk pages) (hs : 0 ≤ slot ∧ slot < 2) (hne : ¬ (m.pages = pages ∧ ((m.txid % 2 : Nat) : Int) = slot)) :
    decV a0 a1 (mpage m) pages slot = #[zMt, .iface 108 (.pointer (some a1))] := by
  unfold decV
  rw [if_neg (by rintro (h | h); exact h hp; exact h hs), if_neg (fun h => hne ((okM_mpage m hm hx _ _).1 h))]

end Go.Proofs.YtlopimdnjookeaaDoor
