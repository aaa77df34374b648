import Derived.Test.YtdghlblgmihbpaaDoorFBook2
import Derived.Deep.WholeRow
namespace Go.Proofs.YtdghlblgmihbpaaDoor
open Go.RowKit

structure StepIn (w w4 : World) (b g c bm gm P : Nat) (T T' : Nat → Bool) (s : SaidD) (v : Value) (K O n : Int) (gb : Nat) : Prop where
  book : BookR w4 b g c P T
  map : MapR w4 bm gm P T'
  box : Boxed w.heap.size [.int .i64 K, .int .i64 O, .int .i64 n] w4
  got : Boxed gb (saidC s v).toList w4
  rl : w4.ownsRow w.heap.size 3 1 v s.list.length (nats s.list)
  only : Only (fun k => k = gm) w w4
  lt : w.heap.size < gb
theorem said_new (w : World) (s : SaidD) (v : Value) (hv : v.oneCell' = true) : (Instr.storeAt 30 (.pointer (some ⟨w.heap.size, 0, none⟩)) (.agg (saidC s v))).run Tryd.prog (w.alloc (.cells zSaid 30)) = .ok () (w.alloc (.cells (saidC s v) 30)) :=
  run_storeAt_new w 30 zSaid (saidC s v) (by rw [sizeSaid]; rfl) rfl (by simp [saidC, Value.oneCell']; exact hv)
theorem step_in {w w2 w3 : World} {b g c bm gm P : Nat} {T : Nat → Bool} {r : (Nat → Bool) × SaidD} {v : Value} {K O n : Int} (hw2 : w2 = w.alloc (.cells #[.int .i64 K, .int .i64 O, .int .i64 n] 33)) (hb : BookR w b g c P T) (hm : MapR w bm gm P T)
    (h1 : b ≠ gm) (h2 : g ≠ gm) (hp : ActPost w2 bm gm P r (.returned (.agg (saidC r.2 v))) w3 v) : StepIn w (w3.alloc (.cells (saidC r.2 v) 30)) b g c bm gm P T r.1 r.2 v K O n w3.heap.size := by
  have hbn : Below w.heap.size w w2 := by rw [hw2]; exact below_new _ _
  have hbx : Boxed w.heap.size [.int .i64 K, .int .i64 O, .int .i64 n] w2 := by rw [hw2]; exact boxed_new w #[.int .i64 K, .int .i64 O, .int .i64 n] 33
  have hgm : gm < w.heap.size := hm.ltg
  have hal := below_new w3 (.cells (saidC r.2 v) 30)
  refine ⟨((hb.below hbn).only hp.only h1 h2).below hal, hp.map.below hal, (hbx.only hp.only (fun e => by have : w.heap.size = gm := e; omega)).below hal, boxed_new w3 (saidC r.2 v) 30, ?_, ?_, ?_⟩
  · exact owns_weak (owns_below hp.rl hal) (by rw [hw2]; simp)
  · exact ((Only.of_below hbn).trans hp.only).trans (Only.of_below hal)
  · have := hp.only.size; have := hbx.1; omega

end Go.Proofs.YtdghlblgmihbpaaDoor
