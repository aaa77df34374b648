import Derived.Test.YthnidlhcpelomaaDoorDRs
import Derived.Test.YthnidlhcpelomaaDoorDAny
import Derived.Deep.RegionLaw
namespace Go.Proofs.YthnidlhcpelomaaDoor
open Go.RowKit
attribute [local go_sem ↓] Go.wp_at_zero Go.wp_at_succ

abbrev jL (l : KL (Option ChV × Option ChV)) : List Ch := l.map fun e => (e.1, joinV e.2)
theorem fm_jL (l : KL (Option ChV × Option ChV)) : fm actV (jL l) = fm (fun e => actV (joinV e)) l := by
  induction l with
  | nil => rfl
  | cons e l ih => rw [jL, List.map_cons, fm_cons, fm_cons]; rw [jL] at ih; rw [ih]
theorem len_jL {a b : List Ch} {out mid rest : List Ch} (h : (out ++ mid) ++ rest = jL (side a b)) (hn : (a.length + b.length + 1) * 56 ≤ 140737488355328) (hm : mid.length = 1) : (out.length + 1) * 56 ≤ 140737488355328 := by
  have h1 : ((out ++ mid) ++ rest).length ≤ a.length + b.length := by rw [h, jL, List.length_map]; exact side_len a b
  rw [List.length_append, List.length_append] at h1
  refine Nat.le_trans (Nat.mul_le_mul_right 56 ?_) hn
  omega
set_option maxHeartbeats 1000000 in
theorem ridle_any (k : ByteArray) (x : ChV) (w : World) : Calls Tryd.prog 41 #[chA k x] w fun e w' => e = .returned (.bool (idleV x)) ∧ Below w.heap.size w w' := by
  obtain ⟨had, has, old, new⟩ := x
  unfold chA idleV
  have HE := hide (list_eq old new)
  have HB := hide (below_new w (.cells #[.string k, .bool had, .bool has, .string old, .string new] 44))
  cases had <;> cases has <;>
    (go_enter Tryd.func41, Tryd.ntmps41
     go_wp2
     go_ret
     refine ⟨?_, HB.out⟩
     first | rfl | (rw [HE.out]; rfl))
end Go.Proofs.YthnidlhcpelomaaDoor
