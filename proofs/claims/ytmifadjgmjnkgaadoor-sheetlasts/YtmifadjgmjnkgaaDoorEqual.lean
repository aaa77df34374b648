import Derived.Test.YtmifadjgmjnkgaaDoorSame
import Derived.Test.YtmifadjgmjnkgaaDoorHide
namespace Go.Proofs.YtmifadjgmjnkgaaDoor
open Go.RowKit

set_option maxHeartbeats 400000 in
theorem equal_any (v1 v2 : Value) (l1 l2 : List UInt8) (w : World) (r1 : RdA w v1 l1) (r2 : RdA w v2 l2) (h1 : 0 < l1.length) (h2 : 0 < l2.length) :
    Calls Tryd.prog 37 #[v1, v2] w fun e w' => e = .returned (.bool (decide (l1 = l2))) ∧ w = w' := by
  have s1 := run_str w v1 l1 r1 h1
  have s2 := run_str w v2 l2 r2 h2
  obtain ⟨a1, c1, rfl, _⟩ := r1
  obtain ⟨a2, c2, rfl, _⟩ := r2
  clear h1 h2
  go_enter Tryd.func37, Tryd.ntmps37
  go_wp2_with fail
  go_ret
  refine ⟨?_, rfl⟩
  show Ending.returned (.bool (l1 == l2)) = _
  have e : (l1 == l2) = decide (l1 = l2) := by by_cases h : l1 = l2 <;> simp [h]
  rw [e]

end Go.Proofs.YtmifadjgmjnkgaaDoor
