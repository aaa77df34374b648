import Derived.Test.YtgljkgkophaefaaDoorUpMath
import Derived.Test.YtgljkgkophaefaaDoorIt
namespace Go.Proofs.YtgljkgkophaefaaDoor
open Go.RowKit

theorem begins_eq (s t : ByteArray) (h : t.size ≤ s.size) : ((s.extract 0 t.size).toList == t.toList) = beg t.data.toList s.data.toList := by
  have e : (s.extract 0 t.size).data.toList = s.data.toList.take t.size := by simp [ByteArray.data_extract]
  have : decide (t.data.toList.length ≤ s.data.toList.length) = true := by simpa using h
  rw [beg_take, this, Bool.true_and, ByteArray.toList_eq, ByteArray.toList_eq, e]
  simp
theorem begins_no (s t : ByteArray) (h : ¬ t.size ≤ s.size) : false = beg t.data.toList s.data.toList := by
  have : decide (t.data.toList.length ≤ s.data.toList.length) = false := by simpa using h
  rw [beg_take, this, Bool.false_and]


set_option maxHeartbeats 400000 in
theorem begins_any (s t : ByteArray) (w : World) (_hs : s.size ≤ 140737488351232) (_ht : t.size ≤ 140737488351232) :
    Calls Tryd.prog 20 #[.string s, .string t] w fun e w' => e = .returned (.bool (beg t.data.toList s.data.toList)) ∧ w = w' := by
  go_enter Tryd.func20, Tryd.ntmps20
  by_cases h : t.size ≤ s.size
  · go_wp2_with fail
    go_ret
    exact ⟨ret_bool (begins_eq s t h), rfl⟩
  · go_wp2_with fail
    go_ret
    exact ⟨ret_bool (begins_no s t h), rfl⟩


end Go.Proofs.YtgljkgkophaefaaDoor
