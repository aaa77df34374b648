import Derived.Test.YtddhjnfcbpookaaDoorQLaid
import Derived.Test.YtddhjnfcbpookaaDoorQOpen
import Derived.Lib.LaidTab
import Derived.Lib.ItoaLen
import Derived.Shelf.Strconv.Itoa3
namespace Go.Proofs.YtddhjnfcbpookaaDoor
open Go.ChangeShapes Go.WideShapes Go.ChangeAt Go.WideMaps Go.WideElems Go.RowKit Go.Joins

theorem gPow : Tryd.prog.globalNamed "internal/strconv.uint64pow10" = some 13 := by kernel_rfl
theorem tPow : (Tryd.prog.globals[(13 : Nat)]?).map (·.type) = some 136 := by kernel_rfl
theorem cellsU64 : Tryd.prog.cellsOf 126 = 1 := by kernel_rfl
theorem cellsPow : Tryd.prog.cellsOf 136 = 20 := by kernel_rfl
def isPow (x : String × DataW Unit) : Bool := x.1 == "internal/strconv.uint64pow10"
set_option maxRecDepth 100000 in
theorem pow_of_laid {W : World} (h : laidMet Tryd.prog [("internal/strconv.uint64pow10", Rows.laid_internal_strconv_uint64pow10)] W) : Lib.TabIs Tryd.prog W "internal/strconv.uint64pow10" .u64 Lib.pow10Tab := by
  have e : (Rows.laid_internal_strconv_uint64pow10 : DataW Unit) = Lib.tabData .u64 Lib.pow10Tab := by rfl
  rw [e] at h
  exact Lib.tabIs_of_head gPow tPow Tryd.underlying136 Tryd.underlying126 cellsU64 cellsPow h
set_option maxRecDepth 100000 in
set_option maxHeartbeats 1000000 in
theorem open_query {H : Type} {enc : TypeId × Value → H} {W : World} {r : Reach} {b0 : Nat} {v : Value} {d : DataW H} {p : List MemPlace} (hv : Value.okWide Tryd.prog W r b0 31 v)
    (h : DataW.Trod enc Tryd.prog W 0 (fun _ => true) true 31 v d p) (hw : ∀ z ∈ d.weights Tryd.prog 31, z ≤ reachBytes) :
    ∃ (q : Qd) (cv : Value), v = .agg (qV q cv) ∧ CsAt W anyB cv q.cs ∧ q.table.size ≤ 140737488351232 ∧ q.order.size ≤ 140737488351232 ∧ -9223372036854775808 ≤ q.limit ∧ q.limit ≤ 9223372036854775807 := by
  obtain ⟨cs, rfl, hsz⟩ := okWide_struct Tryd.underlying31 hv
  rw [cellsQuery] at hsz
  obtain ⟨fuel, hf0⟩ := h
  obtain ⟨cl⟩ := cs
  match cl, hsz with
  | [v0, v1, v2, v3, v4], _ =>
    obtain ⟨q, rfl, rfl, rfl, rfl, h1, h2, h3, h4, h5⟩ := open_q fuel v0 v1 v2 v3 v4 (d, p) hf0 hw
    exact ⟨q, v1, rfl, h1, h2, h3, h4, h5⟩
end Go.Proofs.YtddhjnfcbpookaaDoor
