import Derived.Test.YtocfedakjcghnaaDoorLaid6
namespace Go.Proofs.YtocfedakjcghnaaDoor
open Go.ChangeShapes Go.WideShapes Go.ChangeAt Go.WideMaps Go.WideElems Go.RowKit Go.Joins

theorem open_ints {H : Type} {enc : TypeId × Value → H} {W : World} {r : Reach} {b0 : Nat} {v : Value} {d : DataW H} {p : List MemPlace} (hv : Value.okWide Tryd.prog W r b0 49 v)
    (h : DataW.Trod enc Tryd.prog W 0 (fun _ => true) true 49 v d p) (hw : ∀ z ∈ d.weights Tryd.prog 49, z ≤ reachBytes) :
    ∃ l : List Int, RowR W v (ints l) ∧ l.length ≤ 17592186043904 := by
  obtain ⟨a, n, c, rfl⟩ := okWide_slice Tryd.underlying49 hv
  obtain ⟨fuel, hf0⟩ := h
  exact open_ints_c fuel _ (d, p) hf0 hw

end Go.Proofs.YtocfedakjcghnaaDoor
