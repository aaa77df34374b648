import Derived.Test.YtgljkgkophaefabDoorOrd3
namespace Go.Proofs.YtgljkgkophaefabDoor
open Go.RowKit

theorem items_zero (r : Nat) (x y : It) (hx : oneF (faultR r) x = 0) (hy : oneF (faultR r) y = 0) (ox : x.Ok) (oy : y.Ok) (ix : x.kind = 5 → OkR r x.list) (iy : y.kind = 5 → OkR r y.list) :
    (∀ s t, cmpB (x.enc ++ s) (y.enc ++ t) = orElse0 (cmpOne (cmpR r) x y) (cmpB s t)) ∧ (cmpOne (cmpR r) x y = 0 → x = y) := by
  refine ⟨fun s t => item_cmp (faultR r) _ x y hx hy ox oy (fun hk hk' s t => ?_) s t, fun h => one_zero (oneF_zero hx).1 (oneF_zero hy).1 h (fun hk hk' h0 => cmpR_zero r ((oneF_zero hx).2 hk) ((oneF_zero hy).2 hk') h0)⟩
  have h := order_cmp r x.list y.list ((oneF_zero hx).2 hk) ((oneF_zero hy).2 hk') (ix hk) (iy hk') (0 :: s) (0 :: t) (.inr ⟨s, t, rfl, rfl⟩)
  rw [cmpB_same] at h
  exact h

end Go.Proofs.YtgljkgkophaefabDoor
