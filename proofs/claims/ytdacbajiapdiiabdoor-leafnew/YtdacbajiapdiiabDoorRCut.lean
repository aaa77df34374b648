import Derived.Test.YtdacbajiapdiiabDoorCNearC
import Derived.Test.YtdacbajiapdiiabDoorCut2
namespace Go.Proofs.YtdacbajiapdiiabDoor
open Go.RowKit

set_option maxHeartbeats 400000 in
theorem rcut_any (v : Value) (l : List Int) (w : World) (hm : l.length ≤ 17592186044416) (hr : IntR w v l) :
    Calls Tryd.prog 61 #[v] w fun e w' => ∃ i c : Nat, e = .returned (.tuple #[.int .i64 (i : Int), .int .i64 (c : Int)]) ∧ CutN 2 (gapC l) l i c ∧ w = w' := by
  obtain ⟨a, cap, rfl, hcap, hc⟩ := hr
  by_cases hs : l.length < 2
  · have HA : Hid (CutN 2 (gapC l) l 0 4) := .inl ⟨hs, rfl, rfl⟩
    clear hc
    go_enter Tryd.func61, Tryd.ntmps61
    go_wp2
    go_ret2
    exact ⟨0, 4, rfl, HA.out, rfl⟩
  · have HF := hide (xfine_any a cap l.length l w hm rfl hc)
    by_cases hF : FineL l
    · have HF2 : Hid (Calls Tryd.prog 68 #[.slice a l.length cap] w fun e w' => e = .returned (.bool true) ∧ w = w') := by
        refine HF.out.mono ?_
        rintro e w' ⟨h | h, rfl⟩
        · exact ⟨h.2, rfl⟩
        · exact absurd hF h.1
      obtain ⟨g, o, rfl, _⟩ := hc 0 (by omega)
      have HN := hide (nearC_any g o cap (l.length - 1) l.length l w hm (by omega) (by omega) rfl hF (fun j h => by obtain ⟨g', o', he, hcell⟩ := hc j h; cases he; exact hcell))
      have hw : IntKind.i64.wrap ((l.length : Int) - 1) = ((l.length - 1 : Nat) : Int) := by rw [IntKind.wrap_i64]; omega
      have HFF := hide hF
      have HS := hide hs
      clear hc HF hF
      go_enter Tryd.func61, Tryd.ntmps61
      go_wp2_with fail
      refine HF2.out.mono ?_
      rintro e w' ⟨rfl, rfl⟩
      go_wp2_with fail
      refine HN.out.mono ?_
      rintro e w' ⟨i, rfl, hb, rfl⟩
      have HB := hide hb
      clear hb HN
      go_wp2
      go_ret2
      exact ⟨i, 0, rfl, .inr (.inr ⟨by have := HS.out; omega, HFF.out, HB.out, rfl⟩), rfl⟩
    · have HF2 : Hid (Calls Tryd.prog 68 #[.slice a l.length cap] w fun e w' => e = .returned (.bool false) ∧ w = w') := by
        refine HF.out.mono ?_
        rintro e w' ⟨h | h, rfl⟩
        · exact absurd h.1 hF
        · exact ⟨h.2, rfl⟩
      have HFF := hide hF
      have HS := hide hs
      clear hc HF hF
      go_enter Tryd.func61, Tryd.ntmps61
      go_wp2_with fail
      refine HF2.out.mono ?_
      rintro e w' ⟨rfl, rfl⟩
      go_wp2
      go_ret2
      exact ⟨0, 1, rfl, .inr (.inl ⟨by have := HS.out; omega, HFF.out, rfl, rfl⟩), rfl⟩

end Go.Proofs.YtdacbajiapdiiabDoor
