import Derived.Test.YtlopimdnjookeabDoorMDecLaw
namespace Go.Proofs.YtlopimdnjookeabDoor
open Go.RowKit

theorem marks_cells {w : World} {g : Nat} (h : w.heap[g]? = some (.cells #[.int .u8 77, .int .u8 77, .int .u8 77, .int .u8 77] 5 (0, 0))) : RdA w (.slice (some ⟨g, 0, none⟩) 4 4) marks4 := by
  refine ⟨_, 4, rfl, fun j hj => ⟨g, 0, rfl, ?_⟩⟩
  have h4 : marks4.length = 4 := rfl
  rw [cell_of_row _ _ _ _ _ _ h, Nat.zero_add]
  obtain rfl | rfl | rfl | rfl : j = 0 ∨ j = 1 ∨ j = 2 ∨ j = 3 := by omega
  all_goals rfl

set_option maxRecDepth 100000 in
set_option maxHeartbeats 2000000 in
theorem returned_any (g cap : Nat) (v2 : Value) (l : List UInt8) (w : World) (hs : l.length ≤ 140737488351232) (hcap : l.length + 4 ≤ cap) (_hcm : cap ≤ 9223372036854775807) (h1 : ∀ j (h : j < (l ++ marks4).length), w.cell? ⟨g, j, none⟩ = some (.int .u8 ((l ++ marks4)[j].toNat : Int))) (hv : RdA w v2 l) :
    Calls Tryd.prog 9 #[.slice (some ⟨g, 0, none⟩) (l.length + 4) cap, v2] w fun e w' => e = .returned (.bool true) ∧ Below w.heap.size w w' := by
  have HV := hide hv
  have hml : (l ++ marks4).length = l.length + 4 := by rw [List.length_append]; rfl
  have HA1 : Hid (RdA w (.slice (some ⟨g, 0, none⟩) l.length cap) l) := ⟨_, cap, rfl, fun j hj => ⟨g, 0, rfl, by
    rw [Nat.zero_add, h1 j (by omega), List.getElem_append_left hj]⟩⟩
  have HA2 : Hid (∀ a : Nat, RdA w (.slice (some ⟨g, l.length, none⟩) 4 a) marks4) := fun a => ⟨_, a, rfl, fun j hj => ⟨g, l.length, rfl, by
    have h4 : marks4.length = 4 := rfl
    rw [h1 (l.length + j) (by omega), List.getElem_append_right (by omega)]
    simp⟩⟩
  have HLE := hide hs
  obtain ⟨va, vc, rfl⟩ := hv.slice
  have k1 : (l.length : Int) ≤ (cap : Int) := by omega
  have k2 : ((l.length + 4 : Nat) : Int) ≤ (cap : Int) := by omega
  have k3 : (0 : Int) ≤ (l.length : Int) := by omega
  have hne : (((l.length + 4 : Nat) : Int) != (l.length : Int) + 4) = false := by simp
  clear h1 hml hv
  go_enter Tryd.func9, Tryd.ntmps9
  go_wp2_with fail
  have SM := same_any (.slice (some ⟨g, 0, none⟩) l.length cap) (.slice va l.length vc) l l w (by have := HLE.out; omega) (by have := HLE.out; omega) HA1.out HV.out
  rw [decide_eq_true rfl] at SM
  refine SM.mono ?_
  rintro e w1 ⟨rfl, hb1⟩
  have hb2 := Below.next hb1 (below_new w1 (.cells #[.int .u8 77, .int .u8 77, .int .u8 77, .int .u8 77] 5))
  have HM2 := hide (marks_cells (heap_alloc_new w1 (.cells #[.int .u8 77, .int .u8 77, .int .u8 77, .int .u8 77] 5)))
  have HB2 := hide hb2
  have HA3 : Hid (∀ a : Nat, RdA (w1.alloc (.cells #[.int .u8 77, .int .u8 77, .int .u8 77, .int .u8 77] 5)) (.slice (some ⟨g, l.length, none⟩) 4 a) marks4) := fun a => (HA2.out a).below hb2
  have e4 : l.length + 4 - l.length = 4 := by omega
  have hcn : ¬ cap = l.length := by omega
  clear SM hb1 hb2
  go_wp2_with fail
  have SM := same_any (.slice (some ⟨g, l.length, none⟩) 4 (cap - l.length)) (.slice (some ⟨w1.heap.size, 0, none⟩) 4 4) marks4 marks4 _ (by decide) (by decide) (HA3.out _) HM2.out
  rw [decide_eq_true rfl] at SM
  refine SM.mono ?_
  rintro e w2 ⟨rfl, hb3⟩
  have HB3 := hide (Below.next HB2.out hb3)
  clear SM hb3
  go_wp2_with fail
  go_ret
  exact ⟨rfl, HB3.out⟩

end Go.Proofs.YtlopimdnjookeabDoor
