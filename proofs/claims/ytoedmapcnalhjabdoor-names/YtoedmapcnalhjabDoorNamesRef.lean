import Derived.Test.YtoedmapcnalhjabDoorNamesNum
import Derived.Test.YtoedmapcnalhjabDoorBox
namespace Go.Proofs.YtoedmapcnalhjabDoor
open Go.RowKit

set_option maxHeartbeats 2000000 in
theorem refusals_any (A : Nat → Addr) (w : World) (hA : ErrsAt A w) :
    Calls Tryd.prog 16 #[] w fun e w' => e = .returned (.bool true) ∧ Below w.heap.size w w' := by
  have c0 := (hA.1 0 (by decide)).1
  have c1 := (hA.1 1 (by decide)).1
  have c2 := (hA.1 2 (by decide)).1
  have c3 := (hA.1 3 (by decide)).1
  have c4 := (hA.1 4 (by decide)).1
  have c5 := (hA.1 5 (by decide)).1
  have c6 := (hA.1 6 (by decide)).1
  have c7 := (hA.1 7 (by decide)).1
  have c8 := (hA.1 8 (by decide)).1
  have c9 := (hA.1 9 (by decide)).1
  have c10 := (hA.1 10 (by decide)).1
  have c11 := (hA.1 11 (by decide)).1
  have c12 := (hA.1 12 (by decide)).1
  simp only [Nat.add_zero, Nat.reduceAdd] at c0 c1 c2 c3 c4 c5 c6 c7 c8 c9 c10 c11 c12
  go_enter Tryd.func16, Tryd.ntmps16
  go_wp2_with fail
  go_region_held3 (fun w' => w'.cell? ⟨5, 0, none⟩ = some (.iface 47 (.pointer (some (A 0)))) ∧ w'.cell? ⟨6, 0, none⟩ = some (.iface 47 (.pointer (some (A 1)))) ∧ w'.cell? ⟨7, 0, none⟩ = some (.iface 47 (.pointer (some (A 2)))) ∧ w'.cell? ⟨8, 0, none⟩ = some (.iface 47 (.pointer (some (A 3)))) ∧ w'.cell? ⟨9, 0, none⟩ = some (.iface 47 (.pointer (some (A 4)))) ∧ w'.cell? ⟨10, 0, none⟩ = some (.iface 47 (.pointer (some (A 5)))) ∧ w'.cell? ⟨11, 0, none⟩ = some (.iface 47 (.pointer (some (A 6)))) ∧ w'.cell? ⟨12, 0, none⟩ = some (.iface 47 (.pointer (some (A 7)))) ∧ w'.cell? ⟨13, 0, none⟩ = some (.iface 47 (.pointer (some (A 8)))) ∧ w'.cell? ⟨14, 0, none⟩ = some (.iface 47 (.pointer (some (A 9)))) ∧ w'.cell? ⟨15, 0, none⟩ = some (.iface 47 (.pointer (some (A 10)))) ∧ w'.cell? ⟨16, 0, none⟩ = some (.iface 47 (.pointer (some (A 11)))) ∧ w'.cell? ⟨17, 0, none⟩ = some (.iface 47 (.pointer (some (A 12))))) (go_keep)
    (first
      | (go_at_call 15; refine (num_any A _ _ ?_ ?_).mono ?_; (exact hA); (decide); rintro e w' ⟨rfl, rfl⟩))
  clear c0 c1 c2 c3 c4 c5 c6 c7 c8 c9 c10 c11 c12
  have hbx := boxed_new w #[.int .i64 1, .int .i64 2, .int .i64 3, .int .i64 4, .int .i64 5, .int .i64 6, .int .i64 7, .int .i64 8, .int .i64 9, .int .i64 10, .int .i64 11, .int .i64 12, .int .i64 13] 3
  have hb0 := below_new w (.cells #[.int .i64 1, .int .i64 2, .int .i64 3, .int .i64 4, .int .i64 5, .int .i64 6, .int .i64 7, .int .i64 8, .int .i64 9, .int .i64 10, .int .i64 11, .int .i64 12, .int .i64 13] 3)
  have hcell : ∀ k : Nat, k < 13 → (w.alloc (.cells #[.int .i64 1, .int .i64 2, .int .i64 3, .int .i64 4, .int .i64 5, .int .i64 6, .int .i64 7, .int .i64 8, .int .i64 9, .int .i64 10, .int .i64 11, .int .i64 12, .int .i64 13] 3)).drew.cell? ⟨w.heap.size, k, none⟩ = some (.int .i64 ((k : Int) + 1)) := by
    intro k hk
    have h := hbx.2 k (by simpa using hk)
    have h2 : ∀ i : Fin 13, ([.int .i64 1, .int .i64 2, .int .i64 3, .int .i64 4, .int .i64 5, .int .i64 6, .int .i64 7, .int .i64 8, .int .i64 9, .int .i64 10, .int .i64 11, .int .i64 12, .int .i64 13] : List Value)[i.1]? = some (.int .i64 ((i.1 : Int) + 1)) := fun i => by
      obtain ⟨i, hi⟩ := i
      obtain rfl | rfl | rfl | rfl | rfl | rfl | rfl | rfl | rfl | rfl | rfl | rfl | rfl : i = 0 ∨ i = 1 ∨ i = 2 ∨ i = 3 ∨ i = 4 ∨ i = 5 ∨ i = 6 ∨ i = 7 ∨ i = 8 ∨ i = 9 ∨ i = 10 ∨ i = 11 ∨ i = 12 := by omega
      all_goals rfl
    have h3 := h2 ⟨k, hk⟩
    refine Eq.trans (show _ = _ from h) ?_
    rw [← h3, List.getElem?_eq_getElem (by simpa using hk)]
  have hbd : Below w.heap.size w (w.alloc (.cells #[.int .i64 1, .int .i64 2, .int .i64 3, .int .i64 4, .int .i64 5, .int .i64 6, .int .i64 7, .int .i64 8, .int .i64 9, .int .i64 10, .int .i64 11, .int .i64 12, .int .i64 13] 3)).drew := hb0.drew
  clear hbx hb0
  have HC := (show Hid _ from hcell)
  have HB := (show Hid _ from hbd)
  clear hcell hbd hA
  go_wp2_with fail
  have hcell := HC.out
  have hbd := HB.out
  clear HC HB
  generalize (w.alloc (.cells #[.int .i64 1, .int .i64 2, .int .i64 3, .int .i64 4, .int .i64 5, .int .i64 6, .int .i64 7, .int .i64 8, .int .i64 9, .int .i64 10, .int .i64 11, .int .i64 12, .int .i64 13] 3)).drew = W1 at *
  go_loop [2] (fun i => ∃ k : Nat, k ≤ 13 ∧ i = .int .i64 k) (fun i => 13 - (intOf i).toNat)
  case atStart => exact ⟨0, by omega, rfl⟩
  case round =>
    obtain ⟨k, hk, rfl⟩ := hrel
    by_cases hlt : k < 13
    · have hck := hcell k hlt
      clear hcell
      go_wp2
      go_round
      case rel => exact ⟨k + 1, by omega, by go_num⟩
      case measure => simp [intOf]; omega
    · clear hcell
      go_wp2_with (go_at_call 15; refine (num_nil _).mono ?_; rintro e w' ⟨rfl, rfl⟩)
      go_ret
      exact ⟨rfl, hbd⟩

end Go.Proofs.YtoedmapcnalhjabDoor
