import Derived.Test.YtiihnoohodklhaaDoorFFlt2
namespace Go.Proofs.YtiihnoohodklhaaDoor
open Go.RowKit

set_option maxHeartbeats 800000 in
theorem more_kind (A : Nat → Addr) (w : World) (h : ErrsG 13 gAll A w) : Calls Tryd.prog 16 #[.iface 70 (.pointer (some (A 12)))] w fun e w' => e = .returned (.int .i64 13) ∧ w = w' := by
  have c7 : w.cell? ⟨9, 0, none⟩ = some (.iface 70 (.pointer (some (A 7)))) := (h.1 7 (by decide)).1
  have c8 : w.cell? ⟨10, 0, none⟩ = some (.iface 70 (.pointer (some (A 8)))) := (h.1 8 (by decide)).1
  have c9 : w.cell? ⟨11, 0, none⟩ = some (.iface 70 (.pointer (some (A 9)))) := (h.1 9 (by decide)).1
  have c10 : w.cell? ⟨12, 0, none⟩ = some (.iface 70 (.pointer (some (A 10)))) := (h.1 10 (by decide)).1
  have c11 : w.cell? ⟨7, 0, none⟩ = some (.iface 70 (.pointer (some (A 11)))) := (h.1 11 (by decide)).1
  have e7 := eq_other A 12 7 w h (by decide) (by decide) (by decide)
  have e8 := eq_other A 12 8 w h (by decide) (by decide) (by decide)
  have e9 := eq_other A 12 9 w h (by decide) (by decide) (by decide)
  have e10 := eq_other A 12 10 w h (by decide) (by decide) (by decide)
  have c12 : w.cell? ⟨8, 0, none⟩ = some (.iface 70 (.pointer (some (A 12)))) := (h.1 12 (by decide)).1
  have e11 := eq_other A 12 11 w h (by decide) (by decide) (by decide)
  have e12 := eq_same A 12
  clear h
  go_enter Tryd.func16, Tryd.ntmps16
  go_wp2
  go_ret
  exact ⟨rfl, rfl⟩

set_option maxHeartbeats 1600000 in
theorem num_kind (A : Nat → Addr) (w : World) (h : ErrsG 13 gAll A w) : Calls Tryd.prog 9 #[.iface 70 (.pointer (some (A 12)))] w fun e w' => e = .returned (.int .i64 13) ∧ w = w' := by
  have HM := hide (more_kind A w h)
  have c0 : w.cell? ⟨0, 0, none⟩ = some (.iface 70 (.pointer (some (A 0)))) := (h.1 0 (by decide)).1
  have c1 : w.cell? ⟨1, 0, none⟩ = some (.iface 70 (.pointer (some (A 1)))) := (h.1 1 (by decide)).1
  have c2 : w.cell? ⟨2, 0, none⟩ = some (.iface 70 (.pointer (some (A 2)))) := (h.1 2 (by decide)).1
  have c3 : w.cell? ⟨3, 0, none⟩ = some (.iface 70 (.pointer (some (A 3)))) := (h.1 3 (by decide)).1
  have c4 : w.cell? ⟨4, 0, none⟩ = some (.iface 70 (.pointer (some (A 4)))) := (h.1 4 (by decide)).1
  have c5 : w.cell? ⟨5, 0, none⟩ = some (.iface 70 (.pointer (some (A 5)))) := (h.1 5 (by decide)).1
  have c6 : w.cell? ⟨6, 0, none⟩ = some (.iface 70 (.pointer (some (A 6)))) := (h.1 6 (by decide)).1
  have e0 := eq_other A 12 0 w h (by decide) (by decide) (by decide)
  have e1 := eq_other A 12 1 w h (by decide) (by decide) (by decide)
  have e2 := eq_other A 12 2 w h (by decide) (by decide) (by decide)
  have e3 := eq_other A 12 3 w h (by decide) (by decide) (by decide)
  have e4 := eq_other A 12 4 w h (by decide) (by decide) (by decide)
  have e5 := eq_other A 12 5 w h (by decide) (by decide) (by decide)
  have e6 := eq_other A 12 6 w h (by decide) (by decide) (by decide)
  clear h
  go_enter Tryd.func9, Tryd.ntmps9
  go_wp2_with fail
  refine HM.out.mono ?_
  rintro e w' ⟨rfl, rfl⟩
  go_wp2
  go_ret
  exact ⟨rfl, rfl⟩


/-- Num of what the program's Seal refuses with. -/
theorem num_fk (A : Nat → Addr) (fr tt : Nat) (l : List Ch) (w : World) (h : ErrsG 13 gAll A w) : Calls Tryd.prog 9 #[eF A (fK fr tt l)] w fun e w' => e = .returned (.int .i64 (nF (fK fr tt l))) ∧ w = w' := by
  have hc : fK fr tt l = 0 ∨ fK fr tt l = 1 ∨ fK fr tt l = 2 ∨ fK fr tt l = 3 := by
    unfold fK
    split
    · exact .inr (.inl rfl)
    · split
      · exact .inr (.inr (.inl rfl))
      · split
        · exact .inr (.inr (.inr rfl))
        · exact .inl rfl
  rcases hc with e | e | e | e <;> rw [e]
  · exact num_nil w
  · exact num_arg A w (h.weak (by decide))
  · exact num_order A w h
  · exact num_kind A w h
end Go.Proofs.YtiihnoohodklhaaDoor
