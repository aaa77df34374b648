import Derived.Test.YtlopimdnjookeaaDoorMtFn
namespace Go.Proofs.YtlopimdnjookeaaDoor
open Go.RowKit

theorem load512 {w : World} {g : Nat} {l : List UInt8} (h : RowT 69 w g l) (hl : l.length = 512) : (Instr.loadAt 69 (.pointer (some ⟨g, 0, none⟩))).run Tryd.prog w = .ok (.agg (u8s l).toArray) w := by
  simp only [Instr.loadAt, Instr.sureAddr, Sem.run_bind, Sem.run_pure, Result.andThen]
  exact run_loadVar_row w g 69 69 _ (0, 0) _ h under512 rfl (by rw [size512]; simp [u8s_length, hl])

theorem zero512 : ∀ w, (zeroValue 69).run Tryd.prog w = .ok (.agg (u8s (List.replicate 512 0)).toArray) w := (zero_of_info (P := Tryd.prog) (t := 69) (n := 512) (v := .agg (u8s (List.replicate 512 0)).toArray) (by kernel_rfl)).1
theorem sl_all (b : Nat) (w : World) : (Instr.sliceAt 69 (.pointer (some ⟨b, 0, none⟩)) none none none).run Tryd.prog w = .ok (.slice (some ⟨b, 0, none⟩) 512 512) w := by kernel_rfl
theorem sl_8 (b : Nat) (w : World) : (Instr.sliceAt 69 (.pointer (some ⟨b, 0, none⟩)) (some (.int .i64 8)) (some (.int .i64 12)) none).run Tryd.prog w = .ok (.slice (some ⟨b, 8, none⟩) 4 504) w := by kernel_rfl
theorem sl_12 (b : Nat) (w : World) : (Instr.sliceAt 69 (.pointer (some ⟨b, 0, none⟩)) (some (.int .i64 12)) (some (.int .i64 16)) none).run Tryd.prog w = .ok (.slice (some ⟨b, 12, none⟩) 4 500) w := by kernel_rfl
theorem sl_16 (b : Nat) (w : World) : (Instr.sliceAt 69 (.pointer (some ⟨b, 0, none⟩)) (some (.int .i64 16)) (some (.int .i64 24)) none).run Tryd.prog w = .ok (.slice (some ⟨b, 16, none⟩) 8 496) w := by kernel_rfl
theorem sl_24 (b : Nat) (w : World) : (Instr.sliceAt 69 (.pointer (some ⟨b, 0, none⟩)) (some (.int .i64 24)) (some (.int .i64 28)) none).run Tryd.prog w = .ok (.slice (some ⟨b, 24, none⟩) 4 488) w := by kernel_rfl

end Go.Proofs.YtlopimdnjookeaaDoor
