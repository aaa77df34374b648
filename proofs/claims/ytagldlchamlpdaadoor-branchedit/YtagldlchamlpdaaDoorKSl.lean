import Derived.Test.YtagldlchamlpdaaDoorLkOwn
namespace Go.Proofs.YtagldlchamlpdaaDoor
open Go.RowKit

set_option maxRecDepth 20000 in
theorem slToK (w : World) (a : Option Addr) (n cap m : Nat) (hm : m ≤ cap) : (Instr.sliceAt 25 (.slice a n cap) none (some (.int .i64 (m : Int))) none).run Tryd.prog w = .ok (.slice a m cap) w := by
  rw [run_sliceAt_slice (h := Tryd.underlying25), run_slice_h (ht := Tryd.underlying25) (h0 := by omega) (h2 := by omega)]
  have hz : (sizeOf (Tryd.prog.elem 25)).run Tryd.prog w = .ok 2 w := by kernel_rfl
  rw [hz]
  simp [Result.andThen, sliced, Addr.add]
set_option maxRecDepth 20000 in
theorem LkR.drop {w : World} {a : Option Addr} {n m cap : Nat} {l : List Lk} (h : LkR w (.slice a n cap) l) (hm : m ≤ n) :
    ∃ a', LkR w (.slice a' (n - m) (cap - m)) (l.drop m) ∧ ∀ w', (Instr.sliceAt 25 (.slice a n cap) (some (.int .i64 (m : Int))) none none).run Tryd.prog w' = .ok (.slice a' (n - m) (cap - m)) w' := by
  obtain ⟨a', cap', he, hle, hn, hc⟩ := h
  cases he
  refine ⟨if cap = m then a else a.map (·.add (m * 2)), ⟨_, _, by rw [List.length_drop], by rw [List.length_drop]; omega, fun ha => ?_, fun j hj => ?_⟩, fun w' => ?_⟩
  · split at ha
    · omega
    · cases a with
      | none => have := hn rfl; omega
      | some x => cases ha
  · rw [List.length_drop] at hj
    obtain ⟨g, o, ha, h1, h2⟩ := hc (m + j) (by omega)
    subst ha
    refine ⟨g, o + m * 2, ?_, ?_, ?_⟩
    · rw [if_neg (by omega)]; simp [add_plain']
    · rw [List.getElem_drop, show o + m * 2 + j * 2 = o + (m + j) * 2 by omega]; exact h1
    · rw [List.getElem_drop, show o + m * 2 + j * 2 + 1 = o + (m + j) * 2 + 1 by omega]; exact h2
  · rw [run_sliceAt_slice (h := Tryd.underlying25), run_slice_l (ht := Tryd.underlying25) (h0 := by omega) (h1 := by omega)]
    have hz : (sizeOf (Tryd.prog.elem 25)).run Tryd.prog w' = .ok 2 w' := by kernel_rfl
    rw [hz]
    simp [Result.andThen, sliced]

end Go.Proofs.YtagldlchamlpdaaDoor
