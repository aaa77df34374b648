import Derived.Test.YthnidlhcpelomaaDoorSame
namespace Go.Proofs.YthnidlhcpelomaaDoor
open Go.RowKit

/-- Where a slice value's bytes lie. -/
def RdA (w : World) (v : Value) (l : List UInt8) : Prop := ∃ a cap, v = .slice a l.length cap ∧ ∀ j (h : j < l.length), ∃ g o, a = some ⟨g, o, none⟩ ∧ w.cell? ⟨g, o + j, none⟩ = some (.int .u8 (l[j].toNat : Int))
theorem run_str (w : World) (v : Value) (l : List UInt8) (h : RdA w v l) (hl : 0 < l.length) : (convert 66 9 v).run Tryd.prog w = .ok (.string ⟨l.toArray⟩) w := by
  obtain ⟨a, cap, rfl, hc⟩ := h
  obtain ⟨g, o, rfl, _⟩ := hc 0 hl
  refine run_convert_bytes_back w 66 9 5 ⟨g, o, none⟩ cap l Tryd.underlying66 Tryd.underlying5 Tryd.underlying9 (fun j hj => ?_)
  obtain ⟨g', o', he, hcell⟩ := hc j hj
  cases he
  rw [show (⟨g, o, none⟩ : Addr).add j = ⟨g, o + j, none⟩ by simp [Addr.add]]
  exact hcell

end Go.Proofs.YthnidlhcpelomaaDoor
