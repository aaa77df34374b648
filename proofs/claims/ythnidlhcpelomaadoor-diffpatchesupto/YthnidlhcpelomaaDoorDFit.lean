import Derived.Test.YthnidlhcpelomaaDoorDCf
import Derived.BigRegion
import Derived.BigQuiet
import Derived.Deep.RegionHeld3
namespace Go.Proofs.YthnidlhcpelomaaDoor
open Go.RowKit
attribute [local go_sem ↓] Go.wp_at_zero Go.wp_at_succ

/-- A pointer to a change, or none. -/
def PtC (w : World) (v : Value) (k : ByteArray) : Option ChV → Prop
  | none => v = .pointer none
  | some x => ∃ g o, v = .pointer (some ⟨g, o, none⟩) ∧ ChAt w g o (k, x)
def fitB (x : ChV) (t : Bool) (v : ByteArray) : Bool := x.had == t && decide (x.old = v)
set_option maxHeartbeats 1000000 in
theorem fits_any (k : ByteArray) (x : ChV) (t : Bool) (v : ByteArray) (w : World) : Calls Tryd.prog 58 #[chA k x, .bool t, .string v] w fun e w' => e = .returned (.bool (fitB x t v)) ∧ Below w.heap.size w w' := by
  obtain ⟨had, has, old, new⟩ := x
  unfold chA fitB
  have HE := hide (list_eq old v)
  have HB := hide (below_new w (.cells #[.string k, .bool had, .bool has, .string old, .string new] 44))
  cases had <;> cases t <;>
    (go_enter Tryd.func58, Tryd.ntmps58
     go_wp2
     go_ret
     refine ⟨?_, HB.out⟩
     first | rfl | (rw [HE.out]; rfl))
set_option maxHeartbeats 2000000 in
theorem fitsp_any (k : ByteArray) (p : Option ByteArray) (c : Option ChV) (vp vc : Value) (w : World) (hp : PtP w vp k p) (hc : PtC w vc k c) :
    Calls Tryd.prog 43 #[vc, vp] w fun e w' => e = .returned (.bool (okM (p, c))) ∧ Below w.heap.size w w' := by
  have HF : Hid (∀ (x : ChV) (t : Bool) (v : ByteArray) (W : World), Calls Tryd.prog 58 #[.agg #[.string k, .bool x.had, .bool x.has, .string x.old, .string x.new], .bool t, .string v] W fun e w' => e = .returned (.bool (fitB x t v)) ∧ Below W.heap.size W w') := fun x t v W => fits_any k x t v W
  cases c with
  | none =>
    cases (show vc = .pointer none from hc)
    clear HF hp hc
    have HB := hide (Below.refl w.heap.size w)
    go_enter Tryd.func43, Tryd.ntmps43
    go_wp2
    go_ret
    exact ⟨rfl, HB.out⟩
  | some x =>
    obtain ⟨g, o, rfl, c0, c1, c2, c3, c4⟩ := hc
    cases p with
    | none =>
      cases (show vp = .pointer none from hp)
      clear hp
      simp only at c0 c1 c2 c3 c4
      go_enter Tryd.func43, Tryd.ntmps43
      go_wp2_with fail
      refine (HF.out x false nilB _).mono ?_
      rintro e w1 ⟨rfl, hb⟩
      have HB := hide hb
      clear hb c0 c1 c2 c3 c4
      go_wp2
      go_ret
      exact ⟨rfl, HB.out⟩
    | some y =>
      obtain ⟨g2, o2, rfl, d0, d1⟩ := hp
      simp only at c0 c1 c2 c3 c4
      go_enter Tryd.func43, Tryd.ntmps43
      go_wp2_with fail
      go_region_held3 (fun w' => w'.cell? ⟨g, o, none⟩ = some (.string k) ∧ w'.cell? ⟨g, o + 1, none⟩ = some (.bool x.had) ∧ w'.cell? ⟨g, o + 2, none⟩ = some (.bool x.has) ∧ w'.cell? ⟨g, o + 3, none⟩ = some (.string x.old) ∧ w'.cell? ⟨g, o + 4, none⟩ = some (.string x.new) ∧ w'.cell? ⟨g2, o2 + 1, none⟩ = some (.string y)) (go_keep)
        ((go_at_call 58; refine (HF.out x true y _).mono ?_; rintro e w6 ⟨rfl, hg⟩; have HB6 : Hid (Below w.heap.size w w6) := ⟨hg.os, hg.tape, hg.output, hg.size, hg.block⟩; have z0 := cell_bel HB6.out c0; have z1 := cell_bel HB6.out c1; have z2 := cell_bel HB6.out c2; have z3 := cell_bel HB6.out c3; have z4 := cell_bel HB6.out c4; have z5 := cell_bel HB6.out d1; clear hg))
      go_wp2
      go_ret
      exact ⟨rfl, HB6.out⟩
end Go.Proofs.YthnidlhcpelomaaDoor
