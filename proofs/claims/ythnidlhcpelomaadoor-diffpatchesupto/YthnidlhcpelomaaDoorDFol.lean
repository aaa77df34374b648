import Derived.Test.YthnidlhcpelomaaDoorDFit
namespace Go.Proofs.YthnidlhcpelomaaDoor
open Go.RowKit
attribute [local go_sem ↓] Go.wp_at_zero Go.wp_at_succ
set_option maxHeartbeats 2000000 in
theorem follows_any (k : ByteArray) (a b : Option ChV) (va vb : Value) (w : World) (ha : PtC w va k a) (hb : PtC w vb k b) :
    Calls Tryd.prog 37 #[va, vb] w fun e w' => e = .returned (.bool (okJ (a, b))) ∧ Below w.heap.size w w' := by
  have HF : Hid (∀ (x : ChV) (t : Bool) (v : ByteArray) (W : World), Calls Tryd.prog 58 #[.agg #[.string k, .bool x.had, .bool x.has, .string x.old, .string x.new], .bool t, .string v] W fun e w' => e = .returned (.bool (fitB x t v)) ∧ Below W.heap.size W w') := fun x t v W => fits_any k x t v W
  have HR := hide (Below.refl w.heap.size w)
  have HD : Hid (∀ n, Below w.heap.size w (w.drewN n)) := fun n => below_drewN2 (Below.refl w.heap.size w) n
  cases a with
  | none =>
    cases (show va = .pointer none from ha)
    have hx : okJ (none, b) = true := by cases b <;> rfl
    have HX := hide hx
    clear hx HF ha
    cases b with
    | none =>
      cases (show vb = .pointer none from hb)
      clear hb
      go_enter Tryd.func37, Tryd.ntmps37
      go_wp2_with fail
      go_quiet (fail)
      go_wp2
      go_ret
      exact ⟨by rw [HX.out]; rfl, HD.out _⟩
    | some y =>
      obtain ⟨g2, o2, rfl, d0, d1, d2, d3, d4⟩ := hb
      clear d0 d1 d2 d3 d4
      go_enter Tryd.func37, Tryd.ntmps37
      go_wp2_with fail
      go_quiet (fail)
      go_wp2
      go_ret
      exact ⟨by rw [HX.out]; rfl, HD.out _⟩
  | some x =>
    obtain ⟨g, o, rfl, c0, c1, c2, c3, c4⟩ := ha
    cases b with
    | none =>
      cases (show vb = .pointer none from hb)
      clear hb HF c0 c1 c2 c3 c4
      go_enter Tryd.func37, Tryd.ntmps37
      go_wp2_with fail
      go_quiet (fail)
      go_wp2
      go_ret
      exact ⟨rfl, HD.out _⟩
    | some y =>
      obtain ⟨g2, o2, rfl, d0, d1, d2, d3, d4⟩ := hb
      simp only at c0 c1 c2 c3 c4 d0 d1 d2 d3 d4
      clear c0 c1 c3
      go_enter Tryd.func37, Tryd.ntmps37
      go_wp2_with fail
      go_region_held3 (fun w' => w'.cell? ⟨g2, o2, none⟩ = some (.string k) ∧ w'.cell? ⟨g2, o2 + 1, none⟩ = some (.bool y.had) ∧ w'.cell? ⟨g2, o2 + 2, none⟩ = some (.bool y.has) ∧ w'.cell? ⟨g2, o2 + 3, none⟩ = some (.string y.old) ∧ w'.cell? ⟨g2, o2 + 4, none⟩ = some (.string y.new) ∧ w'.cell? ⟨g, o + 2, none⟩ = some (.bool x.has) ∧ w'.cell? ⟨g, o + 4, none⟩ = some (.string x.new)) (go_keep)
        ((go_at_call 58; refine (HF.out y x.has x.new _).mono ?_; rintro e w6 ⟨rfl, hg⟩; have HB6 : Hid (Below w.heap.size w w6) := ⟨hg.os, hg.tape, hg.output, hg.size, hg.block⟩; have z0 := cell_bel HB6.out d0; have z1 := cell_bel HB6.out d1; have z2 := cell_bel HB6.out d2; have z3 := cell_bel HB6.out d3; have z4 := cell_bel HB6.out d4; have z5 := cell_bel HB6.out c2; have z6 := cell_bel HB6.out c4; clear hg))
      go_wp2
      go_ret
      exact ⟨rfl, HB6.out⟩
end Go.Proofs.YthnidlhcpelomaaDoor
