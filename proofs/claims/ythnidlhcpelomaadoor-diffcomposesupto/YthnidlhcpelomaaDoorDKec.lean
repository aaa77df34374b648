import Derived.Test.YthnidlhcpelomaaDoorDKep
namespace Go.Proofs.YthnidlhcpelomaaDoor
open Go.RowKit
attribute [local go_sem ↓] Go.wp_at_zero Go.wp_at_succ

abbrev bhC : Ch := (behindB, ⟨false, true, ⟨#[]⟩, behindB⟩)
set_option maxHeartbeats 4000000 in
theorem keptc_any (vf vl : Value) (l : List Ch) (w : World) (hF : ChR w vf (l ++ [bhC])) (hL : ChR w vl l) (hm : l.length ≤ 1099511627776) :
    Calls Tryd.prog 21 #[vf, vl] w fun e w' => e = .returned (.bool true) ∧ Below w.heap.size w w' := by
  obtain ⟨a2, c2, rfl⟩ : ∃ a c, vl = .slice a l.length c := by obtain ⟨x, y, h, _⟩ := hL; exact ⟨x, y, h⟩
  obtain ⟨n, hnl⟩ : ∃ n, n = l.length := ⟨_, rfl⟩
  obtain ⟨a1, cap, rfl, hle, hz, hc⟩ := id hF
  have hlen : (l ++ [bhC]).length = n + 1 := by rw [List.length_append, ← hnl]; rfl
  rw [hlen] at hle hF ⊢
  rw [← hnl] at hL hm ⊢
  obtain ⟨g, o, rfl, hd⟩ := hc n (by omega)
  clear hc
  have hlast : (l ++ [bhC])[n]'(by omega) = bhC := by subst hnl; simp
  rw [hlast] at hd
  obtain ⟨d0, d1, d2, d3, d4⟩ := hd
  simp only at d0 d1 d2 d3 d4
  clear hlast
  have HS : Hid (∀ V, Below w.heap.size w V → Calls Tryd.prog 11 #[.slice (some ⟨g, o, none⟩) n cap, .slice a2 n c2] V fun e w' => e = .returned (.bool true) ∧ Below V.heap.size V w') := fun V hV => by
    have ht := (hF.below hV).take (m := n) (Nat.le_succ n)
    have he : (l ++ [bhC]).take n = l := by rw [hnl, List.take_left']; rfl
    rw [he] at ht
    exact samec_same _ _ l V (by omega) ht (hL.below hV)
  have i0 : (0 : Int) ≤ (n : Int) := by omega
  have i1 : (n : Int) < ((n + 1 : Nat) : Int) := by omega
  have i2 : n ≤ cap := by omega
  have i3 : (n : Int) ≤ (cap : Int) := by omega
  have hwn : IntKind.i64.wrap ((n : Int) + 1) = ((n + 1 : Nat) : Int) := by rw [IntKind.wrap_i64]; omega
  have hwn2 : wrap64 ((n : Int) + 1) = ((n + 1 : Nat) : Int) := by unfold wrap64; omega
  obtain ⟨n1, hn1⟩ : ∃ m, m = n + 1 := ⟨_, rfl⟩
  rw [← hn1] at i1 hwn hwn2 ⊢
  have hself := fun w => (show (binOp .eql 44 (.agg #[.string behindB, .bool false, .bool true, .string ⟨#[]⟩, .string behindB]) (.agg #[.string behindB, .bool false, .bool true, .string ⟨#[]⟩, .string behindB])).run Tryd.prog w = .ok (.bool true) w from ch_self w behindB ⟨false, true, ⟨#[]⟩, behindB⟩)
  clear hF hL hlen hnl hle hz hn1
  go_enter Tryd.func21, Tryd.ntmps21
  go_wp2_with fail
  go_region_held3 (fun w' => w'.cell? ⟨g, o + n * 5, none⟩ = some (.string behindB) ∧ w'.cell? ⟨g, o + n * 5 + 1, none⟩ = some (.bool false) ∧ w'.cell? ⟨g, o + n * 5 + 2, none⟩ = some (.bool true) ∧ w'.cell? ⟨g, o + n * 5 + 3, none⟩ = some (.string ⟨#[]⟩) ∧ w'.cell? ⟨g, o + n * 5 + 4, none⟩ = some (.string behindB)) (go_keep)
    (first
      | (have hq := HB6; clear hq; go_at_call 16; refine (show Calls Tryd.prog 16 #[] _ fun e w' => e = .returned (.agg #[.string behindB, .bool false, .bool true, .string ⟨#[]⟩, .string behindB]) ∧ Below _ _ w' from lastc_any _).mono ?_; rintro e w7 ⟨rfl, hg⟩; have HB7 : Hid (Below w.heap.size w w7) := (by first | exact Below.next HB6.out hg | exact Below.next HB6.out ⟨hg.os, hg.tape, hg.output, hg.size, hg.block⟩); have z0 := cell_bel HB7.out d0; have z1 := cell_bel HB7.out d1; have z2 := cell_bel HB7.out d2; have z3 := cell_bel HB7.out d3; have z4 := cell_bel HB7.out d4; clear hg)
      | (go_at_call 11; refine (HS.out _ ?_).mono ?_; (first | exact Below.refl _ _ | exact (Below.refl _ _).drew | exact below_drewN2 (Below.refl _ _) _); rintro e w6 ⟨rfl, hg⟩; have HB6 : Hid (Below w.heap.size w w6) := ⟨hg.os, hg.tape, hg.output, hg.size, hg.block⟩; have z0 := cell_bel HB6.out d0; have z1 := cell_bel HB6.out d1; have z2 := cell_bel HB6.out d2; have z3 := cell_bel HB6.out d3; have z4 := cell_bel HB6.out d4; clear hg))
  go_wp2
  go_ret
  exact ⟨rfl, HB7.out⟩
end Go.Proofs.YthnidlhcpelomaaDoor
