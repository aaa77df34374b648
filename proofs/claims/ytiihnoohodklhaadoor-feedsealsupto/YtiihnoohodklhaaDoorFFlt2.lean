import Derived.Test.YtiihnoohodklhaaDoorFFlt
import Derived.Test.YtiihnoohodklhaaDoorNU
namespace Go.Proofs.YtiihnoohodklhaaDoor
open Go.RowKit
attribute [local go_sem ↓] Go.wp_at_zero Go.wp_at_succ

/-- Why there is no batch, as a number: 0, if there is one. -/
def fK (fr tt : Nat) (l : List Ch) : Nat := if tt ≤ fr ∨ l.any notC = true then 1 else if riseB l = false then 2 else if l.any isO = true then 3 else 0
def eF (A : Nat → Addr) : Nat → Value
  | 0 => .nilIface
  | 1 => .iface 70 (.pointer (some (A 0)))
  | 2 => .iface 70 (.pointer (some (A 11)))
  | _ => .iface 70 (.pointer (some (A 12)))
def nF : Nat → Int
  | 0 => 0
  | 1 => 1
  | 2 => 12
  | _ => 13
set_option maxHeartbeats 2000000 in
theorem bfault_any (A : Nat → Addr) (fr tt : Nat) (v : Value) (l : List Ch) (w : World) (hE : ErrsG 13 gAll A w) (hm : l.length ≤ 140737488355328) (hr : ChR w v l) :
    Calls Tryd.prog 10 #[.int .u64 (fr : Int), .int .u64 (tt : Int), v] w fun e w' => e = .returned (eF A (fK fr tt l)) ∧ Below w.heap.size w w' := by
  have c0 : w.cell? ⟨0, 0, none⟩ = some (.iface 70 (.pointer (some (A 0)))) := (hE.1 0 (by decide)).1
  have c1 : w.cell? ⟨7, 0, none⟩ = some (.iface 70 (.pointer (some (A 11)))) := (hE.1 11 (by decide)).1
  have c2 : w.cell? ⟨8, 0, none⟩ = some (.iface 70 (.pointer (some (A 12)))) := (hE.1 12 (by decide)).1
  have HN := hide (fun W (hb : Below w.heap.size w W) => anynot_any v l W hm (hr.below hb))
  have HO := hide (fun W (hb : Below w.heap.size w W) => anyown_any v l W hm (hr.below hb))
  have HR := hide (fun W (hb : Below w.heap.size w W) => frises_any v l W hm (hr.below hb))
  obtain ⟨a, cap, rfl⟩ := hr.form
  clear hE hr
  unfold fK
  generalize l.any notC = b1 at *
  generalize l.any isO = b2 at *
  generalize riseB l = b3 at *
  by_cases h0 : tt ≤ fr
  · have h0I : (tt : Int) ≤ (fr : Int) := by omega
    rw [if_pos (Or.inl h0)]
    clear HN HO HR
    go_enter Tryd.func10, Tryd.ntmps10
    go_wp2
    go_ret
    exact ⟨rfl, Below.refl _ _⟩
  · have h0I : ¬ (tt : Int) ≤ (fr : Int) := by omega
    cases b1 with
    | true =>
      rw [if_pos (Or.inr rfl)]
      clear HO HR
      go_enter Tryd.func10, Tryd.ntmps10
      go_wp2_with fail
      refine (HN.out _ (Below.refl _ _)).mono ?_
      rintro e w1 ⟨rfl, hb1⟩
      have d0 := cell_bel hb1 c0
      have HB := hide hb1
      clear hb1 c0 c1 c2 HN
      go_wp2
      go_ret
      exact ⟨rfl, HB.out⟩
    | false =>
      rw [if_neg (by simp [h0])]
      cases b3 with
      | false =>
        rw [if_pos rfl]
        clear HO
        go_enter Tryd.func10, Tryd.ntmps10
        go_wp2_with fail
        refine (HN.out _ (Below.refl _ _)).mono ?_
        rintro e w1 ⟨rfl, hb1⟩
        have d1 := cell_bel hb1 c1
        have HB := hide hb1
        clear hb1 c0 c1 c2 HN
        go_wp2_with fail
        refine (HR.out _ HB.out).mono ?_
        rintro e w2 ⟨rfl, hb2⟩
        have d2 := cell_bel hb2 d1
        have HB2 := hide (Below.next HB.out hb2)
        clear hb2 d1 HB HR
        go_wp2
        go_ret
        exact ⟨rfl, HB2.out⟩
      | true =>
        rw [if_neg (by simp)]
        go_enter Tryd.func10, Tryd.ntmps10
        go_wp2_with fail
        refine (HN.out _ (Below.refl _ _)).mono ?_
        rintro e w1 ⟨rfl, hb1⟩
        have d1 := cell_bel hb1 c2
        have HB := hide hb1
        clear hb1 c0 c1 c2 HN
        go_wp2_with fail
        refine (HR.out _ HB.out).mono ?_
        rintro e w2 ⟨rfl, hb2⟩
        have d2 := cell_bel hb2 d1
        have HB2 := hide (Below.next HB.out hb2)
        clear hb2 d1 HB HR
        go_wp2_with fail
        refine (HO.out _ HB2.out).mono ?_
        rintro e w3 ⟨rfl, hb3⟩
        have d3 := cell_bel hb3 d2
        have HB3 := hide (Below.next HB2.out hb3)
        clear hb3 d2 HB2 HO
        cases b2 <;>
        (go_wp2
         go_ret
         exact ⟨rfl, HB3.out⟩)
end Go.Proofs.YtiihnoohodklhaaDoor
