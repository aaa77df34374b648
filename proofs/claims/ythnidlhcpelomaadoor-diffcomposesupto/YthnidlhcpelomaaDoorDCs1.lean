import Derived.Test.YthnidlhcpelomaaDoorDAp2
import Derived.Test.YthnidlhcpelomaaDoorDCmp
import Derived.Test.YthnidlhcpelomaaDoorDRc
import Derived.Test.YthnidlhcpelomaaDoorDOtc
import Derived.Test.YthnidlhcpelomaaDoorNU
namespace Go.Proofs.YthnidlhcpelomaaDoor
open Go.RowKit

/-! Compose, the program's and the document's, in one form each. -/
def cO (a b : List Ch) : Option (List Ch) := if (riseB a && riseB b) = true then composeD a b else none
def cK (a b : List Ch) : Nat := if (riseB a && riseB b) = true then (match composeD a b with | none => 1 | some _ => 0) else 2
def cL (a b : List Ch) : List Ch := (cO a b).getD []
def eC (A : Nat → Addr) : Nat → Value
  | 0 => .nilIface
  | 1 => .iface 102 (.pointer (some (A 5)))
  | _ => .iface 102 (.pointer (some (A 11)))
def nC : Nat → Int
  | 0 => 0
  | 1 => 6
  | _ => 12
theorem cL_len (a b : List Ch) : (cL a b).length ≤ a.length + b.length := by
  unfold cL cO
  split
  · unfold composeD
    split
    · show (fm (fun e => actV (joinV e)) (side a b)).length ≤ _
      exact Nat.le_trans (fm_len _ _) (side_len a b)
    · simp
  · simp
theorem compose_u (A : Nat → Addr) (va vb : Value) (a b : List Ch) (w : World) (hA : ChR w va a) (hB : ChR w vb b) (hoa : OkC a) (hob : OkC b) (hn : (a.length + b.length + 1) * 56 ≤ 140737488355328) (hE : ErrsG 13 gAll A w) :
    Calls Tryd.prog 17 #[va, vb] w fun e w' => ∃ x c, e = .returned (.tuple #[.slice x (cL a b).length c, eC A (cK a b)]) ∧ ChO w' w.heap.size (.slice x (cL a b).length c) (cL a b) ∧ Below w.heap.size w w' := by
  refine (compose_any va vb a b w hA hB hoa hob hn (A 11) (A 5) (hE.1 11 (by decide)).1 (hE.1 5 (by decide)).1).mono ?_
  rintro e w' ⟨hb, ⟨hr, rfl⟩ | ⟨hr, hn', rfl⟩ | ⟨hr, v, l, hs, rfl, ho⟩⟩
  · refine ⟨none, 0, ?_, ?_, hb⟩
    · simp [cL, cO, cK, hr, eC]
    · simp [cL, cO, hr]; exact ChO.nil _ _
  · refine ⟨none, 0, ?_, ?_, hb⟩
    · simp [cL, cO, cK, hr, hn', eC]
    · simp [cL, cO, hr, hn']; exact ChO.nil _ _
  · obtain ⟨x, c, rfl⟩ := ho.form
    have h1 : cL a b = l := by simp [cL, cO, hr, hs]
    rw [h1]
    exact ⟨x, c, by simp [cK, hr, hs, eC], ho, hb⟩
theorem rcompose_u (va vb : Value) (a b : List Ch) (w : World) (hA : ChR w va a) (hB : ChR w vb b) (hn : (a.length + b.length + 1) * 56 ≤ 140737488355328) :
    Calls Tryd.prog 19 #[va, vb] w fun e w' => ∃ x c, e = .returned (.tuple #[.slice x (cL a b).length c, .int .i64 (nC (cK a b))]) ∧ ChO w' w.heap.size (.slice x (cL a b).length c) (cL a b) ∧ Below w.heap.size w w' := by
  refine (rcompose_any va vb a b w hA hB hn).mono ?_
  rintro e w' ⟨hb, ⟨hr, rfl⟩ | ⟨hr, hn', rfl⟩ | ⟨hr, v, l, hs, rfl, ho⟩⟩
  · refine ⟨none, 0, ?_, ?_, hb⟩
    · simp [cL, cO, cK, hr, nC]
    · simp [cL, cO, hr]; exact ChO.nil _ _
  · refine ⟨none, 0, ?_, ?_, hb⟩
    · simp [cL, cO, cK, hr, hn', nC]
    · simp [cL, cO, hr, hn']; exact ChO.nil _ _
  · obtain ⟨x, c, rfl⟩ := ho.form
    have h1 : cL a b = l := by simp [cL, cO, hr, hs]
    rw [h1]
    exact ⟨x, c, by simp [cK, hr, hs, nC], ho, hb⟩
set_option maxHeartbeats 1600000 in
theorem num_lost (A : Nat → Addr) (w : World) (h : ErrsG 13 gAll A w) : Calls Tryd.prog 10 #[.iface 102 (.pointer (some (A 5)))] w fun e w' => e = .returned (.int .i64 6) ∧ w = w' := by
  have c0 : w.cell? ⟨1, 0, none⟩ = some (.iface 102 (.pointer (some (A 0)))) := (h.1 0 (by decide)).1
  have c1 : w.cell? ⟨2, 0, none⟩ = some (.iface 102 (.pointer (some (A 1)))) := (h.1 1 (by decide)).1
  have c2 : w.cell? ⟨3, 0, none⟩ = some (.iface 102 (.pointer (some (A 2)))) := (h.1 2 (by decide)).1
  have c3 : w.cell? ⟨4, 0, none⟩ = some (.iface 102 (.pointer (some (A 3)))) := (h.1 3 (by decide)).1
  have c4 : w.cell? ⟨5, 0, none⟩ = some (.iface 102 (.pointer (some (A 4)))) := (h.1 4 (by decide)).1
  have c5 : w.cell? ⟨6, 0, none⟩ = some (.iface 102 (.pointer (some (A 5)))) := (h.1 5 (by decide)).1
  have e0 := eq_other A 5 0 w h (by decide) (by decide) (by decide)
  have e1 := eq_other A 5 1 w h (by decide) (by decide) (by decide)
  have e2 := eq_other A 5 2 w h (by decide) (by decide) (by decide)
  have e3 := eq_other A 5 3 w h (by decide) (by decide) (by decide)
  have e4 := eq_other A 5 4 w h (by decide) (by decide) (by decide)
  have e5 := eq_same A 5
  clear h
  go_enter Tryd.func10, Tryd.ntmps10
  go_wp2
  go_ret
  exact ⟨rfl, rfl⟩
theorem num_c (A : Nat → Addr) (r : Nat) (w : World) (hE : ErrsG 13 gAll A w) : Calls Tryd.prog 10 #[eC A r] w fun e w' => e = .returned (.int .i64 (nC r)) ∧ w = w' := by
  match r with
  | 0 => exact num_nil w
  | 1 => exact num_lost A w hE
  | r + 2 => exact num_order A w hE
theorem inv_u {fn : Nat} {v : Value} {l : List Ch} {w : World} (h : Calls Tryd.prog fn #[v] w fun e w' => ∃ v', e = .returned v' ∧ ChO w' w.heap.size v' (invertD l) ∧ Below w.heap.size w w') :
    Calls Tryd.prog fn #[v] w fun e w' => ∃ x c, e = .returned (.slice x (invertD l).length c) ∧ ChO w' w.heap.size (.slice x (invertD l).length c) (invertD l) ∧ Below w.heap.size w w' := by
  refine h.mono ?_
  rintro e w' ⟨v', rfl, ho, hb⟩
  obtain ⟨x, c, rfl⟩ := ho.form
  exact ⟨x, c, rfl, ho, hb⟩
theorem inv_len (l : List Ch) : (invertD l).length = l.length := by simp [invertD]
/-- What the law stands on: the argument's box, the two lists with one more behind each. -/
structure LSc (w : World) (vA vB vL vM : Value) (ga gb ca cb : Nat) (xa xb : List Ch) (W : World) : Prop where
  hb : Below w.heap.size w W
  bx : W.heap[w.heap.size]? = some (.cells #[vA, vB, vL, vM] 25 (0, 0))
  pa : ChO W w.heap.size (.slice (some ⟨ga, 0, none⟩) (xa.length + 1) ca) (xa ++ [bhC])
  pb : ChO W w.heap.size (.slice (some ⟨gb, 0, none⟩) (xb.length + 1) cb) (xb ++ [bhC])
  ne : ga ≠ gb
section
variable {w : World} {vA vB vL vM : Value} {ga gb ca cb : Nat} {xa xb : List Ch} {W W' : World}
theorem LSc.below (h : LSc w vA vB vL vM ga gb ca cb xa xb W) (hb : Below W.heap.size W W') : LSc w vA vB vL vM ga gb ca cb xa xb W' :=
  ⟨Below.next h.hb hb, (hb.block _ (Array.getElem?_eq_some_iff.1 h.bx).1).trans h.bx, h.pa.below hb, h.pb.below hb, h.ne⟩
theorem cho_blk {base n c g : Nat} {l : List Ch} (h : ChO W base (.slice (some ⟨g, 0, none⟩) n c) l) : base ≤ g ∧ g < W.heap.size := h.blk g rfl
theorem own_lt {g n c B : Nat} (h : g < B) : ∀ k, (Value.slice (some ⟨g, 0, none⟩) n c).ownBlock = some k → k < B := fun k hk => by
  have hk' : g = k := by simpa [Value.ownBlock] using hk
  omega
theorem LSc.under (h : LSc w vA vB vL vM ga gb ca cb xa xb W) (B : Nat) (h0 : w.heap.size < B) (h1 : ga < B) (h2 : gb < B) (hb : Below B W W') : LSc w vA vB vL vM ga gb ca cb xa xb W' :=
  ⟨h.hb.trans ⟨hb.os, hb.tape, hb.output, hb.size, fun k hk => hb.block k (Nat.lt_trans hk h0)⟩, (hb.block _ h0).trans h.bx, cho_same h.pa (fun k hk => hb.block k (own_lt h1 k hk)), cho_same h.pb (fun k hk => hb.block k (own_lt h2 k hk)), h.ne⟩
theorem LSc.sole (h : LSc w vA vB vL vM ga gb ca cb xa xb W) (hs : Sole ga W W') {ya : List Ch} (hp : ChO W' w.heap.size (.slice (some ⟨ga, 0, none⟩) (ya.length + 1) ca) (ya ++ [bhC])) : LSc w vA vB vL vM ga gb ca cb ya xb W' := by
  refine ⟨hs.below h.hb (cho_blk h.pa).1, (hs.block _ (Array.getElem?_eq_some_iff.1 h.bx).1 (fun e => ?_)).trans h.bx, hp, cho_same h.pb (fun k hk => ?_), h.ne⟩
  · obtain ⟨cs, he⟩ := h.pa.kind ga _ rfl (e ▸ h.bx)
    simp at he
  · have hk' : gb = k := by simpa [Value.ownBlock] using hk
    subst hk'
    exact hs.block gb (cho_blk h.pb).2 (fun e => h.ne e.symm)
theorem LSc.b2 (h : LSc w vA vB vL vM ga gb ca cb xa xb W) : W.cell? ⟨w.heap.size, 2, none⟩ = some vL ∧ W.cell? ⟨w.heap.size, 3, none⟩ = some vM := by
  exact ⟨by rw [cell_of_row _ _ _ _ _ _ h.bx]; rfl, by rw [cell_of_row _ _ _ _ _ _ h.bx]; rfl⟩
theorem LSc.ra (h : LSc w vA vB vL vM ga gb ca cb xa xb W) : ChR W (.slice (some ⟨ga, 0, none⟩) xa.length ca) xa := by
  have := h.pa.at.take (m := xa.length) (by omega)
  rwa [List.take_left'] at this
  rfl
theorem LSc.rb (h : LSc w vA vB vL vM ga gb ca cb xa xb W) : ChR W (.slice (some ⟨gb, 0, none⟩) xb.length cb) xb := by
  have := h.pb.at.take (m := xb.length) (by omega)
  rwa [List.take_left'] at this
  rfl
end
end Go.Proofs.YthnidlhcpelomaaDoor
