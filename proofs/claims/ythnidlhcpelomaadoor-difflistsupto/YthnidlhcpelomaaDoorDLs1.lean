import Derived.Test.YthnidlhcpelomaaDoorDAp2
import Derived.Test.YthnidlhcpelomaaDoorDLst
import Derived.Test.YthnidlhcpelomaaDoorDRl
import Derived.Test.YthnidlhcpelomaaDoorDOth
import Derived.Test.YthnidlhcpelomaaDoorDRs
import Derived.Test.YthnidlhcpelomaaDoorNU
namespace Go.Proofs.YthnidlhcpelomaaDoor
open Go.RowKit

/-! Lists, the program's and the document's, in one form each. -/
def dR (a b : List Pr) : Bool := riseB a && riseB b
def dL (a b : List Pr) : List Ch := if dR a b = true then listsD a b else []
def eL (A : Nat → Addr) (r : Bool) : Value := if r = true then .nilIface else .iface 102 (.pointer (some (A 11)))
def nL (r : Bool) : Int := if r = true then 0 else 12
theorem dL_len (a b : List Pr) : (dL a b).length ≤ a.length + b.length := by
  unfold dL
  split
  · exact lists_len a b
  · simp
theorem lists_u (A : Nat → Addr) (va vb : Value) (a b : List Pr) (w : World) (hA : PrR w va a) (hB : PrR w vb b) (hoa : OkL a) (hob : OkL b) (hn : (a.length + b.length + 1) * 56 ≤ 140737488355328) (hE : ErrsG 13 gAll A w) :
    Calls Tryd.prog 8 #[va, vb] w fun e w' => ∃ x c, e = .returned (.tuple #[.slice x (dL a b).length c, eL A (dR a b)]) ∧ ChO w' w.heap.size (.slice x (dL a b).length c) (dL a b) ∧ Below w.heap.size w w' := by
  refine (lists_any va vb a b w hA hB hoa hob hn (A 11) (hE.1 11 (by decide)).1).mono ?_
  rintro e w' ⟨hb, ⟨hr, rfl⟩ | ⟨hr, v, rfl, ho⟩⟩
  · have h1 : dR a b = false := hr
    refine ⟨none, 0, ?_, ?_, hb⟩
    · unfold dL eL; rw [h1]; rfl
    · unfold dL; rw [h1]; exact ChO.nil _ _
  · have h1 : dR a b = true := hr
    have h2 : dL a b = listsD a b := by unfold dL; rw [h1]; rfl
    rw [h2]
    obtain ⟨x, c, rfl⟩ := ho.form
    refine ⟨x, c, ?_, ho, hb⟩
    unfold eL; rw [h1]; rfl
theorem rlists_u (va vb : Value) (a b : List Pr) (w : World) (hA : PrR w va a) (hB : PrR w vb b) (hn : (a.length + b.length + 1) * 56 ≤ 140737488355328) :
    Calls Tryd.prog 9 #[va, vb] w fun e w' => ∃ x c, e = .returned (.tuple #[.slice x (dL a b).length c, .int .i64 (nL (dR a b))]) ∧ ChO w' w.heap.size (.slice x (dL a b).length c) (dL a b) ∧ Below w.heap.size w w' := by
  refine (rlists_any va vb a b w hA hB hn).mono ?_
  rintro e w' ⟨hb, ⟨hr, rfl⟩ | ⟨hr, v, rfl, ho⟩⟩
  · have h1 : dR a b = false := hr
    refine ⟨none, 0, ?_, ?_, hb⟩
    · unfold dL nL; rw [h1]; rfl
    · unfold dL; rw [h1]; exact ChO.nil _ _
  · have h1 : dR a b = true := hr
    have h2 : dL a b = listsD a b := by unfold dL; rw [h1]; rfl
    rw [h2]
    obtain ⟨x, c, rfl⟩ := ho.form
    refine ⟨x, c, ?_, ho, hb⟩
    unfold nL; rw [h1]; rfl
theorem num_u (A : Nat → Addr) (r : Bool) (w : World) (hE : ErrsG 13 gAll A w) : Calls Tryd.prog 10 #[eL A r] w fun e w' => e = .returned (.int .i64 (nL r)) ∧ w = w' := by
  cases r with
  | true => exact num_nil w
  | false => exact num_order A w hE
theorem pro_same2 {w w' : World} {base : Nat} {v : Value} {l : List Pr} (h : PrO w base v l) (hv : ∀ k, v.ownBlock = some k → w'.heap[k]? = w.heap[k]?) : PrO w' base v l := by
  refine ⟨h.1, ?_⟩
  rcases h.2 with h' | ⟨g, cap, cur, h', h1, h2, hr⟩
  · exact .inl h'
  · exact .inr ⟨g, cap, cur, h', h1, (hv g (by rw [h']; rfl)).trans h2, hr⟩
def bhP : Pr := (behindB, behindB)
/-- What the law stands on: the argument's box, the two lists with one more behind each. -/
structure LSt (w : World) (vA vB vL vM : Value) (ga gb ca cb : Nat) (xa xb : List Pr) (W : World) : Prop where
  hb : Below w.heap.size w W
  bx : W.heap[w.heap.size]? = some (.cells #[vA, vB, vL, vM] 25 (0, 0))
  pa : PrO W w.heap.size (.slice (some ⟨ga, 0, none⟩) (xa.length + 1) ca) (xa ++ [bhP])
  pb : PrO W w.heap.size (.slice (some ⟨gb, 0, none⟩) (xb.length + 1) cb) (xb ++ [bhP])
  ne : ga ≠ gb
section
variable {w : World} {vA vB vL vM : Value} {ga gb ca cb : Nat} {xa xb : List Pr} {W W' : World}
theorem LSt.below (h : LSt w vA vB vL vM ga gb ca cb xa xb W) (hb : Below W.heap.size W W') : LSt w vA vB vL vM ga gb ca cb xa xb W' :=
  ⟨Below.next h.hb hb, (hb.block _ (Array.getElem?_eq_some_iff.1 h.bx).1).trans h.bx, h.pa.below hb, h.pb.below hb, h.ne⟩
theorem LSt.but (h : LSt w vA vB vL vM ga gb ca cb xa xb W) (hb : But w.heap.size (ofT tCH) W W') : LSt w vA vB vL vM ga gb ca cb xa xb W' :=
  ⟨h.hb.trans (hb.below h.hb.size), hb.same _ _ h.bx (fun e => by simp [ofT, tCH] at e), h.pa.keep fun g cs _ hg => hb.same _ _ hg (fun e => by simp [ofT, tCH] at e), h.pb.keep fun g cs _ hg => hb.same _ _ hg (fun e => by simp [ofT, tCH] at e), h.ne⟩
theorem pro_blk {base n c g : Nat} {l : List Pr} (h : PrO W base (.slice (some ⟨g, 0, none⟩) n c) l) : base ≤ g ∧ g < W.heap.size := h.blk g rfl
theorem LSt.sole (h : LSt w vA vB vL vM ga gb ca cb xa xb W) (hs : Sole ga W W') {ya : List Pr} (hp : PrO W' w.heap.size (.slice (some ⟨ga, 0, none⟩) (ya.length + 1) ca) (ya ++ [bhP])) : LSt w vA vB vL vM ga gb ca cb ya xb W' := by
  have h1 := h.hb.size
  refine ⟨hs.below h.hb (pro_blk h.pa).1, (hs.block _ (Array.getElem?_eq_some_iff.1 h.bx).1 (fun e => ?_)).trans h.bx, hp, pro_same2 h.pb (fun k hk => ?_), h.ne⟩
  · obtain ⟨cs, he⟩ := h.pa.kind ga _ rfl (e ▸ h.bx)
    simp at he
  · have hk' : gb = k := by simpa [Value.ownBlock] using hk
    subst hk'
    exact hs.block gb (pro_blk h.pb).2 (fun e => h.ne e.symm)
theorem LSt.b0 (h : LSt w vA vB vL vM ga gb ca cb xa xb W) : W.cell? ⟨w.heap.size, 0, none⟩ = some vA ∧ W.cell? ⟨w.heap.size, 1, none⟩ = some vB := by
  exact ⟨by rw [cell_of_row _ _ _ _ _ _ h.bx]; rfl, by rw [cell_of_row _ _ _ _ _ _ h.bx]; rfl⟩
theorem LSt.ra (h : LSt w vA vB vL vM ga gb ca cb xa xb W) : PrR W (.slice (some ⟨ga, 0, none⟩) xa.length ca) xa := by
  have := h.pa.at.take (m := xa.length) (by omega)
  rwa [List.take_left'] at this
  rfl
theorem LSt.rb (h : LSt w vA vB vL vM ga gb ca cb xa xb W) : PrR W (.slice (some ⟨gb, 0, none⟩) xb.length cb) xb := by
  have := h.pb.at.take (m := xb.length) (by omega)
  rwa [List.take_left'] at this
  rfl
end
end Go.Proofs.YthnidlhcpelomaaDoor
