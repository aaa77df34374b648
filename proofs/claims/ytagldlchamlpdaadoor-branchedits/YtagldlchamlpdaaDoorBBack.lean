import Derived.Test.YtagldlchamlpdaaDoorBSizes
import Derived.RangeFuncNested
import Derived.RangeFuncBound
import Derived.RangeFuncCalls
import Derived.RangeFuncLeaves
import Derived.Shelf.Abstract
import Derived.Shelf.RegionOpen
import Derived.OwnWalkIn
import Derived.TacticsInMore
import Derived.LoopNIn
import Derived.LoopIn
namespace Go.Proofs.YtagldlchamlpdaaDoor
open Go.RowKit Go.Shelf
attribute [local go_sem] Oper.semAt_some

/-- What has come, from the back, when k rounds are over. -/
def backL (ls : List Lk) (k : Nat) : List (Nat × Lk) := (List.range k).map fun j => (ls.length - 1 - j, ls.getD (ls.length - 1 - j) (⟨#[]⟩, 0))
theorem backL_len (ls : List Lk) (k : Nat) : (backL ls k).length = k := by simp [backL]
theorem backL_succ (ls : List Lk) (k : Nat) : backL ls (k + 1) = backL ls k ++ [(ls.length - 1 - k, ls.getD (ls.length - 1 - k) (⟨#[]⟩, 0))] := by simp [backL, List.range_succ]
/-- A link and its number, as they are handed over. -/
def encB (x : Nat × Lk) : Array Value := #[.int .i64 (x.1 : Int), .agg #[.string x.2.1, .int .i64 x.2.2]]

set_option maxRecDepth 100000 in
set_option maxHeartbeats 1000000 in
theorem back1_in (F : Fence) (n : Nat) (hB : F.fn 93) (hro : F.round = none) (hn : 1 ≤ n) (l Bs : Nat) (v : Value) (ls : List Lk) (w0 : World) (hm : ls.length ≤ 5864062014805) (hr : LkR w0 v ls) (hc : w0.cell? ⟨Bs, 0, none⟩ = some v) (J Jx : List (Nat × Lk) → World → Prop)
    (hY : ∀ pre x W, J pre W → pre.length < ls.length → YieldAt F (n - 1) Tryd.prog l (encB x) W fun e W' =>
      (e = .returned (.bool true) ∧ J (pre ++ [x]) W' ∧ Below w0.heap.size W W') ∨ (e = .returned (.bool false) ∧ Jx (pre ++ [x]) W'))
    (W : World) (hW : Below w0.heap.size w0 W) (h0 : J [] W) :
    CallsIn F n Tryd.prog 93 #[.func (.yield l) #[] #[], .pointer (some ⟨Bs, 0, none⟩)] W fun e W' => (∃ v, e = .returned v) ∧
      ((∃ ys, ys = backL ls ls.length ∧ J ys W') ∨ (∃ pre, (∃ k, k < ls.length ∧ pre = backL ls (k + 1)) ∧ Jx pre W')) := by
  obtain ⟨a, cap, hv, _, _, hcs⟩ := hr
  subst hv
  obtain ⟨q, hq⟩ : ∃ q, q = ls.length := ⟨_, rfl⟩
  rw [← hq] at hm hc
  have HQ := hide hq
  have HCS := hide hcs
  have HY := hide hY
  have HW := hide hW
  have HC := hide hc
  have HBL := hide (World.block_lt_of_cell? w0 _ hc)
  have hcW : W.cell? ⟨Bs, 0, none⟩ = some (.slice a q cap) := (hW.cell (p := ⟨Bs, 0, none⟩) (World.block_lt_of_cell? w0 _ hc)).trans hc
  have hwq : IntKind.i64.wrap ((q : Int) - 1) = (q : Int) - 1 := by rw [IntKind.wrap_i64]; omega
  clear hcs hY hW hc hq
  refine callsIn_of_wp Tryd.func93 rfl hB ?_ hro
  simp only [Tryd.ntmps93, List.size_toArray, List.length_cons, List.length_nil, Nat.reduceAdd, Nat.reduceSub, Array.replicate_succ, Array.replicate_zero, List.push_toArray, List.append_toArray, List.nil_append, List.cons_append]
  gi_wp2
  gi_loopw [3] (fun i wr => ∃ k : Nat, k ≤ q ∧ i = .int .i64 ((q : Int) - 1 - (k : Int)) ∧ J (backL ls k) wr ∧ Below w0.heap.size w0 wr)
    (fun i _ => (intOf i + 1).toNat)
  case atStart => exact ⟨0, Nat.zero_le _, by simp, h0, HW.out⟩
  case round =>
    obtain ⟨k, hk, rfl, hJs, hnx⟩ := hrel
    have hcx : wr.cell? ⟨Bs, 0, none⟩ = some (.slice a q cap) := (hnx.cell (p := ⟨Bs, 0, none⟩) HBL.out).trans HC.out
    by_cases hlt : k < q
    · obtain ⟨j, hj⟩ : ∃ j : Nat, (q : Int) - 1 - (k : Int) = (j : Int) := ⟨q - 1 - k, by omega⟩
      have hjl : j < ls.length := by have := HQ.out; omega
      have hjk : ls.length - 1 - k = j := by have := HQ.out; omega
      obtain ⟨g, o, ha, f1, f2⟩ := HCS.out j hjl
      subst ha
      have c1 : wr.cell? ⟨g, o + j * 2, none⟩ = some (.string ls[j].1) := (hnx.cell (p := ⟨g, o + j * 2, none⟩) (World.block_lt_of_cell? w0 _ f1)).trans f1
      have c2 : wr.cell? ⟨g, o + j * 2 + 1, none⟩ = some (.int .i64 ls[j].2) := (hnx.cell (p := ⟨g, o + j * 2 + 1, none⟩) (World.block_lt_of_cell? w0 _ f2)).trans f2
      have HS : Hid (backL ls (k + 1) = backL ls k ++ [(j, ls[j])]) := by
        show _ = _
        rw [backL_succ, hjk, List.getD_eq_getElem?_getD, List.getElem?_eq_getElem hjl]; rfl
      obtain ⟨fn, tmps, assign, body, hy, hR⟩ := HY.out _ (j, ls[j]) wr hJs (by rw [backL_len, ← HQ.out]; exact hlt)
      dsimp only [encB] at hy
      obtain ⟨p, hp⟩ : ∃ p, p = ls[j] := ⟨_, rfl⟩
      rw [← hp] at c1 c2 HS hy hR
      have HN := hide hnx
      have HJ := hide hj
      have hjq : (j : Int) < (q : Int) := by omega
      have hj0 : (0 : Int) ≤ (j : Int) := by omega
      have hw1 : IntKind.i64.wrap ((j : Int) - 1) = (j : Int) - 1 := by rw [IntKind.wrap_i64]; omega
      rw [hj]
      clear hp f1 f2 hnx hJs hj hjl hjk
      gi_wp2
      refine hR.mono ?_
      rintro e W3 (⟨rfl, hJ3, hk3⟩ | ⟨rfl, hJx3⟩)
      · gi_wp2
        go_roundw
        case rel => exact ⟨k + 1, by omega, by have := HJ.out; congr 1; omega, by rw [HS.out]; exact hJ3, HN.out.trans hk3⟩
        case measure => simp [intOf]
      · gi_wp2
        refine bodyPost_ret (results_none rfl _ _ _) rfl ?_
        exact ⟨⟨_, rfl⟩, .inr ⟨_, ⟨k, by rw [← HQ.out]; exact hlt, HS.out.symm⟩, hJx3⟩⟩
    · have hkq : k = q := by omega
      subst hkq
      have hneg : ¬ (0 : Int) ≤ (k : Int) - 1 - (k : Int) := by omega
      gi_wp2
      go_end0
      exact ⟨⟨_, rfl⟩, .inl (by rw [← HQ.out]; exact hJs)⟩
end Go.Proofs.YtagldlchamlpdaaDoor
