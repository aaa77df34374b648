import Derived.Test.YtlopimdnjookeabDoorRDec2
import Derived.Test.YtlopimdnjookeabDoorNum2
import Derived.Deep.DeepCutAuto
namespace Go.Proofs.YtlopimdnjookeabDoor
open Go.RowKit

def marks4 : List UInt8 := [77, 77, 77, 77]
theorem RdA.owns {w : World} {base n : Nat} {v : Value} {l : List UInt8} (h : w.ownsRow base 5 1 v n (u8s l)) : RdA w v l := (rd_of_owns h).any

set_option maxRecDepth 100000 in
set_option maxHeartbeats 2000000 in
theorem copy_rda (v : Value) (l : List UInt8) (w : World) (hs : l.length ≤ 140737488355328) (hv : RdA w v l) :
    Calls Tryd.prog 12 #[v] w fun e w' => ∃ v, e = .returned v ∧ w'.ownsRow w.heap.size 5 1 v l.length (u8s l) ∧ Below w.heap.size w w' := by
  obtain ⟨i0, hi, hz0, hz1, hz2⟩ := info_parts Tryd.info5
  obtain ⟨a, cap, rfl, hc⟩ := hv
  have HC := hide hc
  clear hc
  go_enter Tryd.func12, Tryd.ntmps12
  go_wp2_with fail
  go_loopw [3, 4] (fun v i wr => ∃ k : Nat, k ≤ l.length ∧ i = .int .i64 k ∧ wr.ownsRow w.heap.size 5 1 v k (u8s (l.take k)) ∧ Below w.heap.size w wr)
    (fun _ i _ => l.length - (intOf i).toNat)
  case atStart => exact ⟨0, Nat.zero_le _, rfl, World.ownsRow_nil _ _ _ _, Below.refl _ _⟩
  case round =>
    obtain ⟨k, hk, rfl, hown, hnx⟩ := hrel
    by_cases hlt : k < l.length
    · obtain ⟨g, o, rfl, hck⟩ := HC.out k hlt
      have hcx : wr.cell? ⟨g, o + k, none⟩ = some (.int .u8 (l[k].toNat : Int)) := (hnx.cell (World.block_lt_of_cell? w _ hck)).trans hck
      have HS : Hid (l.take (k + 1) = l.take k ++ [l[k]]) := take_next l k hlt
      have j0 : (0 : Int) ≤ (k : Int) := by omega
      have j1 : (k : Int) < (l.length : Int) := by omega
      clear hck
      go_wp2_with (first
        | (at_builtin; refine wpList_append_lies _ rfl _ _ 22 rfl w.heap.size 5 i0 (.int .u8 0) 1 1 Tryd.underlying22 hi hz0 hz1 hz2 rfl (by decide) _ _ _ rfl (hown.alloc _) ⟨wr.heap.size, 0, none⟩ 1 1 [.int .u8 (l[k].toNat : Int)] rfl rfl ?c1 ?c2 ?c3 ?c4 ?c5 ?c6 (wr.heap.size + 1) ?c7 ?_))
      case c1 =>
        intro j u hj
        match j, hj with
        | 0, hj => simp at hj; subst hj; simp [Addr.add]
      case c2 => intro u hu; simp at hu; subst hu; rfl
      case c3 => decide
      case c4 => unfold maxLen; omega
      case c5 => omega
      case c6 => have := hnx.size; simp; omega
      case c7 => simp
      intro g' cap' w1 hown' hgrow hat hlg
      have hb1 : Below w.heap.size w w1 := (hnx.alloc (by have := hnx.size; omega) _).grown hgrow (by have := hnx.size; simp; omega) (fun j hj => (hown.lt j hj).1)
      have hown2 : w1.ownsRow w.heap.size 5 1 (.slice (some ⟨g', 0, none⟩) (k + 1) cap') (k + 1) (u8s (l.take (k + 1))) := by
        rw [HS.out, u8s_append]; exact hown'
      clear hown' hgrow hown hat hlg hnx hcx
      go_wp2_with fail
      go_roundw
      case rel => exact ⟨k + 1, by omega, by go_num, hown2, hb1⟩
      case measure => simp [intOf]; omega
    · have hke : k = l.length := by omega
      go_wp2_with fail
      go_ret
      subst hke
      refine ⟨_, rfl, ?_, hnx⟩
      have := hown
      rw [List.take_of_length_le (by simp)] at this
      exact this

set_option maxRecDepth 100000 in
set_option maxHeartbeats 2000000 in
theorem lent_any (v : Value) (l : List UInt8) (w : World) (hs : l.length ≤ 140737488351232) (hv : RdA w v l) :
    Calls Tryd.prog 5 #[v] w fun e w' => ∃ g cap, e = .returned (.slice (some ⟨g, 0, none⟩) (l.length + 4) cap) ∧ w'.ownsRow w.heap.size 5 1 (.slice (some ⟨g, 0, none⟩) (l.length + 4) cap) (l.length + 4) (u8s (l ++ marks4)) ∧ Below w.heap.size w w' := by
  obtain ⟨i0, hi, hz0, hz1, hz2⟩ := info_parts Tryd.info5
  have HCP := hide (copy_rda v l w (by omega) hv)
  obtain ⟨va, vc, rfl⟩ := hv.slice
  clear hv
  go_enter Tryd.func5, Tryd.ntmps5
  go_wp2_with fail
  refine Calls.mono HCP.out ?_
  rintro e w1 ⟨u, rfl, hown, hnx⟩
  obtain ⟨ua, uc, rfl⟩ : ∃ a c, u = .slice a l.length c := by
    rcases hown.2 with ⟨h', h0⟩ | ⟨g, cap, cur, h', _⟩
    · exact ⟨none, 0, by rw [h', h0]⟩
    · exact ⟨_, cap, h'⟩
  go_wp2_with (first
    | (at_builtin; refine wpList_append_lies _ rfl _ _ 22 rfl w.heap.size 5 i0 (.int .u8 0) 1 1 Tryd.underlying22 hi hz0 hz1 hz2 rfl (by decide) _ _ _ rfl (hown.alloc _) ⟨w1.heap.size, 0, none⟩ 4 4 [.int .u8 77, .int .u8 77, .int .u8 77, .int .u8 77] rfl rfl ?c1 ?c2 ?c3 ?c4 ?c5 ?c6 (w1.heap.size + 1) ?c7 ?_))
  case c1 =>
    intro j u hj
    match j, hj with
    | 0, hj => simp at hj; subst hj; simp [Addr.add]
    | 1, hj => simp at hj; subst hj; simp [Addr.add]
    | 2, hj => simp at hj; subst hj; simp [Addr.add]
    | 3, hj => simp at hj; subst hj; simp [Addr.add]
    | n + 4, hj => simp at hj
  case c2 => intro u hu; simp at hu; subst hu; rfl
  case c3 => decide
  case c4 => unfold maxLen; omega
  case c5 => omega
  case c6 => have := hnx.size; simp; omega
  case c7 => simp
  intro g cap w2 hown' hgrow hat hlg
  have hb1 : Below w.heap.size w w2 := (hnx.alloc (by have := hnx.size; omega) _).grown hgrow (by have := hnx.size; simp; omega) (fun j hj => (hown.lt j hj).1)
  have hown2 : w2.ownsRow w.heap.size 5 1 (.slice (some ⟨g, 0, none⟩) (l.length + 4) cap) (l.length + 4) (u8s (l ++ marks4)) := by
    rw [u8s_append]; exact hown'
  clear hown' hgrow hown hat hlg hnx
  go_wp2_with fail
  go_ret
  exact ⟨g, cap, rfl, hown2, hb1⟩

end Go.Proofs.YtlopimdnjookeabDoor
