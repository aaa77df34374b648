import Derived.Test.YtlopimdnjookeabDoorMRet
import Derived.Test.YtlopimdnjookeabDoorMtEqB
import Derived.Deep.DeepCutAuto
import Derived.Deep.CutBlock
namespace Go.Proofs.YtlopimdnjookeabDoor
open Go.RowKit

theorem three_keep {w : World} {b b' o : Nat} {v u0 u1 u2 : Value} (hne : ¬ b' = b) (h : w.cell? ⟨b', o, none⟩ = some v) :
    (((w.setCell ⟨b, 0, none⟩ u0).setCell ⟨b, 1, none⟩ u1).setCell ⟨b, 2, none⟩ u2).cell? ⟨b', o, none⟩ = some v := by
  have hs := ((Sole.set b 0 w u0).trans (Sole.set b 1 _ u1)).trans (Sole.set b 2 _ u2)
  exact hs.cell h hne

/-- Which answers go together. -/
theorem dec_cells (a0 a1 : Addr) (l : List UInt8) (pages slot : Int) : ∃ (P R : Int) (T : Nat) (ev : Value) (n : Int), decV a0 a1 l pages slot = #[.agg #[.int .i64 P, .int .i64 R, .int .u64 (T : Int)], ev] ∧ rdecV l pages slot = #[.agg #[.int .i64 P, .int .i64 R, .int .u64 (T : Int)], .int .i64 n] ∧
    ((ev = .nilIface ∧ n = 0) ∨ (ev = .iface 69 (.pointer (some a0)) ∧ n = 1) ∨ (ev = .iface 69 (.pointer (some a1)) ∧ n = 2)) := by
  unfold decV rdecV
  by_cases h1 : ¬ PagesOk pages ∨ ¬ (0 ≤ slot ∧ slot < 2)
  · rw [if_pos h1, if_pos h1]
    exact ⟨0, 0, 0, _, 1, rfl, rfl, .inr (.inl ⟨rfl, rfl⟩)⟩
  · rw [if_neg h1, if_neg h1]
    by_cases h2 : okM l pages slot
    · rw [if_pos h2, if_pos h2]
      exact ⟨(parseM l).pages, (parseM l).root, (parseM l).txid, _, 0, rfl, rfl, .inl ⟨rfl, rfl⟩⟩
    · rw [if_neg h2, if_neg h2]
      exact ⟨0, 0, 0, _, 2, rfl, rfl, .inr (.inr ⟨rfl, rfl⟩)⟩

set_option maxRecDepth 100000 in
set_option maxHeartbeats 8000000 in
theorem decodes_any (A : Nat → Addr) (a : Option Addr) (n c : Nat) (l : List UInt8) (pages slot : Int) (w : World) (hv : RdA w (.slice a n c) l) (hm : l.length ≤ 140737488351232) (hE : ErrsAt A w) (hT : Tab w) :
    Calls Tryd.prog 3 #[.agg #[.slice a n c, .int .i64 pages, .int .i64 slot]] w fun e w' => e = .returned (.bool true) ∧ Below w.heap.size w w' := by
  have hnl : n = l.length := by obtain ⟨a', c', he, _⟩ := hv; cases he; rfl
  subst hnl
  have HV := hide hv
  have HM := hide hm
  have HE := hide hE
  have HTB := hide hT
  have HB := hide (below_new w (.cells #[.slice a l.length c, .int .i64 pages, .int .i64 slot] 24))
  have HX := hide (boxed_new w #[.slice a l.length c, .int .i64 pages, .int .i64 slot] 24)
  obtain ⟨P, R, T, ev, nn, hd1, hd2, hor⟩ := dec_cells (A 0) (A 1) l pages slot
  have HOR := hide hor
  have HNUM : Hid (∀ w, ErrsAt A w → Calls Tryd.prog 8 #[ev] w fun e w' => e = .returned (.int .i64 nn) ∧ w = w') := fun w h => by
    rcases hor with ⟨rfl, rfl⟩ | ⟨rfl, rfl⟩ | ⟨rfl, rfl⟩
    · exact num_nil w
    · exact num_arg A w h
    · exact num_text A w h
  have HDC : Hid (∀ w v, RdA w v l → ErrsAt A w → Tab w → Calls Tryd.prog 6 #[v, .int .i64 pages, .int .i64 slot] w fun e w' => e = .returned (.tuple #[.agg #[.int .i64 P, .int .i64 R, .int .u64 (T : Int)], ev]) ∧ Below w.heap.size w w') := fun w v h h2 h3 => by
    rw [← hd1]; exact decode_any (A 0) (A 1) v l pages slot w h (by have := HM.out; omega) h3 (h2.1 0 (by decide)).1 (h2.1 1 (by decide)).1
  have HRD : Hid (∀ w v, RdA w v l → Calls Tryd.prog 7 #[v, .int .i64 pages, .int .i64 slot] w fun e w' => e = .returned (.tuple #[.agg #[.int .i64 P, .int .i64 R, .int .u64 (T : Int)], .int .i64 nn]) ∧ Below w.heap.size w w') := fun w v h => by
    rw [← hd2]; exact rdecode_any v l pages slot w h (by have := HM.out; omega)
  have hmI : (l.length : Int) ≤ 140737488351232 := by omega
  have hl0 : (0 : Int) ≤ (l.length : Int) := by omega
  clear hv hm hE hT hor hd1 hd2
  go_enter Tryd.func3, Tryd.ntmps3
  go_wp2_with fail
  generalize w.alloc (.cells #[.slice a l.length c, .int .i64 pages, .int .i64 slot] 24) = W0 at *
  refine (lent_any _ l W0 HM.out (HV.out.below HB.out)).mono ?_
  rintro e w1 ⟨g, cap, rfl, ho1, hb1⟩
  have hcap : l.length + 4 ≤ cap ∧ cap ≤ maxLen := by
    rcases ho1.2 with ⟨h', _⟩ | ⟨g', cap', cur, h', _, _, hn, hc, _, _⟩
    · cases h'
    · cases h'; exact ⟨hn, hc⟩
  have hml : (l ++ marks4).length = l.length + 4 := by rw [List.length_append]; rfl
  have HCELL : Hid (∀ j (h : j < (l ++ marks4).length), w1.cell? ⟨g, j, none⟩ = some (.int .u8 ((l ++ marks4)[j].toNat : Int))) := fun j hj => by rw [ho1.cellAt j (by omega), u8s_get _ j hj]
  have HGLT : Hid (g < w1.heap.size) := World.block_lt_of_cell? w1 _ (HCELL.out 0 (by omega))
  have HRP : Hid (∀ W, Below w1.heap.size w1 W → RdA W (.slice (some ⟨g, 0, none⟩) l.length cap) l) := fun W hb => ⟨_, cap, rfl, fun j hj => ⟨g, 0, rfl, by
    rw [Nat.zero_add, hb.cell HGLT.out, HCELL.out j (by omega), List.getElem_append_left hj]⟩⟩
  have HCAP := hide hcap
  have HX1 := hide (HX.out.below hb1)
  have HB1 := hide (Below.next HB.out hb1)
  have c0 := HX1.out.2 0 (by simp)
  have c1 := HX1.out.2 1 (by simp)
  have c2 := HX1.out.2 2 (by simp)
  simp only [List.getElem_cons_zero, List.getElem_cons_succ] at c0 c1 c2
  have k1 : (l.length : Int) ≤ (cap : Int) := by have := hcap.1; omega
  have hxw : w.heap.size < w1.heap.size := HX1.out.1
  have n1 : ¬ w.heap.size = w1.heap.size := by omega
  clear ho1 hb1 hcap hml HX HB
  go_upto_region 2 with fail
  go_cut [4, 5] (fun u4 u5 wx => ∃ nb : Nat, u4 = .pointer (some ⟨nb, 0, none⟩) ∧ u5 = ev ∧ wx.heap[nb]? = some (.cells #[.int .i64 P, .int .i64 R, .int .u64 (T : Int)] 28 (0, 0)) ∧ w1.heap.size ≤ nb ∧ Below w1.heap.size w1 wx)
  case first =>
    go_region_held3 (fun w' => w'.cell? ⟨w.heap.size, 0, none⟩ = some (.slice a l.length c) ∧ w'.cell? ⟨w.heap.size, 1, none⟩ = some (.int .i64 pages) ∧ w'.cell? ⟨w.heap.size, 2, none⟩ = some (.int .i64 slot)) (go_keep)
      (first
        | (go_at_call 6; refine (HDC.out _ _ ?_ ?_ ?_).mono ?_; (exact HRP.out _ ((below_new w1 _).drew)); (exact HE.out.below (Below.next HB1.out ((below_new w1 _).drew))); (exact HTB.out.below (Below.next HB1.out ((below_new w1 _).drew))); rintro e w7 ⟨rfl, hb7d⟩; have hz7 := (hb7d.block w1.heap.size (by simp)).trans (drew_heap (heap_alloc_new w1 (.cells #[.int .i64 0, .int .i64 0, .int .u64 0] 28))); have hb7 : Below w1.heap.size w1 w7 := Below.next ((below_new w1 _).drew) hb7d; have HB7 := hide hb7; have HZ7 := hide hz7; have q0 : w7.cell? ⟨w.heap.size, 0, none⟩ = some (.slice a l.length c) := (hb7.cell hxw).trans c0; have q1 : w7.cell? ⟨w.heap.size, 1, none⟩ = some (.int .i64 pages) := (hb7.cell hxw).trans c1; have q2 : w7.cell? ⟨w.heap.size, 2, none⟩ = some (.int .i64 slot) := (hb7.cell hxw).trans c2; obtain ⟨z0, z1, z2, f0', f1, f2⟩ := zero_cells hz7; have k0' := three_keep (u0 := .int .i64 P) (u1 := .int .i64 R) (u2 := .int .u64 (T : Int)) n1 q0; have k1' := three_keep (u0 := .int .i64 P) (u1 := .int .i64 R) (u2 := .int .u64 (T : Int)) n1 q1; have k2' := three_keep (u0 := .int .i64 P) (u1 := .int .i64 R) (u2 := .int .u64 (T : Int)) n1 q2; clear hb7 hb7d hz7)
        | (go_at_call 6; refine (HDC.out _ _ ?_ ?_ ?_).mono ?_; (exact HRP.out _ ((Below.refl _ _).drew)); (exact HE.out.below (Below.next HB1.out ((Below.refl _ _).drew))); (exact HTB.out.below (Below.next HB1.out ((Below.refl _ _).drew))); rintro e w7 ⟨rfl, hb7d⟩; have hb7 : Below w1.heap.size w1 w7 := ⟨hb7d.os, hb7d.tape, hb7d.output, hb7d.size, hb7d.block⟩; have HB7 := hide hb7; have q0 : w7.cell? ⟨w.heap.size, 0, none⟩ = some (.slice a l.length c) := (hb7.cell hxw).trans c0; have q1 : w7.cell? ⟨w.heap.size, 1, none⟩ = some (.int .i64 pages) := (hb7.cell hxw).trans c1; have q2 : w7.cell? ⟨w.heap.size, 2, none⟩ = some (.int .i64 slot) := (hb7.cell hxw).trans c2; have hsz7 := hb7.size; have m1 : ¬ w.heap.size = w7.heap.size := (by omega); clear hb7 hb7d hsz7))
    · go_wp2_with fail
      go_meet
      case rel => exact ⟨w7.heap.size, rfl, rfl, heap_alloc_new w7 _, HB7.out.size, Below.next HB7.out (below_new w7 _)⟩
    · go_wp2_with fail
      go_meet
      case rel => exact ⟨w1.heap.size, rfl, rfl, set_three HZ7.out, Nat.le_refl _, below_three HB7.out (Nat.le_refl _)⟩
  case rest =>
    obtain ⟨nb, rfl, rfl, hrow, hnb, hbc⟩ := hcut
    have HX2 := hide (HX1.out.below hbc)
    have HBC := hide hbc
    have HROW := hide hrow
    have d0 := HX2.out.2 0 (by simp)
    have d1 := HX2.out.2 1 (by simp)
    have d2 := HX2.out.2 2 (by simp)
    simp only [List.getElem_cons_zero, List.getElem_cons_succ] at d0 d1 d2
    clear c0 c1 c2 hrow hbc hnb
    go_wp2_with fail
    refine (HRD.out _ _ ((HV.out.below HB1.out).below HBC.out)).mono ?_
    rintro e w3 ⟨rfl, hb3⟩
    have hb4 := Below.next hb3 (below_new w3 (.cells #[.int .i64 P, .int .i64 R, .int .u64 (T : Int)] 28))
    have hX3 := HX2.out.below hb4
    have e0 := hX3.2 0 (by simp)
    simp only [List.getElem_cons_zero] at e0
    have hr4 := (hb4.block _ (Array.getElem?_eq_some_iff.1 HROW.out).1).trans HROW.out
    have y0 : (w3.alloc (.cells #[.int .i64 P, .int .i64 R, .int .u64 (T : Int)] 28)).cell? ⟨nb, 0, none⟩ = some (.int .i64 P) := by rw [cell_of_row _ _ _ _ _ _ hr4]; rfl
    have y1 : (w3.alloc (.cells #[.int .i64 P, .int .i64 R, .int .u64 (T : Int)] 28)).cell? ⟨nb, 1, none⟩ = some (.int .i64 R) := by rw [cell_of_row _ _ _ _ _ _ hr4]; rfl
    have y2 : (w3.alloc (.cells #[.int .i64 P, .int .i64 R, .int .u64 (T : Int)] 28)).cell? ⟨nb, 2, none⟩ = some (.int .u64 (T : Int)) := by rw [cell_of_row _ _ _ _ _ _ hr4]; rfl
    have HB4 := hide (Below.next HBC.out hb4)
    have HBW4 := hide (Below.next HB1.out (Below.next HBC.out hb4))
    have meq := mt_self
    have nself : ((nn : Int) == nn) = true := by simp
    clear hb3 hb4 hX3 hr4 d0 d1 d2
    go_wp2_with fail
    generalize w3.alloc (.cells #[.int .i64 P, .int .i64 R, .int .u64 (T : Int)] 28) = W4 at *
    refine (HNUM.out _ (HE.out.below HBW4.out)).mono ?_
    rintro e w' ⟨rfl, rfl⟩
    go_wp2_with fail
    refine (returned_any g cap _ l W4 HM.out HCAP.out.1 (Nat.le_trans HCAP.out.2 (by decide)) (fun j hj => (HB4.out.cell HGLT.out).trans (HCELL.out j hj)) (HV.out.below HBW4.out)).mono ?_
    rintro e w5 ⟨rfl, hb5⟩
    have HB5 := hide (Below.next HBW4.out hb5)
    clear hb5
    go_wp2_with fail
    go_ret
    exact ⟨rfl, HB5.out⟩

end Go.Proofs.YtlopimdnjookeabDoor
