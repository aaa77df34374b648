import Derived.Test.YtiihnoohodklhaaDoorFSum
import Derived.Test.YtiihnoohodklhaaDoorFFlt2
import Derived.Laws.ResultCell
import Derived.Deep.DrawnRows
namespace Go.Proofs.YtiihnoohodklhaaDoor
open Go.RowKit
attribute [local go_sem ↓] Go.wp_at_zero Go.wp_at_succ

theorem results_row_tmp {P : Program} {fn : Func} {p u : Tmp} {ty : TypeId} (h : fn.results = #[.cell p ty, .tmp u]) (tmps : Array Value) (w : World) (g : Nat) (t : TypeId) (cs : Array Value) (fr : Nat × Nat) (d : TypeDesc)
    (hp : tmps.getD p undef = .pointer (some ⟨g, 0, none⟩)) (hg : w.heap[g]? = some (.cells cs t fr)) (hu : P.underlying ty = some d) (hd : (match d with | .struct _ | .array _ _ => true | _ => false) = true) (hi : (P.info? ty).map (·.size) = some cs.size) :
    (results fn tmps).run P w = .ok (.tuple #[.agg cs, tmps.getD u undef]) w := by
  rw [results_cell_tmp h tmps P w, hp]
  simp [asAddr, run_loadVar_row w g t ty cs fr d hg hu hd hi, Result.andThen]
/-- A block that is a whole row. -/
def RowAt (w : World) (b : Nat) (cs : Array Value) (t : TypeId) : Prop := w.heap[b]? = some (.cells cs t (0, 0))
section
variable {w w' : World} {b : Nat} {cs : Array Value} {t : TypeId}
theorem RowAt.cell (h : RowAt w b cs t) (j : Nat) (hj : j < cs.size) : w.cell? ⟨b, j, none⟩ = some cs[j] := by
  rw [cell_of_row _ _ _ _ _ _ h]; simp [hj]
theorem RowAt.free (h : RowAt w b cs t) (j : Nat) : w.frozen? ⟨b, j, none⟩ = false := frozen_of_row _ _ _ _ _ h
theorem RowAt.lt (h : RowAt w b cs t) : b < w.heap.size := by
  rcases Nat.lt_or_ge b w.heap.size with h' | h'
  · exact h'
  · unfold RowAt at h; rw [Array.getElem?_eq_none h'] at h; cases h
theorem RowAt.below (h : RowAt w b cs t) (hb : Below w.heap.size w w') : RowAt w' b cs t := by
  unfold RowAt; rw [hb.block b h.lt]; exact h
theorem RowAt.new (w : World) (cs : Array Value) (t : TypeId) : RowAt (w.alloc (.cells cs t)) w.heap.size cs t := heap_alloc_new w _
theorem RowAt.other {g j : Nat} (h : RowAt w b cs t) (hne : b ≠ g) (u : Value) : RowAt (w.setCell ⟨g, j, none⟩ u) b cs t := by
  unfold RowAt; rw [Below.heap_setCell _ _ _ _ (fun e => hne e)]; exact h
end
theorem RowAt.all4 {w : World} {b : Nat} {x0 x1 x2 x3 : Value} {t : TypeId} (h : RowAt w b #[x0, x1, x2, x3] t) (y0 y1 y2 y3 : Value) : RowAt ((((w.setCell ⟨b, 0, none⟩ y0).setCell ⟨b, 1, none⟩ y1).setCell ⟨b, 2, none⟩ y2).setCell ⟨b, 3, none⟩ y3) b #[y0, y1, y2, y3] t :=
  Go.heap_setCell_same _ b 3 _ t _ (Go.heap_setCell_same _ b 2 _ t _ (Go.heap_setCell_same _ b 1 _ t _ (Go.heap_setCell_same w b 0 _ t _ h)))
/-- What Seal answers, as data. -/
def sOk (fr tt : Nat) (l : List Ch) : Bool := fK fr tt l == 0
def sL (fr tt : Nat) (l : List Ch) : List Ch := if sOk fr tt l then l else []
def sN (b : Bool) (x : Nat) : Int := if b then (x : Int) else 0
theorem eF_ne {A : Nat → Addr} {k : Nat} (h : k ≠ 0) : ∃ p, eF A k = .iface 70 (.pointer (some p)) := by
  match k, h with
  | 1, _ => exact ⟨_, rfl⟩
  | 2, _ => exact ⟨_, rfl⟩
  | k + 3, _ => exact ⟨_, rfl⟩
set_option maxHeartbeats 8000000 in
theorem fseal_any (A : Nat → Addr) (fr tt : Nat) (v : Value) (l : List Ch) (w : World) (hE : ErrsG 13 gAll A w) (hfr : fr < 18446744073709551616) (htt : tt < 18446744073709551616) (hm : l.length ≤ 1073741824) (hs : SmallL l) (hr : ChR w v l) (ht : Tab w) :
    Calls Tryd.prog 5 #[.int .u64 (fr : Int), .int .u64 (tt : Int), v] w fun e w' => ∃ x c, e = .returned (.tuple #[.agg #[.int .u64 (sN (sOk fr tt l) fr), .int .u64 (sN (sOk fr tt l) tt), .slice x (sL fr tt l).length c, .int .u32 (sN (sOk fr tt l) (crcV (batB fr tt l)))], eF A (fK fr tt l)]) ∧ ChO w' w.heap.size (.slice x (sL fr tt l).length c) (sL fr tt l) ∧ Below w.heap.size w w' := by
  obtain ⟨W1, hW1⟩ : ∃ W1, w.alloc (.cells #[.int .u64 0, .int .u64 0, .slice none 0 0, .int .u32 0] 29) = W1 := ⟨_, rfl⟩
  have x1 : RowAt W1 w.heap.size #[.int .u64 0, .int .u64 0, .slice none 0 0, .int .u32 0] 29 := by rw [← hW1]; exact RowAt.new w _ _
  have hb1 : Below w.heap.size w W1 := by rw [← hW1]; exact below_new w _
  have HB1 := hide hb1
  have HX1 := hide x1
  have HW1 := hide hW1
  have HF := hide (bfault_any A fr tt v l W1 (hE.keep hb1) (by omega) (hr.below hb1))
  have hok : OkC l := fun c hc => by have := hs c hc; exact ⟨by omega, by omega, by omega⟩
  have HCP := hide (fun W (hb : Below w.heap.size w W) => fcopy_any v l W hok (by omega) (hr.below hb))
  have HSU := hide (fun W (hb : Below w.heap.size w W) => fsum_any fr tt v l W hfr htt hm hs (hr.below hb) (ht.below hb))
  obtain ⟨a, cap, rfl⟩ := hr.form
  clear hE hs hr ht hok x1 hb1 hW1
  generalize crcV (batB fr tt l) = S at *
  by_cases h0 : fK fr tt l = 0
  · have h1 : sOk fr tt l = true := by simp [sOk, h0]
    have h2 : sL fr tt l = l := by simp [sL, h1]
    rw [h0, h1, h2]
    rw [h0] at HF
    have HF2 : Hid (Calls Tryd.prog 10 #[.int .u64 (fr : Int), .int .u64 (tt : Int), .slice a l.length cap] W1 fun e w' => e = .returned .nilIface ∧ Below W1.heap.size W1 w') := HF.out
    clear h0 h1 h2 HF
    go_enter Tryd.func5, Tryd.ntmps5
    go_wp2_with fail
    rw [HW1.out]
    go_wp2_with fail
    refine HF2.out.mono ?_
    rintro e W2 ⟨rfl, hb2⟩
    have HB2 := hide (Below.next HB1.out hb2)
    have HX2 := hide (HX1.out.below hb2)
    clear hb2 HF2 HB1 HX1 HW1
    go_wp2_with fail
    refine (HCP.out _ HB2.out).mono ?_
    rintro e W3 ⟨v3, rfl, ho3, hb3⟩
    obtain ⟨x3, c3, rfl⟩ := ho3.form
    have HO3 := hide ho3
    have HLT : Hid (w.heap.size < W2.heap.size) := HX2.out.lt
    have HB3 := hide (Below.next HB2.out hb3)
    have HX3 := hide (HX2.out.below hb3)
    clear hb3 ho3 HCP HB2 HX2
    go_wp2_with fail
    refine (HSU.out _ HB3.out).mono ?_
    rintro e W4 ⟨rfl, hb4⟩
    have HO4 := hide (HO3.out.below hb4)
    have HB4 := hide (Below.next HB3.out hb4)
    have x4 := HX3.out.below hb4
    have HX4 := hide x4
    have d0 := x4.cell 0 (by simp)
    have d1 := x4.cell 1 (by simp)
    have d2 := x4.cell 2 (by simp)
    have d3 := x4.cell 3 (by simp)
    have f0 := x4.free 0
    have f1 := x4.free 1
    have f2 := x4.free 2
    have f3 := x4.free 3
    clear hb4 x4 HSU HB3 HX3 HO3
    go_wp2
    have hput : ∀ (u : Value) (j : Nat) (V : World), ChO V W2.heap.size (.slice x3 l.length c3) l → ChO (V.setCell ⟨w.heap.size, j, none⟩ u) W2.heap.size (.slice x3 l.length c3) l := fun u j V h => h.keep (fun g cs hg hh => by rw [Below.heap_setCell _ _ _ _ (fun e => by have : g = w.heap.size := e; have := HLT.out; omega)]; exact hh)
    refine bodyPost_ret (results_row_tmp rfl _ _ w.heap.size 29 _ (0, 0) _ rfl (HX4.out.all4 _ _ _ _) Tryd.underlying29 rfl (by kernel_rfl)) rfl ?_
    exact ⟨x3, c3, rfl, (hput _ _ _ (hput _ _ _ (hput _ _ _ (hput _ _ _ HO4.out)))).mono (Nat.le_of_lt HLT.out), ((((HB4.out.setCell (p := ⟨w.heap.size, 0, none⟩) (Nat.le_refl _) _).setCell (p := ⟨w.heap.size, 1, none⟩) (Nat.le_refl _) _).setCell (p := ⟨w.heap.size, 2, none⟩) (Nat.le_refl _) _).setCell (p := ⟨w.heap.size, 3, none⟩) (Nat.le_refl _) _)⟩
  · have h1 : sOk fr tt l = false := by simp [sOk, h0]
    have h2 : sL fr tt l = [] := by simp [sL, h1]
    obtain ⟨p, hp⟩ := eF_ne (A := A) h0
    have hne := iface_ne_nil (some p)
    rw [h1, h2]
    rw [hp] at HF ⊢
    clear h0 h1 h2 hp HCP HSU
    go_enter Tryd.func5, Tryd.ntmps5
    go_wp2_with fail
    rw [HW1.out]
    go_wp2_with fail
    refine HF.out.mono ?_
    rintro e W2 ⟨rfl, hb2⟩
    have HB2 := hide (Below.next HB1.out hb2)
    have x4 := HX1.out.below hb2
    have HX4 := hide x4
    have d0 := x4.cell 0 (by simp)
    have d1 := x4.cell 1 (by simp)
    have d2 := x4.cell 2 (by simp)
    have d3 := x4.cell 3 (by simp)
    have f0 := x4.free 0
    have f1 := x4.free 1
    have f2 := x4.free 2
    have f3 := x4.free 3
    clear hb2 x4 HF HB1 HX1 HW1
    go_wp2
    refine bodyPost_ret (results_row_tmp rfl _ _ w.heap.size 29 _ (0, 0) _ rfl (HX4.out.all4 _ _ _ _) Tryd.underlying29 rfl (by kernel_rfl)) rfl ?_
    exact ⟨none, 0, rfl, ChO.nil _ _, ((((HB2.out.setCell (p := ⟨w.heap.size, 0, none⟩) (Nat.le_refl _) _).setCell (p := ⟨w.heap.size, 1, none⟩) (Nat.le_refl _) _).setCell (p := ⟨w.heap.size, 2, none⟩) (Nat.le_refl _) _).setCell (p := ⟨w.heap.size, 3, none⟩) (Nat.le_refl _) _)⟩
end Go.Proofs.YtiihnoohodklhaaDoor
