import Derived.Test.YtmifadjgmjnkgaaGreatDoorEachW
import Derived.Test.YtmifadjgmjnkgaaGreatDoorHide
import Derived.Test.YtmifadjgmjnkgaaGreatDoorRd
import Derived.Test.YtmifadjgmjnkgaaGreatDoorBox
import Derived.BigQuiet
import Derived.Laws.IdiomStrings
import Derived.Test.YtmifadjgmjnkgaaGreatDoorPageOf2
import Derived.Deep.RegionHeld3
import Derived.Laws.ResultCell
namespace Go.Proofs.YtmifadjgmjnkgaaGreatDoor
open Go.RowKit

def sub (l : List UInt8) (o m : Nat) : List UInt8 := (l.drop o).take m
theorem sub_len (l : List UInt8) (o m : Nat) (h : o + m ≤ l.length) : (sub l o m).length = m := by
  simp [sub]; omega
theorem sub_get (l : List UInt8) (o m j : Nat) (h : o + m ≤ l.length) (hj : j < (sub l o m).length) : (sub l o m)[j] = l[o + j]'(by rw [sub_len l o m h] at hj; omega) := by
  simp [sub]
/-- The numbers of a head: as they are read. -/
def nums (l : List UInt8) (k : Nat) : Nat := beNat (sub l (place k) (width k))
/-- The first so many numbers, the others zero. -/
def numsTo (l : List UInt8) (n k : Nat) : Nat := if k < n then nums l k else 0
/-- A block that holds a head. -/
def HeadAt (w : World) (hb : Nat) (f : Nat → Nat) : Prop := w.heap[hb]? = some (.cells #[.int .u64 (f 0 : Int), .int .u64 (f 1 : Int), .int .u64 (f 2 : Int), .int .u64 (f 3 : Int), .int .u64 (f 4 : Int)] 101 (0, 0))

set_option maxHeartbeats 400000 in
theorem rh1_any (g o m cap hb k : Nat) (old : Value) (l : List UInt8) (w : World) (hk : k < 5) (hm : l.length = m) (h1 : 1 ≤ m) (h8 : m ≤ 8)
    (hc : ∀ j (h : j < l.length), w.cell? ⟨g, o + j, none⟩ = some (.int .u8 (l[j].toNat : Int))) (hold : w.cell? ⟨hb, k, none⟩ = some old) (hfz : w.frozen? ⟨hb, k, none⟩ = false) :
    Calls Tryz.prog 81 #[.int .i64 (k : Int), .slice (some ⟨g, o, none⟩) m cap, .pointer (some ⟨hb, 0, none⟩)] w fun e w' => e = .returned (.tuple #[]) ∧ ∃ w1, Below w.heap.size w w1 ∧ w' = w1.setCell ⟨hb, k, none⟩ (.int .u64 ((beNat l : Nat) : Int)) := by
  subst hm
  have hg : g < w.heap.size := World.block_lt_of_cell? w _ (hc 0 (by omega))
  have hbl : hb < w.heap.size := World.block_lt_of_cell? w _ hold
  have HG : Hid (∀ w, g < w.heap.size → (∀ j (h : j < l.length), w.cell? ⟨g, o + j, none⟩ = some (.int .u8 (l[j].toNat : Int))) → Calls Tryz.prog 82 #[.slice (some ⟨g, o, none⟩) l.length cap] w fun e w' => e = .returned (.tuple #[.int .u64 ((beNat l : Nat) : Int), .nilIface]) ∧ Below w.heap.size w w') := fun w hg hc => get_ok g o cap l w h1 h8 hg hc
  have HC := hide hc
  have HO := hide hold
  have HF := hide hfz
  have k0 : (0 : Int) ≤ (k : Int) := by omega
  have k5 : (k : Int) < 5 := by omega
  clear hc hold hfz h1 h8
  generalize beNat l = n at *
  go_enter Tryz.func81, Tryz.ntmps81
  go_wp2_with (go_at_call 82; refine (HG.out _ hg HC.out).mono ?_; rintro e w1 ⟨rfl, hb1⟩; have HB1 := hide hb1; have ho1 : w1.cell? ⟨hb, k, none⟩ = some old := (hb1.cell (p := ⟨hb, k, none⟩) hbl).trans HO.out; have hf1 : w1.frozen? ⟨hb, k, none⟩ = false := (hb1.frozen (p := ⟨hb, k, none⟩) hbl).trans HF.out; clear hb1)
  go_end0
  exact ⟨rfl, w1, HB1.out, rfl⟩

theorem numsTo_zero (l : List UInt8) (k : Nat) : numsTo l 0 k = 0 := rfl
theorem numsTo_five (l : List UInt8) (k : Nat) (h : k < 5) : numsTo l 5 k = nums l k := by simp [numsTo, h]

/-- One number more. -/
theorem head_step {w wr w0 : World} {o : Obj} {g hb : Nat} {l : List UInt8} (k : Nat) (hk : k < 5) (hh : HeadAt wr hb (numsTo l k)) (hs : Sole hb w wr) (_hg : g ≠ hb) (hb0 : Below (wr.alloc o).heap.size (wr.alloc o) w0) :
    HeadAt (w0.setCell ⟨hb, k, none⟩ (.int .u64 ((beNat (sub l (place k) (width k)) : Nat) : Int))) hb (numsTo l (k + 1)) ∧ Sole hb w (w0.setCell ⟨hb, k, none⟩ (.int .u64 ((beNat (sub l (place k) (width k)) : Nat) : Int))) := by
  have hlt : hb < wr.heap.size := by
    rcases Nat.lt_or_ge hb wr.heap.size with h' | h'
    · exact h'
    · unfold HeadAt at hh; rw [Array.getElem?_eq_none h'] at hh; cases hh
  have h0 : w0.heap[hb]? = some (.cells #[.int .u64 (numsTo l k 0 : Int), .int .u64 (numsTo l k 1 : Int), .int .u64 (numsTo l k 2 : Int), .int .u64 (numsTo l k 3 : Int), .int .u64 (numsTo l k 4 : Int)] 101 (0, 0)) := by
    rw [(Below.next (below_new wr o) hb0).block hb hlt]; exact hh
  refine ⟨?_, (hs.trans (Sole.of_below (Below.next (below_new wr o) hb0))).trans (Sole.set hb k w0 _)⟩
  unfold HeadAt
  rw [heap_setCell_same w0 hb k _ _ _ h0]
  obtain rfl | rfl | rfl | rfl | rfl : k = 0 ∨ k = 1 ∨ k = 2 ∨ k = 3 ∨ k = 4 := by omega
  all_goals rfl

theorem HeadAt.cell {w : World} {hb : Nat} {f : Nat → Nat} (h : HeadAt w hb f) (k : Nat) (hk : k < 5) : w.cell? ⟨hb, k, none⟩ = some (.int .u64 (f k : Int)) := by
  rw [cell_of_row _ _ _ _ _ _ h]
  obtain rfl | rfl | rfl | rfl | rfl : k = 0 ∨ k = 1 ∨ k = 2 ∨ k = 3 ∨ k = 4 := by omega
  all_goals rfl
theorem HeadAt.lt {w : World} {hb : Nat} {f : Nat → Nat} (h : HeadAt w hb f) : hb < w.heap.size := World.block_lt_of_cell? w _ (h.cell 0 (by decide))
theorem HeadAt.below {w w' : World} {hb : Nat} {f : Nat → Nat} (h : HeadAt w hb f) (hb' : Below w.heap.size w w') : HeadAt w' hb f := by
  unfold HeadAt; rw [hb'.block hb h.lt]; exact h

set_option maxHeartbeats 1000000 in
theorem eachR_any (g hb cap : Nat) (l : List UInt8) (w : World) (hl : l.length = 4096) (hcap : 4096 ≤ cap) (hcm : cap ≤ 9223372036854775807) (hgb : g ≠ hb) (hL : Lay w) (hh : HeadAt w hb (numsTo l 0))
    (hc : ∀ j (h : j < l.length), w.cell? ⟨g, j, none⟩ = some (.int .u8 (l[j].toNat : Int))) :
    Calls Tryz.prog 80 #[.slice (some ⟨g, 0, none⟩) 4096 cap, .func (.func 81) #[] #[.pointer (some ⟨hb, 0, none⟩)]] w fun e w' => e = .returned (.tuple #[]) ∧ HeadAt w' hb (numsTo l 5) ∧ Sole hb w w' := by
  obtain ⟨hL0, c0, c1, c2, c3, c4, c5, c6, c7, c8, c9⟩ := hL
  have HC := hide hc
  have HH0 := hide hh
  have HL := hide hl
  have hcapI : (4096 : Int) ≤ (cap : Int) := by omega
  clear hc hh hl hL0
  go_enter Tryz.func80, Tryz.ntmps80
  go_wp2_with fail
  go_loopw [7] (fun i wr => ∃ k : Nat, k ≤ 5 ∧ i = .int .i64 (k : Int) ∧ HeadAt wr hb (numsTo l k) ∧ Sole hb w wr) (fun i _ => 5 - (intOf i).toNat)
  case atStart => exact ⟨0, by omega, rfl, HH0.out, Sole.refl _ _⟩
  case round =>
    obtain ⟨k, hk, rfl, hrow, hs⟩ := hrel
    clear c0 c1 c2 c3 c4 c5 c6 c7 c8 c9
    have HS : Hid (Sole hb w wr) := hs
    have HH : Hid (HeadAt wr hb (numsTo l k)) := hrow
    clear hs hrow HH0
    by_cases hlt : k < 5
    · have HCK : Hid (∀ obj o m, o + m ≤ 20 → ∀ j (h : j < (sub l o m).length), (wr.alloc obj).cell? ⟨g, o + j, none⟩ = some (.int .u8 ((sub l o m)[j].toNat : Int))) := fun obj o m hom j hj => by
        have hsl := sub_len l o m (by rw [HL.out]; omega)
        have hoj : o + j < l.length := by rw [HL.out]; omega
        rw [sub_get l o m j (by rw [HL.out]; omega) hj, (below_new wr obj).cell (p := ⟨g, o + j, none⟩) (Nat.lt_of_lt_of_le (World.block_lt_of_cell? w _ (HC.out _ hoj)) HS.out.size)]
        exact HS.out.cell (HC.out _ hoj) hgb
      have HOLD : Hid (∀ obj, (wr.alloc obj).cell? ⟨hb, k, none⟩ = some (.int .u64 (numsTo l k k : Int))) := fun obj => (HH.out.below (below_new wr obj)).cell k hlt
      have HFZ : Hid (∀ obj, (wr.alloc obj).frozen? ⟨hb, k, none⟩ = false) := fun obj => frozen_of_row _ _ _ _ _ (HH.out.below (below_new wr obj))
      obtain rfl | rfl | rfl | rfl | rfl : k = 0 ∨ k = 1 ∨ k = 2 ∨ k = 3 ∨ k = 4 := by omega
      · have li := fun w => lay_index w 0 (by decide)
        rw [show ((0 : Nat) : Int) = 0 from rfl] at li ⊢
        simp only [place, width, Int.cast_ofNat_Int] at li
        go_wp2_with (go_at_call 81; refine (rh1_any g 0 1 _ hb 0 _ (sub l 0 1) _ (by decide) (sub_len _ _ _ (by rw [HL.out]; decide)) (by decide) (by decide) (HCK.out _ 0 1 (by decide)) (HOLD.out _) (HFZ.out _)).mono ?_; rintro e w1 ⟨rfl, w0, hb0, rfl⟩; have HN := hide (head_step 0 (by decide) HH.out HS.out hgb hb0); clear hb0)
        go_roundw
        case rel => exact ⟨1, by omega, by go_num, HN.out.1, HN.out.2⟩
        case measure => simp [intOf]
      · have li := fun w => lay_index w 1 (by decide)
        rw [show ((1 : Nat) : Int) = 1 from rfl] at li ⊢
        simp only [place, width, Int.cast_ofNat_Int] at li
        go_wp2_with (go_at_call 81; refine (rh1_any g 2 2 _ hb 1 _ (sub l 2 2) _ (by decide) (sub_len _ _ _ (by rw [HL.out]; decide)) (by decide) (by decide) (HCK.out _ 2 2 (by decide)) (HOLD.out _) (HFZ.out _)).mono ?_; rintro e w1 ⟨rfl, w0, hb0, rfl⟩; have HN := hide (head_step 1 (by decide) HH.out HS.out hgb hb0); clear hb0)
        go_roundw
        case rel => exact ⟨2, by omega, by go_num, HN.out.1, HN.out.2⟩
        case measure => simp [intOf]
      · have li := fun w => lay_index w 2 (by decide)
        rw [show ((2 : Nat) : Int) = 2 from rfl] at li ⊢
        simp only [place, width, Int.cast_ofNat_Int] at li
        go_wp2_with (go_at_call 81; refine (rh1_any g 4 4 _ hb 2 _ (sub l 4 4) _ (by decide) (sub_len _ _ _ (by rw [HL.out]; decide)) (by decide) (by decide) (HCK.out _ 4 4 (by decide)) (HOLD.out _) (HFZ.out _)).mono ?_; rintro e w1 ⟨rfl, w0, hb0, rfl⟩; have HN := hide (head_step 2 (by decide) HH.out HS.out hgb hb0); clear hb0)
        go_roundw
        case rel => exact ⟨3, by omega, by go_num, HN.out.1, HN.out.2⟩
        case measure => simp [intOf]
      · have li := fun w => lay_index w 3 (by decide)
        rw [show ((3 : Nat) : Int) = 3 from rfl] at li ⊢
        simp only [place, width, Int.cast_ofNat_Int] at li
        go_wp2_with (go_at_call 81; refine (rh1_any g 8 8 _ hb 3 _ (sub l 8 8) _ (by decide) (sub_len _ _ _ (by rw [HL.out]; decide)) (by decide) (by decide) (HCK.out _ 8 8 (by decide)) (HOLD.out _) (HFZ.out _)).mono ?_; rintro e w1 ⟨rfl, w0, hb0, rfl⟩; have HN := hide (head_step 3 (by decide) HH.out HS.out hgb hb0); clear hb0)
        go_roundw
        case rel => exact ⟨4, by omega, by go_num, HN.out.1, HN.out.2⟩
        case measure => simp [intOf]
      · have li := fun w => lay_index w 4 (by decide)
        rw [show ((4 : Nat) : Int) = 4 from rfl] at li ⊢
        simp only [place, width, Int.cast_ofNat_Int] at li
        go_wp2_with (go_at_call 81; refine (rh1_any g 16 4 _ hb 4 _ (sub l 16 4) _ (by decide) (sub_len _ _ _ (by rw [HL.out]; decide)) (by decide) (by decide) (HCK.out _ 16 4 (by decide)) (HOLD.out _) (HFZ.out _)).mono ?_; rintro e w1 ⟨rfl, w0, hb0, rfl⟩; have HN := hide (head_step 4 (by decide) HH.out HS.out hgb hb0); clear hb0)
        go_roundw
        case rel => exact ⟨5, by omega, by go_num, HN.out.1, HN.out.2⟩
        case measure => simp [intOf]
    · obtain rfl : k = 5 := by omega
      rw [show ((5 : Nat) : Int) = 5 from rfl]
      go_wp2_with fail
      go_end0
      exact ⟨rfl, HH.out, HS.out⟩

end Go.Proofs.YtmifadjgmjnkgaaGreatDoor

namespace Go.Proofs.YtmifadjgmjnkgaaGreatDoor
open Go.RowKit

theorem set_five {w : World} {b : Nat} {t : TypeId} {v0 v1 v2 v3 v4 u0 u1 u2 u3 u4 : Value} (h : w.heap[b]? = some (.cells #[v0, v1, v2, v3, v4] t (0, 0))) :
    (((((w.setCell ⟨b, 0, none⟩ u0).setCell ⟨b, 1, none⟩ u1).setCell ⟨b, 2, none⟩ u2).setCell ⟨b, 3, none⟩ u3).setCell ⟨b, 4, none⟩ u4).heap[b]? = some (.cells #[u0, u1, u2, u3, u4] t (0, 0)) :=
  heap_setCell_same _ b 4 _ t u4 (heap_setCell_same _ b 3 _ t u3 (heap_setCell_same _ b 2 _ t u2 (heap_setCell_same _ b 1 _ t u1 (heap_setCell_same w b 0 _ t u0 h))))

set_option maxHeartbeats 1000000 in
theorem readHead_any (g cap : Nat) (l : List UInt8) (w : World) (hl : l.length = 4096) (hcap : 4096 ≤ cap) (hcm : cap ≤ 9223372036854775807) (hL : Lay w)
    (hc : ∀ j (h : j < l.length), w.cell? ⟨g, j, none⟩ = some (.int .u8 (l[j].toNat : Int))) :
    Calls Tryz.prog 60 #[.slice (some ⟨g, 0, none⟩) 4096 cap] w fun e w' => e = .returned (.agg #[.int .u64 (nums l 0 : Int), .int .u64 (nums l 1 : Int), .int .u64 (nums l 2 : Int), .int .u64 (nums l 3 : Int), .int .u64 (nums l 4 : Int)]) ∧ Below w.heap.size w w' := by
  have hgl : g < w.heap.size := World.block_lt_of_cell? w _ (hc 0 (by omega))
  have hb0 : Below w.heap.size w ((w.alloc (.cells #[.int .u64 0, .int .u64 0, .int .u64 0, .int .u64 0, .int .u64 0] 101)).alloc (.cells #[.int .u64 0, .int .u64 0, .int .u64 0, .int .u64 0, .int .u64 0] 101)) := Below.next (below_new w _) (below_new _ _)
  have C := eachR_any g (w.heap.size + 1) cap l ((w.alloc (.cells #[.int .u64 0, .int .u64 0, .int .u64 0, .int .u64 0, .int .u64 0] 101)).alloc (.cells #[.int .u64 0, .int .u64 0, .int .u64 0, .int .u64 0, .int .u64 0] 101)) hl hcap hcm (by omega) (hL.below hb0)
    (by
      have h := heap_alloc_new (w.alloc (.cells #[.int .u64 0, .int .u64 0, .int .u64 0, .int .u64 0, .int .u64 0] 101)) (.cells #[.int .u64 0, .int .u64 0, .int .u64 0, .int .u64 0, .int .u64 0] 101)
      rw [show (w.alloc (.cells #[.int .u64 0, .int .u64 0, .int .u64 0, .int .u64 0, .int .u64 0] 101)).heap.size = w.heap.size + 1 by simp] at h
      exact h)
    (fun j hj => (hb0.cell (p := ⟨g, j, none⟩) hgl).trans (hc j hj))
  have HC : Hid (Calls Tryz.prog 80 #[.slice (some ⟨g, 0, none⟩) 4096 cap, .func (.func 81) #[] #[.pointer (some ⟨w.heap.size + 1, 0, none⟩)]] ((w.alloc (.cells #[.int .u64 0, .int .u64 0, .int .u64 0, .int .u64 0, .int .u64 0] 101)).alloc (.cells #[.int .u64 0, .int .u64 0, .int .u64 0, .int .u64 0, .int .u64 0] 101)) fun e w' => e = .returned (.tuple #[]) ∧ HeadAt w' (w.heap.size + 1) (numsTo l 5) ∧ Sole (w.heap.size + 1) ((w.alloc (.cells #[.int .u64 0, .int .u64 0, .int .u64 0, .int .u64 0, .int .u64 0] 101)).alloc (.cells #[.int .u64 0, .int .u64 0, .int .u64 0, .int .u64 0, .int .u64 0] 101)) w') := C
  have HB0 := hide hb0
  have HR0 : Hid (((w.alloc (.cells #[.int .u64 0, .int .u64 0, .int .u64 0, .int .u64 0, .int .u64 0] 101)).alloc (.cells #[.int .u64 0, .int .u64 0, .int .u64 0, .int .u64 0, .int .u64 0] 101)).heap[w.heap.size]? = some (.cells #[.int .u64 0, .int .u64 0, .int .u64 0, .int .u64 0, .int .u64 0] 101 (0, 0))) := by
    show _ = _
    rw [(below_new (w.alloc (.cells #[.int .u64 0, .int .u64 0, .int .u64 0, .int .u64 0, .int .u64 0] 101)) _).block w.heap.size (by simp)]
    exact heap_alloc_new w _
  clear C hb0 hc hL hl
  go_enter Tryz.func60, Tryz.ntmps60
  go_wp2_with fail
  have HSZ : Hid (w.heap.size + 1 < ((w.alloc (.cells #[.int .u64 0, .int .u64 0, .int .u64 0, .int .u64 0, .int .u64 0] 101)).alloc (.cells #[.int .u64 0, .int .u64 0, .int .u64 0, .int .u64 0, .int .u64 0] 101)).heap.size) := by show _ < _; simp
  generalize ((w.alloc (.cells #[.int .u64 0, .int .u64 0, .int .u64 0, .int .u64 0, .int .u64 0] 101)).alloc (.cells #[.int .u64 0, .int .u64 0, .int .u64 0, .int .u64 0, .int .u64 0] 101)) = W0 at *
  refine Calls.mono HC.out ?_
  rintro e w1 ⟨rfl, hh, hs⟩
  have d0 : w1.cell? ⟨w.heap.size + 1, 0, none⟩ = some (.int .u64 (nums l 0 : Int)) := by rw [hh.cell 0 (by decide), numsTo_five _ _ (by decide)]
  have d1 : w1.cell? ⟨w.heap.size + 1, 1, none⟩ = some (.int .u64 (nums l 1 : Int)) := by rw [hh.cell 1 (by decide), numsTo_five _ _ (by decide)]
  have d2 : w1.cell? ⟨w.heap.size + 1, 2, none⟩ = some (.int .u64 (nums l 2 : Int)) := by rw [hh.cell 2 (by decide), numsTo_five _ _ (by decide)]
  have d3 : w1.cell? ⟨w.heap.size + 1, 3, none⟩ = some (.int .u64 (nums l 3 : Int)) := by rw [hh.cell 3 (by decide), numsTo_five _ _ (by decide)]
  have d4 : w1.cell? ⟨w.heap.size + 1, 4, none⟩ = some (.int .u64 (nums l 4 : Int)) := by rw [hh.cell 4 (by decide), numsTo_five _ _ (by decide)]
  have hr1 : w1.heap[w.heap.size]? = some (.cells #[.int .u64 0, .int .u64 0, .int .u64 0, .int .u64 0, .int .u64 0] 101 (0, 0)) := by rw [hs.block w.heap.size (by have := HSZ.out; omega) (by omega)]; exact HR0.out
  have HR1 := hide hr1
  have HB1 : Hid (Below w.heap.size w w1) := hs.below HB0.out (by omega)
  have f0 : w1.frozen? ⟨w.heap.size, 0, none⟩ = false := frozen_of_row _ _ _ _ _ hr1
  have f1 : w1.frozen? ⟨w.heap.size, 1, none⟩ = false := frozen_of_row _ _ _ _ _ hr1
  have f2 : w1.frozen? ⟨w.heap.size, 2, none⟩ = false := frozen_of_row _ _ _ _ _ hr1
  have f3 : w1.frozen? ⟨w.heap.size, 3, none⟩ = false := frozen_of_row _ _ _ _ _ hr1
  have f4 : w1.frozen? ⟨w.heap.size, 4, none⟩ = false := frozen_of_row _ _ _ _ _ hr1
  have g0 : w1.cell? ⟨w.heap.size, 0, none⟩ = some (.int .u64 0) := by rw [cell_of_row _ _ _ _ _ _ hr1]; rfl
  have g1 : w1.cell? ⟨w.heap.size, 1, none⟩ = some (.int .u64 0) := by rw [cell_of_row _ _ _ _ _ _ hr1]; rfl
  have g2 : w1.cell? ⟨w.heap.size, 2, none⟩ = some (.int .u64 0) := by rw [cell_of_row _ _ _ _ _ _ hr1]; rfl
  have g3 : w1.cell? ⟨w.heap.size, 3, none⟩ = some (.int .u64 0) := by rw [cell_of_row _ _ _ _ _ _ hr1]; rfl
  have g4 : w1.cell? ⟨w.heap.size, 4, none⟩ = some (.int .u64 0) := by rw [cell_of_row _ _ _ _ _ _ hr1]; rfl
  clear hh hs hr1 HC HB0 HR0
  go_wp2_with fail
  refine bodyPost_ret (results_cell_row rfl _ _ w.heap.size 101 #[.int .u64 (nums l 0 : Int), .int .u64 (nums l 1 : Int), .int .u64 (nums l 2 : Int), .int .u64 (nums l 3 : Int), .int .u64 (nums l 4 : Int)] (0, 0) _ rfl (set_five HR1.out) Tryz.underlying101 rfl (by kernel_rfl)) rfl ⟨rfl, ?_⟩
  exact ((((HB1.out.setCell (Nat.le_refl _) _).setCell (Nat.le_refl _) _).setCell (Nat.le_refl _) _).setCell (Nat.le_refl _) _).setCell (Nat.le_refl _) _

end Go.Proofs.YtmifadjgmjnkgaaGreatDoor

namespace Go.Proofs.YtmifadjgmjnkgaaGreatDoor
open Go.RowKit

theorem take_all_eq {l1 l2 : List UInt8} (hl : l1.length = l2.length) (h : l1.take l1.length = l2.take l1.length) : l1 = l2 := by
  rw [List.take_of_length_le (Nat.le_refl _), List.take_of_length_le (Nat.le_of_eq hl.symm)] at h
  exact h
theorem below_drewN' {B : Nat} {a w : World} (h : Below B a w) (n : Nat) : Below B a (w.drewN n) := ⟨h.os, h.tape, h.output, h.size, h.block⟩

set_option maxHeartbeats 400000 in
theorem samel (a1 a2 : Option Addr) (n1 n2 c1 c2 : Nat) (w : World) (_h1 : n1 ≤ 140737488355328) (_h2 : n2 ≤ 140737488355328) (hne : n1 ≠ n2) :
    Calls Tryz.prog 64 #[.slice a1 n1 c1, .slice a2 n2 c2] w fun e w' => e = .returned (.bool false) ∧ Below w.heap.size w w' := by
  have hd : ((n1 : Int) != (n2 : Int)) = true := by rw [bne_iff_ne]; omega
  clear hne
  go_enter Tryz.func64, Tryz.ntmps64
  go_wp2
  go_ret
  exact ⟨rfl, Below.refl _ _⟩

set_option maxHeartbeats 1000000 in
theorem same_two (a1 a2 : Option Addr) (c1 c2 n : Nat) (l1 l2 : List UInt8) (w : World) (hm : n ≤ 140737488355328) (e1 : l1.length = n) (e2 : l2.length = n)
    (h1 : ∀ j (h : j < l1.length), ∃ g o, a1 = some ⟨g, o, none⟩ ∧ w.cell? ⟨g, o + j, none⟩ = some (.int .u8 (l1[j].toNat : Int))) (h2 : ∀ j (h : j < l2.length), ∃ g o, a2 = some ⟨g, o, none⟩ ∧ w.cell? ⟨g, o + j, none⟩ = some (.int .u8 (l2[j].toNat : Int))) :
    Calls Tryz.prog 64 #[.slice a1 n c1, .slice a2 n c2] w fun e w' => e = .returned (.bool (decide (l1 = l2))) ∧ Below w.heap.size w w' := by
  have HE : Hid (l1.length = n ∧ l2.length = n) := ⟨e1, e2⟩
  have H1 : Hid (∀ j (h : j < l1.length), ∃ g o, a1 = some ⟨g, o, none⟩ ∧ w.cell? ⟨g, o + j, none⟩ = some (.int .u8 (l1[j].toNat : Int))) := h1
  have H2 : Hid (∀ j (h : j < l2.length), ∃ g o, a2 = some ⟨g, o, none⟩ ∧ w.cell? ⟨g, o + j, none⟩ = some (.int .u8 (l2[j].toNat : Int))) := h2
  have hd0 : ((n : Int) != (n : Int)) = false := by simp
  clear e1 e2 h1 h2
  go_enter Tryz.func64, Tryz.ntmps64
  go_wp2
  go_loopw [5] (fun i wr => ∃ k nq : Nat, k ≤ n ∧ i = .int .i64 k ∧ wr = w.drewN nq ∧ l1.take k = l2.take k) (fun i _ => n - (intOf i).toNat)
  case atStart => exact ⟨0, 0, Nat.zero_le _, rfl, rfl, rfl⟩
  case round =>
    obtain ⟨k, nq, hk, rfl, rfl, hpre⟩ := hrel
    have HPRE : Hid (l1.take k = l2.take k) := hpre
    clear hpre
    by_cases hlt : k < n
    · have hk1 : k < l1.length := by have := HE.out.1; omega
      have hk2 : k < l2.length := by have := HE.out.2; omega
      obtain ⟨g1, o1, rfl, f1⟩ := H1.out k hk1
      obtain ⟨g2, o2, rfl, f2⟩ := H2.out k hk2
      have j0 : (0 : Int) ≤ (k : Int) := Int.natCast_nonneg k
      have j1 : (k : Int) < (n : Int) := by omega
      obtain ⟨x1, hx1⟩ : ∃ x : Nat, x = (l1[k]).toNat := ⟨_, rfl⟩
      obtain ⟨x2, hx2⟩ : ∃ x : Nat, x = (l2[k]).toNat := ⟨_, rfl⟩
      rw [← hx1] at f1
      rw [← hx2] at f2
      have HX : Hid (x1 = (l1[k]).toNat ∧ x2 = (l2[k]).toNat) := ⟨hx1, hx2⟩
      clear hx1 hx2 H1 H2
      by_cases hx : x1 = x2
      · subst hx
        have hd1 : ((x1 : Int) != (x1 : Int)) = false := by simp
        go_wp2
        go_quiet (fail)
        go_wp2
        go_roundw
        case rel =>
          refine ⟨k + 1, _, by omega, by go_num, rfl, ?_⟩
          have he : l1[k] = l2[k] := UInt8.toNat_inj.1 (HX.out.1.symm.trans HX.out.2)
          rw [List.take_succ_eq_append_getElem hk1, List.take_succ_eq_append_getElem hk2, HPRE.out, he]
        case measure => simp [intOf]; omega
      · have hd1 : ((x1 : Int) != (x2 : Int)) = true := by rw [bne_iff_ne]; omega
        have HNE : Hid (decide (l1 = l2) = false) := by
          show _ = _
          refine decide_eq_false (fun he => ?_)
          subst he
          exact hx (HX.out.1.trans HX.out.2.symm)
        go_wp2
        go_quiet (fail)
        go_wp2
        go_ret
        exact ⟨by rw [HNE.out]; rfl, below_drewN' (below_drewN' (Below.refl _ _) _) _⟩
    · have HEQ : Hid (decide (l1 = l2) = true) := by
        show _ = _
        refine decide_eq_true (take_all_eq (HE.out.1.trans HE.out.2.symm) ?_)
        have hkn : k = l1.length := by have := HE.out.1; omega
        rw [← hkn]; exact HPRE.out
      clear H1 H2
      go_wp2
      go_ret
      exact ⟨by rw [HEQ.out]; rfl, below_drewN' (Below.refl _ _) _⟩

/-- Where a slice value's bytes lie. -/
def RdA (w : World) (v : Value) (l : List UInt8) : Prop := ∃ a cap, v = .slice a l.length cap ∧ ∀ j (h : j < l.length), ∃ g o, a = some ⟨g, o, none⟩ ∧ w.cell? ⟨g, o + j, none⟩ = some (.int .u8 (l[j].toNat : Int))
theorem Rd.any {w : World} {v : Value} {l : List UInt8} (h : Rd w v l) : RdA w v l := by
  rcases h with ⟨rfl, rfl⟩ | ⟨g, cap, rfl, _, _, _, hc⟩
  · exact ⟨none, 0, rfl, fun j h => by simp at h⟩
  · exact ⟨_, cap, rfl, fun j h => ⟨g, 0, rfl, by rw [Nat.zero_add]; exact hc j h⟩⟩

theorem same_any (v1 v2 : Value) (l1 l2 : List UInt8) (w : World) (h1 : l1.length ≤ 140737488355328) (h2 : l2.length ≤ 140737488355328) (r1 : RdA w v1 l1) (r2 : RdA w v2 l2) :
    Calls Tryz.prog 64 #[v1, v2] w fun e w' => e = .returned (.bool (decide (l1 = l2))) ∧ Below w.heap.size w w' := by
  obtain ⟨a1, c1, rfl, f1⟩ := r1
  obtain ⟨a2, c2, rfl, f2⟩ := r2
  by_cases he : l1.length = l2.length
  · rw [← he]
    exact same_two a1 a2 c1 c2 l1.length l1 l2 w h1 rfl he.symm f1 f2
  · rw [decide_eq_false (fun h => he (by rw [h]))]
    exact samel a1 a2 _ _ c1 c2 w h1 h2 he

theorem run_str (w : World) (v : Value) (l : List UInt8) (h : RdA w v l) (hl : 0 < l.length) : (convert 45 9 v).run Tryz.prog w = .ok (.string ⟨l.toArray⟩) w := by
  obtain ⟨a, cap, rfl, hc⟩ := h
  obtain ⟨g, o, rfl, _⟩ := hc 0 hl
  refine run_convert_bytes_back w 45 9 5 ⟨g, o, none⟩ cap l Tryz.underlying45 Tryz.underlying5 Tryz.underlying9 (fun j hj => ?_)
  obtain ⟨g', o', he, hcell⟩ := hc j hj
  cases he
  rw [show (⟨g, o, none⟩ : Addr).add j = ⟨g, o + j, none⟩ by simp [Addr.add]]
  exact hcell

end Go.Proofs.YtmifadjgmjnkgaaGreatDoor

namespace Go.Proofs.YtmifadjgmjnkgaaGreatDoor
open Go.RowKit

set_option maxHeartbeats 400000 in
theorem equal_any (v1 v2 : Value) (l1 l2 : List UInt8) (w : World) (r1 : RdA w v1 l1) (r2 : RdA w v2 l2) (h1 : 0 < l1.length) (h2 : 0 < l2.length) :
    Calls Tryz.prog 61 #[v1, v2] w fun e w' => e = .returned (.bool (decide (l1 = l2))) ∧ w = w' := by
  have s1 := run_str w v1 l1 r1 h1
  have s2 := run_str w v2 l2 r2 h2
  obtain ⟨a1, c1, rfl, _⟩ := r1
  obtain ⟨a2, c2, rfl, _⟩ := r2
  clear h1 h2
  go_enter Tryz.func61, Tryz.ntmps61
  go_wp2_with fail
  go_ret
  refine ⟨?_, rfl⟩
  show Ending.returned (.bool (l1 == l2)) = _
  have e : (l1 == l2) = decide (l1 = l2) := by by_cases h : l1 = l2 <;> simp [h]
  rw [e]

end Go.Proofs.YtmifadjgmjnkgaaGreatDoor

namespace Go.Proofs.YtmifadjgmjnkgaaGreatDoor
open Go.RowKit

/-- What the bytes of a page could be of. -/
def parse (l : List UInt8) : Sh := ⟨(nums l 0 : Int), (nums l 2 : Int), nums l 3, (nums l 1 : Int), ⟨(l.drop 24).toArray⟩⟩
/-- When bytes are the page of that number. -/
def okRead (l : List UInt8) (id : Int) : Prop := l.length = 4096 ∧ (parse l).id = id ∧ May (parse l) ∧ page (parse l) = l
instance (l : List UInt8) (id : Int) : Decidable (okRead l id) := inferInstanceAs (Decidable (_ ∧ _))

/-- What Read answers. -/
def readV (a : Addr) (l : List UInt8) (id : Int) : Array Value := if okRead l id then #[.agg (parse l).cells.toArray, .nilIface] else #[.agg #[.int .i64 0, .int .i64 0, .int .u64 0, .int .i64 0, .string ⟨#[]⟩], .iface 158 (.pointer (some a))]
theorem readV_ok {a : Addr} {l : List UInt8} {id : Int} (h : okRead l id) : readV a l id = #[.agg #[.int .i64 (nums l 0 : Int), .int .i64 (nums l 2 : Int), .int .u64 (nums l 3 : Int), .int .i64 (nums l 1 : Int), .string ⟨(l.drop 24).toArray⟩], .nilIface] := by unfold readV; rw [if_pos h]; rfl
theorem readV_no {a : Addr} {l : List UInt8} {id : Int} (h : ¬ okRead l id) : readV a l id = #[.agg #[.int .i64 0, .int .i64 0, .int .u64 0, .int .i64 0, .string ⟨#[]⟩], .iface 158 (.pointer (some a))] := by unfold readV; rw [if_neg h]

theorem nums_lt (l : List UInt8) (k : Nat) : nums l k < 256 ^ width k := by
  have h := beNat_lt (sub l (place k) (width k))
  exact Nat.lt_of_lt_of_le h (Nat.pow_le_pow_right (by decide) (by simp [sub]; omega))
theorem nums0 (l : List UInt8) : nums l 0 < 256 := nums_lt l 0
theorem nums1 (l : List UInt8) : nums l 1 < 65536 := nums_lt l 1
theorem nums2 (l : List UInt8) : nums l 2 < 4294967296 := nums_lt l 2
theorem nums3 (l : List UInt8) : nums l 3 < 18446744073709551616 := nums_lt l 3

theorem conv_body (g cap : Nat) (l : List UInt8) (W : World) (hl : l.length = 4096) (hc : ∀ j (h : j < l.length), W.cell? ⟨g, j, none⟩ = some (.int .u8 (l[j].toNat : Int))) :
    (convert 45 9 (.slice (some ⟨g, 24, none⟩) 4072 (cap - 24))).run Tryz.prog W = .ok (.string ⟨(l.drop 24).toArray⟩) W := by
  refine run_str W _ (l.drop 24) ⟨_, cap - 24, by rw [List.length_drop, hl], fun j hj => ⟨g, 24, rfl, ?_⟩⟩ (by rw [List.length_drop, hl]; decide)
  rw [hc (24 + j) (by rw [List.length_drop] at hj; omega), List.getElem_drop]

theorem results_row_tmp {P : Program} {fn : Func} {p u : Tmp} {ty : TypeId} (h : fn.results = #[.cell p ty, .tmp u]) (tmps : Array Value) (w : World) (g : Nat) (t : TypeId) (cs : Array Value) (fr : Nat × Nat) (d : TypeDesc)
    (hp : tmps.getD p undef = .pointer (some ⟨g, 0, none⟩)) (hg : w.heap[g]? = some (.cells cs t fr)) (hu : P.underlying ty = some d) (hd : (match d with | .struct _ | .array _ _ => true | _ => false) = true) (hi : (P.info? ty).map (·.size) = some cs.size) :
    (results fn tmps).run P w = .ok (.tuple #[.agg cs, tmps.getD u undef]) w := by
  rw [results_cell_tmp h tmps P w, hp]
  simp [asAddr, run_loadVar_row w g t ty cs fr d hg hu hd hi, Result.andThen]
theorem wrap_n (n : Nat) (h : n < 9223372036854775808) : IntKind.i64.wrap (n : Int) = (n : Int) := by
  rw [IntKind.wrap_i64]; omega
theorem set_five_drew {w : World} {b : Nat} {t : TypeId} {v0 v1 v2 v3 v4 u0 u1 u2 u3 u4 : Value} (h : w.heap[b]? = some (.cells #[v0, v1, v2, v3, v4] t (0, 0))) :
    (((((w.setCell ⟨b, 0, none⟩ u0).setCell ⟨b, 1, none⟩ u1).setCell ⟨b, 2, none⟩ u2).setCell ⟨b, 3, none⟩ u3).setCell ⟨b, 4, none⟩ u4).drew.heap[b]? = some (.cells #[u0, u1, u2, u3, u4] t (0, 0)) := by
  rw [World.drew_is_drewN, World.heap_drewN]; exact set_five h
theorem five_keep {w : World} {b b' o : Nat} {v u0 u1 u2 u3 u4 : Value} (hne : ¬ b' = b) (h : w.cell? ⟨b', o, none⟩ = some v) :
    (((((w.setCell ⟨b, 0, none⟩ u0).setCell ⟨b, 1, none⟩ u1).setCell ⟨b, 2, none⟩ u2).setCell ⟨b, 3, none⟩ u3).setCell ⟨b, 4, none⟩ u4).drew.cell? ⟨b', o, none⟩ = some v := by
  have hk : ∀ (w : World) (k : Nat) (u : Value), w.cell? ⟨b', o, none⟩ = some v → (w.setCell ⟨b, k, none⟩ u).cell? ⟨b', o, none⟩ = some v := fun w k u hw =>
    (World.cell?_of_block (a := ⟨b', o, none⟩) (Below.heap_setCell w ⟨b, k, none⟩ u b' (fun e => hne e))).trans hw
  rw [World.drew_is_drewN, World.cell?_drewN]
  exact hk _ _ _ (hk _ _ _ (hk _ _ _ (hk _ _ _ (hk _ _ _ h))))
theorem below_five {w w' : World} {b : Nat} {u0 u1 u2 u3 u4 : Value} (h : Below w.heap.size w w') (hb : w.heap.size ≤ b) : Below w.heap.size w (((((w'.setCell ⟨b, 0, none⟩ u0).setCell ⟨b, 1, none⟩ u1).setCell ⟨b, 2, none⟩ u2).setCell ⟨b, 3, none⟩ u3).setCell ⟨b, 4, none⟩ u4) :=
  ((((h.setCell hb _).setCell hb _).setCell hb _).setCell hb _).setCell hb _

end Go.Proofs.YtmifadjgmjnkgaaGreatDoor
