import Derived.Test.YtpeobpmooledaaaDoorSEachW
import Derived.Test.YtpeobpmooledaaaDoorGA
namespace Go.Proofs.YtpeobpmooledaaaDoor.S
open Go.RowKit

def sub (l : List UInt8) (o m : Nat) : List UInt8 := (l.drop o).take m
theorem sub_len (l : List UInt8) (o m : Nat) (h : o + m ≤ l.length) : (sub l o m).length = m := by
  simp [sub]; omega
theorem sub_get (l : List UInt8) (o m j : Nat) (h : o + m ≤ l.length) (hj : j < (sub l o m).length) : (sub l o m)[j] = l[o + j]'(by rw [sub_len l o m h] at hj; omega) := by
  simp [sub]
/-- The numbers of a head: as they are read. -/
def nums (l : List UInt8) (k : Nat) : Nat := beNat (sub l (place k) (width k))
/-- The first so many numbers, the others zero. -/
def numsTo (l : List UInt8) (n k : Nat) : Nat := if k < n then nums l k else 0
/-- A block that holds a head. -/
def HeadAt (w : World) (hb : Nat) (f : Nat → Nat) : Prop := w.heap[hb]? = some (.cells #[.int .u64 (f 0 : Int), .int .u64 (f 1 : Int), .int .u64 (f 2 : Int), .int .u64 (f 3 : Int), .int .u64 (f 4 : Int)] 83 (0, 0))

set_option maxHeartbeats 400000 in
theorem rh1_any (g o m cap hb k : Nat) (old : Value) (l : List UInt8) (w : World) (hk : k < 5) (hm : l.length = m) (h1 : 1 ≤ m) (h8 : m ≤ 8)
    (hc : ∀ j (h : j < l.length), w.cell? ⟨g, o + j, none⟩ = some (.int .u8 (l[j].toNat : Int))) (hold : w.cell? ⟨hb, k, none⟩ = some old) (hfz : w.frozen? ⟨hb, k, none⟩ = false) :
    Calls Tryd.prog 61 #[.int .i64 (k : Int), .slice (some ⟨g, o, none⟩) m cap, .pointer (some ⟨hb, 0, none⟩)] w fun e w' => e = .returned (.tuple #[]) ∧ ∃ w1, Below w.heap.size w w1 ∧ w' = w1.setCell ⟨hb, k, none⟩ (.int .u64 ((beNat l : Nat) : Int)) := by
  subst hm
  have hg : g < w.heap.size := World.block_lt_of_cell? w _ (hc 0 (by omega))
  have hbl : hb < w.heap.size := World.block_lt_of_cell? w _ hold
  have HG : Hid (∀ w, g < w.heap.size → (∀ j (h : j < l.length), w.cell? ⟨g, o + j, none⟩ = some (.int .u8 (l[j].toNat : Int))) → Calls Tryd.prog 62 #[.slice (some ⟨g, o, none⟩) l.length cap] w fun e w' => e = .returned (.tuple #[.int .u64 ((beNat l : Nat) : Int), .nilIface]) ∧ Below w.heap.size w w') := fun w hg hc => get_ok g o cap l w h1 h8 hg hc
  have HC := hide hc
  have HO := hide hold
  have HF := hide hfz
  have k0 : (0 : Int) ≤ (k : Int) := by omega
  have k5 : (k : Int) < 5 := by omega
  clear hc hold hfz h1 h8
  generalize beNat l = n at *
  go_enter Tryd.func61, Tryd.ntmps61
  go_wp2_with (go_at_call 62; refine (HG.out _ hg HC.out).mono ?_; rintro e w1 ⟨rfl, hb1⟩; have HB1 := hide hb1; have ho1 : w1.cell? ⟨hb, k, none⟩ = some old := (hb1.cell (p := ⟨hb, k, none⟩) hbl).trans HO.out; have hf1 : w1.frozen? ⟨hb, k, none⟩ = false := (hb1.frozen (p := ⟨hb, k, none⟩) hbl).trans HF.out; clear hb1)
  go_end0
  exact ⟨rfl, w1, HB1.out, rfl⟩

theorem numsTo_zero (l : List UInt8) (k : Nat) : numsTo l 0 k = 0 := rfl
theorem numsTo_five (l : List UInt8) (k : Nat) (h : k < 5) : numsTo l 5 k = nums l k := by simp [numsTo, h]

/-- One number more. -/
theorem head_step {w wr w0 : World} {o : Obj} {g hb : Nat} {l : List UInt8} (k : Nat) (hk : k < 5) (hh : HeadAt wr hb (numsTo l k)) (hs : Sole hb w wr) (_hg : g ≠ hb) (hb0 : Below (wr.alloc o).heap.size (wr.alloc o) w0) :
    HeadAt (w0.setCell ⟨hb, k, none⟩ (.int .u64 ((beNat (sub l (place k) (width k)) : Nat) : Int))) hb (numsTo l (k + 1)) ∧ Sole hb w (w0.setCell ⟨hb, k, none⟩ (.int .u64 ((beNat (sub l (place k) (width k)) : Nat) : Int))) := by
  have hlt : hb < wr.heap.size := by
    rcases Nat.lt_or_ge hb wr.heap.size with h' | h'
    · exact h'
    · unfold HeadAt at hh; rw [Array.getElem?_eq_none h'] at hh; cases hh
  have h0 : w0.heap[hb]? = some (.cells #[.int .u64 (numsTo l k 0 : Int), .int .u64 (numsTo l k 1 : Int), .int .u64 (numsTo l k 2 : Int), .int .u64 (numsTo l k 3 : Int), .int .u64 (numsTo l k 4 : Int)] 83 (0, 0)) := by
    rw [(Below.next (below_new wr o) hb0).block hb hlt]; exact hh
  refine ⟨?_, (hs.trans (Sole.of_below (Below.next (below_new wr o) hb0))).trans (Sole.set hb k w0 _)⟩
  unfold HeadAt
  rw [heap_setCell_same w0 hb k _ _ _ h0]
  obtain rfl | rfl | rfl | rfl | rfl : k = 0 ∨ k = 1 ∨ k = 2 ∨ k = 3 ∨ k = 4 := by omega
  all_goals rfl

theorem HeadAt.cell {w : World} {hb : Nat} {f : Nat → Nat} (h : HeadAt w hb f) (k : Nat) (hk : k < 5) : w.cell? ⟨hb, k, none⟩ = some (.int .u64 (f k : Int)) := by
  rw [cell_of_row _ _ _ _ _ _ h]
  obtain rfl | rfl | rfl | rfl | rfl : k = 0 ∨ k = 1 ∨ k = 2 ∨ k = 3 ∨ k = 4 := by omega
  all_goals rfl
theorem HeadAt.lt {w : World} {hb : Nat} {f : Nat → Nat} (h : HeadAt w hb f) : hb < w.heap.size := World.block_lt_of_cell? w _ (h.cell 0 (by decide))
theorem HeadAt.below {w w' : World} {hb : Nat} {f : Nat → Nat} (h : HeadAt w hb f) (hb' : Below w.heap.size w w') : HeadAt w' hb f := by
  unfold HeadAt; rw [hb'.block hb h.lt]; exact h

set_option maxHeartbeats 1000000 in
theorem eachR_any (g hb cap : Nat) (l : List UInt8) (w : World) (hl : l.length = 4096) (hcap : 4096 ≤ cap) (hcm : cap ≤ 9223372036854775807) (hgb : g ≠ hb) (hL : Lay w) (hh : HeadAt w hb (numsTo l 0))
    (hc : ∀ j (h : j < l.length), w.cell? ⟨g, j, none⟩ = some (.int .u8 (l[j].toNat : Int))) :
    Calls Tryd.prog 60 #[.slice (some ⟨g, 0, none⟩) 4096 cap, .func (.func 61) #[] #[.pointer (some ⟨hb, 0, none⟩)]] w fun e w' => e = .returned (.tuple #[]) ∧ HeadAt w' hb (numsTo l 5) ∧ Sole hb w w' := by
  obtain ⟨hL0, c0, c1, c2, c3, c4, c5, c6, c7, c8, c9⟩ := hL
  have HC := hide hc
  have HH0 := hide hh
  have HL := hide hl
  have hcapI : (4096 : Int) ≤ (cap : Int) := by omega
  clear hc hh hl hL0
  go_enter Tryd.func60, Tryd.ntmps60
  go_wp2_with fail
  go_loopw [7] (fun i wr => ∃ k : Nat, k ≤ 5 ∧ i = .int .i64 (k : Int) ∧ HeadAt wr hb (numsTo l k) ∧ Sole hb w wr) (fun i _ => 5 - (intOf i).toNat)
  case atStart => exact ⟨0, by omega, rfl, HH0.out, Sole.refl _ _⟩
  case round =>
    obtain ⟨k, hk, rfl, hrow, hs⟩ := hrel
    clear c0 c1 c2 c3 c4 c5 c6 c7 c8 c9
    have HS : Hid (Sole hb w wr) := hs
    have HH : Hid (HeadAt wr hb (numsTo l k)) := hrow
    clear hs hrow HH0
    by_cases hlt : k < 5
    · have HCK : Hid (∀ obj o m, o + m ≤ 20 → ∀ j (h : j < (sub l o m).length), (wr.alloc obj).cell? ⟨g, o + j, none⟩ = some (.int .u8 ((sub l o m)[j].toNat : Int))) := fun obj o m hom j hj => by
        have hsl := sub_len l o m (by rw [HL.out]; omega)
        have hoj : o + j < l.length := by rw [HL.out]; omega
        rw [sub_get l o m j (by rw [HL.out]; omega) hj, (below_new wr obj).cell (p := ⟨g, o + j, none⟩) (Nat.lt_of_lt_of_le (World.block_lt_of_cell? w _ (HC.out _ hoj)) HS.out.size)]
        exact HS.out.cell (HC.out _ hoj) hgb
      have HOLD : Hid (∀ obj, (wr.alloc obj).cell? ⟨hb, k, none⟩ = some (.int .u64 (numsTo l k k : Int))) := fun obj => (HH.out.below (below_new wr obj)).cell k hlt
      have HFZ : Hid (∀ obj, (wr.alloc obj).frozen? ⟨hb, k, none⟩ = false) := fun obj => frozen_of_row _ _ _ _ _ (HH.out.below (below_new wr obj))
      obtain rfl | rfl | rfl | rfl | rfl : k = 0 ∨ k = 1 ∨ k = 2 ∨ k = 3 ∨ k = 4 := by omega
      · have li := fun w => lay_index w 0 (by decide)
        rw [show ((0 : Nat) : Int) = 0 from rfl] at li ⊢
        simp only [place, width, Int.cast_ofNat_Int] at li
        go_wp2_with (go_at_call 61; refine (rh1_any g 0 1 _ hb 0 _ (sub l 0 1) _ (by decide) (sub_len _ _ _ (by rw [HL.out]; decide)) (by decide) (by decide) (HCK.out _ 0 1 (by decide)) (HOLD.out _) (HFZ.out _)).mono ?_; rintro e w1 ⟨rfl, w0, hb0, rfl⟩; have HN := hide (head_step 0 (by decide) HH.out HS.out hgb hb0); clear hb0)
        go_roundw
        case rel => exact ⟨1, by omega, by go_num, HN.out.1, HN.out.2⟩
        case measure => simp [intOf]
      · have li := fun w => lay_index w 1 (by decide)
        rw [show ((1 : Nat) : Int) = 1 from rfl] at li ⊢
        simp only [place, width, Int.cast_ofNat_Int] at li
        go_wp2_with (go_at_call 61; refine (rh1_any g 2 2 _ hb 1 _ (sub l 2 2) _ (by decide) (sub_len _ _ _ (by rw [HL.out]; decide)) (by decide) (by decide) (HCK.out _ 2 2 (by decide)) (HOLD.out _) (HFZ.out _)).mono ?_; rintro e w1 ⟨rfl, w0, hb0, rfl⟩; have HN := hide (head_step 1 (by decide) HH.out HS.out hgb hb0); clear hb0)
        go_roundw
        case rel => exact ⟨2, by omega, by go_num, HN.out.1, HN.out.2⟩
        case measure => simp [intOf]
      · have li := fun w => lay_index w 2 (by decide)
        rw [show ((2 : Nat) : Int) = 2 from rfl] at li ⊢
        simp only [place, width, Int.cast_ofNat_Int] at li
        go_wp2_with (go_at_call 61; refine (rh1_any g 4 4 _ hb 2 _ (sub l 4 4) _ (by decide) (sub_len _ _ _ (by rw [HL.out]; decide)) (by decide) (by decide) (HCK.out _ 4 4 (by decide)) (HOLD.out _) (HFZ.out _)).mono ?_; rintro e w1 ⟨rfl, w0, hb0, rfl⟩; have HN := hide (head_step 2 (by decide) HH.out HS.out hgb hb0); clear hb0)
        go_roundw
        case rel => exact ⟨3, by omega, by go_num, HN.out.1, HN.out.2⟩
        case measure => simp [intOf]
      · have li := fun w => lay_index w 3 (by decide)
        rw [show ((3 : Nat) : Int) = 3 from rfl] at li ⊢
        simp only [place, width, Int.cast_ofNat_Int] at li
        go_wp2_with (go_at_call 61; refine (rh1_any g 8 8 _ hb 3 _ (sub l 8 8) _ (by decide) (sub_len _ _ _ (by rw [HL.out]; decide)) (by decide) (by decide) (HCK.out _ 8 8 (by decide)) (HOLD.out _) (HFZ.out _)).mono ?_; rintro e w1 ⟨rfl, w0, hb0, rfl⟩; have HN := hide (head_step 3 (by decide) HH.out HS.out hgb hb0); clear hb0)
        go_roundw
        case rel => exact ⟨4, by omega, by go_num, HN.out.1, HN.out.2⟩
        case measure => simp [intOf]
      · have li := fun w => lay_index w 4 (by decide)
        rw [show ((4 : Nat) : Int) = 4 from rfl] at li ⊢
        simp only [place, width, Int.cast_ofNat_Int] at li
        go_wp2_with (go_at_call 61; refine (rh1_any g 16 4 _ hb 4 _ (sub l 16 4) _ (by decide) (sub_len _ _ _ (by rw [HL.out]; decide)) (by decide) (by decide) (HCK.out _ 16 4 (by decide)) (HOLD.out _) (HFZ.out _)).mono ?_; rintro e w1 ⟨rfl, w0, hb0, rfl⟩; have HN := hide (head_step 4 (by decide) HH.out HS.out hgb hb0); clear hb0)
        go_roundw
        case rel => exact ⟨5, by omega, by go_num, HN.out.1, HN.out.2⟩
        case measure => simp [intOf]
    · obtain rfl : k = 5 := by omega
      rw [show ((5 : Nat) : Int) = 5 from rfl]
      go_wp2_with fail
      go_end0
      exact ⟨rfl, HH.out, HS.out⟩

end Go.Proofs.YtpeobpmooledaaaDoor.S
