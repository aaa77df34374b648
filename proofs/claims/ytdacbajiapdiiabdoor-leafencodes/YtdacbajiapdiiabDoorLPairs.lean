import Derived.Test.YtdacbajiapdiiabDoorPrOwn
import Derived.Test.YtdacbajiapdiiabDoorKBytes
import Derived.Deep.RegionHeld3
namespace Go.Proofs.YtdacbajiapdiiabDoor
open Go.RowKit

def digitB (k : Nat) : ByteArray := ⟨#[UInt8.ofNat (48 + k)]⟩
def markN (n : Nat) : Pr := (⟨#[109, 97, 114, 107]⟩, digitB (n % 10))
def marks (n : Nat) : List Pr := (List.range n).map markN
theorem marks_len (n : Nat) : (marks n).length = n := by simp [marks]
theorem marks_succ (n : Nat) : marks (n + 1) = marks n ++ [markN n] := by simp [marks, List.range_succ]
theorem marks_get (n j : Nat) (h : j < (marks n).length) : (marks n)[j] = markN j := by simp [marks]

theorem digit_get : ∀ k, k < 10 → (⟨#[48, 49, 50, 51, 52, 53, 54, 55, 56, 57]⟩ : ByteArray).data.toList[k]? = some (UInt8.ofNat (48 + k)) := by
  intro k hk
  match k, hk with
  | 0, _ | 1, _ | 2, _ | 3, _ | 4, _ | 5, _ | 6, _ | 7, _ | 8, _ | 9, _ => rfl

/-- string(b[i:i+1]) of a text's bytes. -/
theorem conv_one (w : World) (g o c : Nat) (x : UInt8) (hc : w.cell? ⟨g, o, none⟩ = some (.int .u8 (x.toNat : Int))) : (convert 78 9 (.slice (some ⟨g, o, none⟩) 1 c)).run Tryd.prog w = .ok (.string ⟨#[x]⟩) w := by
  have := run_convert_bytes_back (P := Tryd.prog) w 78 9 5 ⟨g, o, none⟩ c [x] Tryd.underlying78 Tryd.underlying5 Tryd.underlying9 (fun j hj => by
    have : j = 0 := by simpa using hj
    subst this
    rw [show (⟨g, o, none⟩ : Addr).add 0 = ⟨g, o, none⟩ by simp [Addr.add]]
    exact hc)
  exact this

theorem row_kept {w w1 : World} {cs : Array Value} {t : TypeId} (hb : Below (w.alloc (.cells cs t)).heap.size (w.alloc (.cells cs t)) w1) : w1.heap[w.heap.size]? = some (.cells cs t (0, 0)) := by
  rw [hb.block w.heap.size (by simp)]; exact heap_alloc_new w _
theorem set_two {w : World} {b : Nat} {x y : Value} {t : TypeId} (h : w.heap[b]? = some (.cells #[x, y] t (0, 0))) (x' y' : Value) :
    ((w.setCell ⟨b, 0, none⟩ x').setCell ⟨b, 1, none⟩ y').heap[b]? = some (.cells #[x', y'] t (0, 0)) := by
  rw [heap_setCell_same _ b 1 _ t _ (heap_setCell_same w b 0 _ t _ h)]
  rfl
theorem below_two {B : Nat} {w0 w : World} {b : Nat} {x y : Value} (h : Below B w0 w) (hb : B ≤ b) : Below B w0 ((w.setCell ⟨b, 0, none⟩ x).setCell ⟨b, 1, none⟩ y) := (h.setCell hb _).setCell hb _
theorem bytes_at (s : ByteArray) (n : Nat) (w : World) (hn : n = s.size) (h0 : 0 < n) (hs : n ≤ 140737488355328) :
    Calls Tryd.prog 46 #[.string s] w fun e w' => ∃ g cap, e = .returned (.slice (some ⟨g, 0, none⟩) n cap) ∧ n ≤ cap ∧ (∀ j (x : UInt8), s.data.toList[j]? = some x → w'.cell? ⟨g, j, none⟩ = some (.int .u8 (x.toNat : Int))) ∧ Below w.heap.size w w' := by
  subst hn
  refine (bytes_any s w hs).mono ?_
  rintro e w1 ⟨v, rfl, hown, hb⟩
  obtain ⟨g, cap, rfl, _⟩ := hown.form h0
  refine ⟨g, cap, rfl, ?_, fun j x hj => ?_, hb⟩
  · rcases hown.2 with ⟨h, _⟩ | ⟨g', cap', cur, h1, h2, h3, h4, _⟩
    · cases h
    · cases h1; exact h4
  · have hj' := (List.getElem?_eq_some_iff.1 hj).1
    rw [bsize] at hj'
    rw [World.ownsRow.cellAt hown j (by omega), u8s, List.getElem?_map, hj]; rfl

set_option maxRecDepth 20000 in
set_option maxHeartbeats 400000 in
theorem mark_any (n : Nat) (w : World) (hn : n ≤ 1152921504606846976) :
    Calls Tryd.prog 21 #[.int .i64 (n : Int)] w fun e w' => e = .returned (.agg #[.string (markN n).1, .string (markN n).2]) ∧ Below w.heap.size w w' := by
  have hb0 := below_new w (.cells #[.string ⟨#[]⟩, .string ⟨#[]⟩] 45)
  obtain ⟨k, hk⟩ : ∃ k, k = n % 10 := ⟨_, rfl⟩
  have hk10 : k < 10 := by omega
  have hrem : Int.tmod (n : Int) 10 = (k : Int) := by rw [Int.tmod_eq_emod_of_nonneg (by omega)]; omega
  have HK := hide hk
  clear hk
  go_enter Tryd.func21, Tryd.ntmps21
  go_wp2_with fail
  refine (bytes_at _ 10 _ rfl (by decide) (by decide)).mono ?_
  rintro e w1 ⟨g, cap, rfl, hcap, hc, hb1⟩
  have hcell : w1.cell? ⟨g, k, none⟩ = some (.int .u8 ((UInt8.ofNat (48 + k)).toNat : Int)) := hc k _ (digit_get k hk10)
  have hrow := row_kept hb1
  have c0 : w1.cell? ⟨w.heap.size, 0, none⟩ = some (.string ⟨#[]⟩) := by rw [cell_of_row _ _ _ _ _ _ hrow]; rfl
  have c1 : w1.cell? ⟨w.heap.size, 1, none⟩ = some (.string ⟨#[]⟩) := by rw [cell_of_row _ _ _ _ _ _ hrow]; rfl
  have z0 : w1.frozen? ⟨w.heap.size, 0, none⟩ = false := frozen_of_row _ _ _ _ _ hrow
  have z1 : w1.frozen? ⟨w.heap.size, 1, none⟩ = false := frozen_of_row _ _ _ _ _ hrow
  have hcv := conv_one w1 g k (cap - k) _ hcell
  obtain ⟨q, hq⟩ : ∃ q, q = k + 1 := ⟨_, rfl⟩
  have hw : IntKind.i64.wrap ((k : Int) + 1) = (q : Int) := by rw [IntKind.wrap_i64]; omega
  have hsl : ∀ w, (Instr.sliceAt 78 (.slice (some ⟨g, 0, none⟩) 10 cap) (some (.int .i64 (k : Int))) (some (.int .i64 (q : Int))) none).run Tryd.prog w = .ok (.slice (some ⟨g, k, none⟩) 1 (cap - k)) w := fun w => by
    subst hq
    rw [run_sliceAt_slice (h := Tryd.underlying78), run_slice_lh (ht := Tryd.underlying78) (h0 := by omega) (h1 := by omega) (h2 := by omega)]
    have hz : (sizeOf (Tryd.prog.elem 78)).run Tryd.prog w = .ok 1 w := by kernel_rfl
    rw [hz]
    simp only [Result.andThen, sliced, Int.toNat_natCast]
    rw [if_neg (by omega), show k + 1 - k = 1 by omega]
    simp [add_plain']
  have HB := hide (Below.next hb0 hb1)
  have hq10 : q ≤ 10 := by omega
  have HQ := hide hq
  clear hq
  obtain ⟨x, hx⟩ : ∃ x, x = UInt8.ofNat (48 + k) := ⟨_, rfl⟩
  rw [← hx] at hcv
  have HX := hide hx
  have HROW := hide hrow
  clear hb1 hb0 hc hcell hx hrow
  go_wp2_with fail
  refine bodyPost_ret (results_cell_row rfl _ _ w.heap.size 45 _ (0, 0) _ rfl (set_two HROW.out _ _) Tryd.underlying45 rfl (by kernel_rfl)) rfl ⟨?_, below_two HB.out (Nat.le_refl _)⟩
  rw [HX.out, HK.out]; rfl

end Go.Proofs.YtdacbajiapdiiabDoor
