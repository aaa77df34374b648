import Derived.Test.YtdacbajiapdiiabDoorBase
import Derived.Test.YtdacbajiapdiiabDoorKBytes
import Derived.Deep.RegionHeld3
namespace Go.Proofs.YtdacbajiapdiiabDoor
open Go.RowKit

def digitB (k : Nat) : ByteArray := ⟨#[UInt8.ofNat (48 + k)]⟩
def markN (n : Nat) : Pr := (⟨#[109, 97, 114, 107]⟩, digitB (n % 10))
def marks (n : Nat) : List Pr := (List.range n).map markN
theorem marks_len (n : Nat) : (marks n).length = n := by simp [marks]
theorem marks_succ (n : Nat) : marks (n + 1) = marks n ++ [markN n] := by simp [marks, List.range_succ]
theorem marks_get (n j : Nat) (h : j < (marks n).length) : (marks n)[j] = markN j := by simp [marks]

theorem digit_get : ∀ k, k < 10 → (⟨#[48, 49, 50, 51, 52, 53, 54, 55, 56, 57]⟩ : ByteArray).data.toList[k]? = some (UInt8.ofNat (48 + k)) := by
  intro k hk
  match k, hk with
  | 0, _ | 1, _ | 2, _ | 3, _ | 4, _ | 5, _ | 6, _ | 7, _ | 8, _ | 9, _ => rfl

/-- string(b[i:i+1]) of a text's bytes. -/
theorem conv_one (w : World) (g o c : Nat) (x : UInt8) (hc : w.cell? ⟨g, o, none⟩ = some (.int .u8 (x.toNat : Int))) : (convert 78 9 (.slice (some ⟨g, o, none⟩) 1 c)).run Tryd.prog w = .ok (.string ⟨#[x]⟩) w := by
  have := run_convert_bytes_back (P := Tryd.prog) w 78 9 5 ⟨g, o, none⟩ c [x] Tryd.underlying78 Tryd.underlying5 Tryd.underlying9 (fun j hj => by
    have : j = 0 := by simpa using hj
    subst this
    rw [show (⟨g, o, none⟩ : Addr).add 0 = ⟨g, o, none⟩ by simp [Addr.add]]
    exact hc)
  exact this

theorem row_kept {w w1 : World} {cs : Array Value} {t : TypeId} (hb : Below (w.alloc (.cells cs t)).heap.size (w.alloc (.cells cs t)) w1) : w1.heap[w.heap.size]? = some (.cells cs t (0, 0)) := by
  rw [hb.block w.heap.size (by simp)]; exact heap_alloc_new w _
theorem set_two {w : World} {b : Nat} {x y : Value} {t : TypeId} (h : w.heap[b]? = some (.cells #[x, y] t (0, 0))) (x' y' : Value) :
    ((w.setCell ⟨b, 0, none⟩ x').setCell ⟨b, 1, none⟩ y').heap[b]? = some (.cells #[x', y'] t (0, 0)) := by
  rw [heap_setCell_same _ b 1 _ t _ (heap_setCell_same w b 0 _ t _ h)]
  rfl
theorem below_two {B : Nat} {w0 w : World} {b : Nat} {x y : Value} (h : Below B w0 w) (hb : B ≤ b) : Below B w0 ((w.setCell ⟨b, 0, none⟩ x).setCell ⟨b, 1, none⟩ y) := (h.setCell hb _).setCell hb _
theorem bytes_at (s : ByteArray) (n : Nat) (w : World) (hn : n = s.size) (h0 : 0 < n) (hs : n ≤ 140737488355328) :
    Calls Tryd.prog 46 #[.string s] w fun e w' => ∃ g cap, e = .returned (.slice (some ⟨g, 0, none⟩) n cap) ∧ n ≤ cap ∧ (∀ j (x : UInt8), s.data.toList[j]? = some x → w'.cell? ⟨g, j, none⟩ = some (.int .u8 (x.toNat : Int))) ∧ Below w.heap.size w w' := by
  subst hn
  refine (bytes_any s w hs).mono ?_
  rintro e w1 ⟨v, rfl, hown, hb⟩
  obtain ⟨g, cap, rfl, _⟩ := hown.form h0
  refine ⟨g, cap, rfl, ?_, fun j x hj => ?_, hb⟩
  · rcases hown.2 with ⟨h, _⟩ | ⟨g', cap', cur, h1, h2, h3, h4, _⟩
    · cases h
    · cases h1; exact h4
  · have hj' := (List.getElem?_eq_some_iff.1 hj).1
    rw [bsize] at hj'
    rw [World.ownsRow.cellAt hown j (by omega), u8s, List.getElem?_map, hj]; rfl

set_option maxRecDepth 20000 in
set_option maxHeartbeats 400000 in
theorem mark_any (n : Nat) (w : World) (hn : n ≤ 1152921504606846976) :
    Calls Tryd.prog 21 #[.int .i64 (n : Int)] w fun e w' => e = .returned (.agg #[.string (markN n).1, .string (markN n).2]) ∧ Below w.heap.size w w' := by
  have hb0 := below_new w (.cells #[.string ⟨#[]⟩, .string ⟨#[]⟩] 45)
  obtain ⟨k, hk⟩ : ∃ k, k = n % 10 := ⟨_, rfl⟩
  have hk10 : k < 10 := by omega
  have hrem : Int.tmod (n : Int) 10 = (k : Int) := by rw [Int.tmod_eq_emod_of_nonneg (by omega)]; omega
  have HK := hide hk
  clear hk
  go_enter Tryd.func21, Tryd.ntmps21
  go_wp2_with fail
  refine (bytes_at _ 10 _ rfl (by decide) (by decide)).mono ?_
  rintro e w1 ⟨g, cap, rfl, hcap, hc, hb1⟩
  have hcell : w1.cell? ⟨g, k, none⟩ = some (.int .u8 ((UInt8.ofNat (48 + k)).toNat : Int)) := hc k _ (digit_get k hk10)
  have hrow := row_kept hb1
  have c0 : w1.cell? ⟨w.heap.size, 0, none⟩ = some (.string ⟨#[]⟩) := by rw [cell_of_row _ _ _ _ _ _ hrow]; rfl
  have c1 : w1.cell? ⟨w.heap.size, 1, none⟩ = some (.string ⟨#[]⟩) := by rw [cell_of_row _ _ _ _ _ _ hrow]; rfl
  have z0 : w1.frozen? ⟨w.heap.size, 0, none⟩ = false := frozen_of_row _ _ _ _ _ hrow
  have z1 : w1.frozen? ⟨w.heap.size, 1, none⟩ = false := frozen_of_row _ _ _ _ _ hrow
  have hcv := conv_one w1 g k (cap - k) _ hcell
  obtain ⟨q, hq⟩ : ∃ q, q = k + 1 := ⟨_, rfl⟩
  have hw : IntKind.i64.wrap ((k : Int) + 1) = (q : Int) := by rw [IntKind.wrap_i64]; omega
  have hsl : ∀ w, (Instr.sliceAt 78 (.slice (some ⟨g, 0, none⟩) 10 cap) (some (.int .i64 (k : Int))) (some (.int .i64 (q : Int))) none).run Tryd.prog w = .ok (.slice (some ⟨g, k, none⟩) 1 (cap - k)) w := fun w => by
    subst hq
    rw [run_sliceAt_slice (h := Tryd.underlying78), run_slice_lh (ht := Tryd.underlying78) (h0 := by omega) (h1 := by omega) (h2 := by omega)]
    have hz : (sizeOf (Tryd.prog.elem 78)).run Tryd.prog w = .ok 1 w := by kernel_rfl
    rw [hz]
    simp only [Result.andThen, sliced, Int.toNat_natCast]
    rw [if_neg (by omega), show k + 1 - k = 1 by omega]
    simp [add_plain']
  have HB := hide (Below.next hb0 hb1)
  have hq10 : q ≤ 10 := by omega
  have HQ := hide hq
  clear hq
  obtain ⟨x, hx⟩ : ∃ x, x = UInt8.ofNat (48 + k) := ⟨_, rfl⟩
  rw [← hx] at hcv
  have HX := hide hx
  have HROW := hide hrow
  clear hb1 hb0 hc hcell hx hrow
  go_wp2_with fail
  refine bodyPost_ret (results_cell_row rfl _ _ w.heap.size 45 _ (0, 0) _ rfl (set_two HROW.out _ _) Tryd.underlying45 rfl (by kernel_rfl)) rfl ⟨?_, below_two HB.out (Nat.le_refl _)⟩
  rw [HX.out, HK.out]; rfl

end Go.Proofs.YtdacbajiapdiiabDoor

namespace Go.Proofs.YtdacbajiapdiiabDoor
open Go.RowKit

set_option maxHeartbeats 1000000 in
theorem pairs_any (v : Value) (l : List Pr) (w : World) (hm : l.length ≤ 4398046510976) (hr : PrR w v l) :
    Calls Tryd.prog 10 #[v] w fun e w' => ∃ u, e = .returned u ∧ PrO w' w.heap.size u (l ++ marks 64) ∧ Below w.heap.size w w' := by
  obtain ⟨a, cap, rfl, hcap, _, hc⟩ := hr
  have HC := hide hc
  obtain ⟨n, hn⟩ : ∃ n, n = l.length := ⟨_, rfl⟩
  rw [← hn] at hm ⊢
  have HN := hide hn
  clear hc hn hcap
  go_enter Tryd.func10, Tryd.ntmps10
  go_wp2
  go_loopw [3, 4] (fun u i wr => ∃ k : Nat, k ≤ n ∧ i = .int .i64 k ∧ PrO wr w.heap.size u (l.take k) ∧ Below w.heap.size w wr) (fun _ i _ => n - (intOf i).toNat)
  case atStart => exact ⟨0, Nat.zero_le _, rfl, PrO.nil _ _, Below.refl _ _⟩
  case round =>
    obtain ⟨k, hk, rfl, hown, hbw⟩ := hrel
    have htk : (l.take k).length = k := by rw [List.length_take]; have := HN.out; omega
    by_cases hlt : k < n
    · have hkl : k < l.length := by have := HN.out; omega
      obtain ⟨g, o, rfl, f1, f2⟩ := HC.out k hkl
      have HS := hide (List.take_succ_eq_append_getElem hkl)
      have c1 : wr.cell? ⟨g, o + k * 2, none⟩ = some (.string l[k].1) := (hbw.cell (p := ⟨g, o + k * 2, none⟩) (World.block_lt_of_cell? w _ f1)).trans f1
      have c2 : wr.cell? ⟨g, o + k * 2 + 1, none⟩ = some (.string l[k].2) := (hbw.cell (p := ⟨g, o + k * 2 + 1, none⟩) (World.block_lt_of_cell? w _ f2)).trans f2
      obtain ⟨p, hp⟩ : ∃ p, p = l[k] := ⟨_, rfl⟩
      rw [← hp] at c1 c2 HS
      obtain ⟨a1, cp1, w1, hrun, hown1, hb1, _⟩ := push_prs w.heap.size _ _ p 45 wr w w.heap.size k htk hown (by omega) hbw.size (Nat.le_refl _) hbw
      rw [← HS.out] at hown1
      obtain ⟨ua, uc, hu⟩ := hown.form
      rw [htk] at hu
      subst hu
      have HO := hide hown1
      have HB := hide hb1
      have hltI : (k : Int) < (n : Int) := by omega
      clear hp HC f1 f2 hbw hown hown1 hb1 HS
      go_wp2_with (first | (at_builtin; refine wpList_append_run 24 rfl (.tmp 12) (.tmp 17) rfl rfl _ _ rfl rfl _ _ hrun ?_))
      clear hrun
      go_wp2
      go_roundw
      case rel => exact ⟨k + 1, by omega, by go_num, HO.out, HB.out⟩
      case measure => simp [intOf]; omega
    · have hkn : k = n := by omega
      subst hkn
      have hall : l.take k = l := by rw [List.take_of_length_le]; have := HN.out; omega
      rw [hall] at hown
      obtain ⟨ua, uc, hu⟩ := hown.form
      rw [← HN.out] at hu
      subst hu
      have HO := hide hown
      have HB := hide hbw
      have hltI : ¬ (k : Int) < (k : Int) := by omega
      clear hown hbw HC hall htk hlt hk
      go_wp2
      go_loopw [3, 5] (fun u i wr => ∃ j : Nat, j ≤ 64 ∧ i = .int .i64 j ∧ PrO wr w.heap.size u (l ++ marks j) ∧ Below w.heap.size w wr) (fun _ i _ => 64 - (intOf i).toNat)
      case atStart => exact ⟨0, Nat.zero_le _, rfl, by simpa [marks] using HO.out, HB.out⟩
      case round =>
        obtain ⟨j, hj, rfl, hown, hbw⟩ := hrel
        clear HO HB
        have hlen : (l ++ marks j).length = k + j := by rw [List.length_append, marks_len, ← HN.out]
        obtain ⟨ua2, uc2, hu⟩ := hown.form
        rw [hlen] at hu
        subst hu
        by_cases hlt : j < 64
        · have HM := hide (mark_any j)
          have HO := hide hown
          have HB := hide hbw
          have hltI : (j : Int) < 64 := by omega
          clear hown hbw
          go_wp2_with fail
          refine (HM.out _ (by omega)).mono ?_
          rintro e w1 ⟨rfl, hb1⟩
          obtain ⟨a1, cp1, w2, hrun, hown1, hb2, _⟩ := push_prs w.heap.size _ _ (markN j) 45 w1 w w.heap.size (k + j) hlen (HO.out.below hb1) (by omega) (by have := HB.out.size; have := hb1.size; omega) (Nat.le_refl _) (Below.next HB.out hb1)
          rw [List.append_assoc, ← marks_succ] at hown1
          have HO1 := hide hown1
          have HB2 := hide hb2
          clear hown1 hb2 hb1 HO HB HM
          obtain ⟨m1, hm1⟩ : ∃ m1, m1 = (markN j).1 := ⟨_, rfl⟩
          obtain ⟨m2, hm2⟩ : ∃ m2, m2 = (markN j).2 := ⟨_, rfl⟩
          rw [← hm1, ← hm2] at hrun ⊢
          clear hm1 hm2 hlen
          go_wp2_with (first | (at_builtin; refine wpList_append_run 24 rfl (.tmp 23) (.tmp 26) rfl rfl _ _ rfl rfl _ _ hrun ?_))
          clear hrun
          go_wp2
          go_roundw
          case rel => exact ⟨j + 1, by omega, by go_num, HO1.out, HB2.out⟩
          case measure => simp [intOf]; omega
        · have hj64 : j = 64 := by omega
          subst hj64
          have HO := hide hown
          have HB := hide hbw
          clear hown hbw
          go_wp2
          go_ret
          exact ⟨_, rfl, HO.out, HB.out⟩

end Go.Proofs.YtdacbajiapdiiabDoor
