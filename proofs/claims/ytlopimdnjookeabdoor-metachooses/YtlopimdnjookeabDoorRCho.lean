import Derived.Test.YtlopimdnjookeabDoorMDecodes
import Derived.Test.YtlopimdnjookeabDoorMtChoose
namespace Go.Proofs.YtlopimdnjookeabDoor
open Go.RowKit

def rchoV (la lb : List UInt8) (pages : Int) : Array Value :=
  if ¬ PagesOk pages then #[zMt, .int .i64 1]
  else if okM la pages 0 ∧ (¬ okM lb pages 1 ∨ (parseM lb).txid < (parseM la).txid) then #[.agg (parseM la).cells.toArray, .int .i64 0]
  else if okM lb pages 1 then #[.agg (parseM lb).cells.toArray, .int .i64 0] else #[zMt, .int .i64 9]

/-- What the document's Decode answers, by cells. -/
theorem rdecV_cells (l : List UInt8) (pages slot : Int) (hp : PagesOk pages) (hs : 0 ≤ slot ∧ slot < 2) : ∃ (P R : Int) (T : Nat) (n : Int), rdecV l pages slot = #[.agg #[.int .i64 P, .int .i64 R, .int .u64 (T : Int)], .int .i64 n] ∧ ((okM l pages slot ∧ n = 0 ∧ (parseM l).cells.toArray = #[.int .i64 P, .int .i64 R, .int .u64 (T : Int)] ∧ (parseM l).txid = T) ∨ (¬ okM l pages slot ∧ n = 2)) := by
  unfold rdecV
  rw [if_neg (by rintro (h | h); exact h hp; exact h hs)]
  by_cases h : okM l pages slot
  · rw [if_pos h]
    exact ⟨(parseM l).pages, (parseM l).root, (parseM l).txid, 0, rfl, .inl ⟨h, rfl, rfl, rfl⟩⟩
  · rw [if_neg h]
    exact ⟨0, 0, 0, 2, rfl, .inr ⟨h, rfl⟩⟩

set_option maxRecDepth 100000 in
set_option maxHeartbeats 8000000 in
theorem rchoose_any (va vb : Value) (la lb : List UInt8) (pages : Int) (w : World) (ha : RdA w va la) (hb : RdA w vb lb) (hma : la.length ≤ 140737488355328) (hmb : lb.length ≤ 140737488355328) :
    Calls Tryd.prog 11 #[va, vb, .int .i64 pages] w fun e w' => e = .returned (.tuple (rchoV la lb pages)) ∧ Below w.heap.size w w' := by
  have HZ0 : Hid ((w.alloc (.cells #[.int .i64 0, .int .i64 0, .int .u64 0] 28)).heap[w.heap.size]? = some (.cells #[.int .i64 0, .int .i64 0, .int .u64 0] 28 (0, 0))) := heap_alloc_new w _
  have hb0 := below_new w (.cells #[.int .i64 0, .int .i64 0, .int .u64 0] 28)
  have HB0 := hide hb0
  have HLT : Hid (w.heap.size < (w.alloc (.cells #[.int .i64 0, .int .i64 0, .int .u64 0] 28)).heap.size) := by show _ < _; simp
  have HVA := hide (ha.below hb0)
  have HVB := hide (hb.below hb0)
  obtain ⟨a1, c1, rfl⟩ := ha.slice
  obtain ⟨a2, c2, rfl⟩ := hb.slice
  by_cases hp : PagesOk pages
  · obtain ⟨P1, R1, T1, n1, hr1, ho1⟩ := rdecV_cells la pages 0 hp (by decide)
    obtain ⟨P2, R2, T2, n2, hr2, ho2⟩ := rdecV_cells lb pages 1 hp (by decide)
    have HRA : Hid (∀ w, RdA w (.slice a1 la.length c1) la → Calls Tryd.prog 7 #[.slice a1 la.length c1, .int .i64 pages, .int .i64 0] w fun e w' => e = .returned (.tuple #[.agg #[.int .i64 P1, .int .i64 R1, .int .u64 (T1 : Int)], .int .i64 n1]) ∧ Below w.heap.size w w') := fun w h1 => by rw [← hr1]; exact rdecode_any _ la pages 0 w h1 hma
    have HRB : Hid (∀ w, RdA w (.slice a2 lb.length c2) lb → Calls Tryd.prog 7 #[.slice a2 lb.length c2, .int .i64 pages, .int .i64 1] w fun e w' => e = .returned (.tuple #[.agg #[.int .i64 P2, .int .i64 R2, .int .u64 (T2 : Int)], .int .i64 n2]) ∧ Below w.heap.size w w') := fun w h1 => by rw [← hr2]; exact rdecode_any _ lb pages 1 w h1 hmb
    have hcv : rchoV la lb pages = if n1 = 0 ∧ (¬ n2 = 0 ∨ T2 < T1) then #[.agg #[.int .i64 P1, .int .i64 R1, .int .u64 (T1 : Int)], .int .i64 0] else if n2 = 0 then #[.agg #[.int .i64 P2, .int .i64 R2, .int .u64 (T2 : Int)], .int .i64 0] else #[zMt, .int .i64 9] := by
      unfold rchoV
      rw [if_neg (by simpa using hp)]
      rcases ho1 with ⟨h1, rfl, e1, t1⟩ | ⟨h1, rfl⟩
      · rcases ho2 with ⟨h2, rfl, e2, t2⟩ | ⟨h2, rfl⟩
        · simp [h1, h2, e1, e2, t1, t2]
        · simp [h1, h2, e1]
      · rcases ho2 with ⟨h2, rfl, e2, t2⟩ | ⟨h2, rfl⟩
        · simp [h1, h2, e2]
        · simp [h1, h2]
    have hn1 : n1 = 0 ∨ n1 = 2 := by rcases ho1 with ⟨_, h, _⟩ | ⟨_, h⟩; exact .inl h; exact .inr h
    have hn2 : n2 = 0 ∨ n2 = 2 := by rcases ho2 with ⟨_, h, _⟩ | ⟨_, h⟩; exact .inl h; exact .inr h
    have HCV := hide hcv
    have HN := hide (And.intro hn1 hn2)
    clear hp ha hb hma hmb hb0 hr1 hr2 ho1 ho2 hcv hn1 hn2
    go_enter Tryd.func11, Tryd.ntmps11
    go_wp2_with fail
    generalize w.alloc (.cells #[.int .i64 0, .int .i64 0, .int .u64 0] 28) = W0 at *
    refine (HRA.out _ HVA.out).mono ?_
    rintro e w1 ⟨rfl, hb1⟩
    have hbb1 := Below.next hb1 (below_new w1 (.cells #[.int .i64 P1, .int .i64 R1, .int .u64 (T1 : Int)] 28))
    have HX1 := hide (boxed_new w1 #[.int .i64 P1, .int .i64 R1, .int .u64 (T1 : Int)] 28)
    have HBB1 := hide hbb1
    clear hb1 hbb1
    go_wp2_with fail
    generalize w1.alloc (.cells #[.int .i64 P1, .int .i64 R1, .int .u64 (T1 : Int)] 28) = W1 at *
    generalize w1.heap.size = xb at *
    refine (HRB.out _ (HVB.out.below HBB1.out)).mono ?_
    rintro e w2 ⟨rfl, hb2⟩
    have hbb2 := Below.next hb2 (below_new w2 (.cells #[.int .i64 P2, .int .i64 R2, .int .u64 (T2 : Int)] 28))
    have hX2 := boxed_new w2 #[.int .i64 P2, .int .i64 R2, .int .u64 (T2 : Int)] 28
    have hX1 := HX1.out.below hbb2
    have hB2 := Below.next HBB1.out hbb2
    have x0 := hX1.2 0 (by simp)
    have x1 := hX1.2 1 (by simp)
    have x2 := hX1.2 2 (by simp)
    have y0 := hX2.2 0 (by simp)
    have y1 := hX2.2 1 (by simp)
    have y2 := hX2.2 2 (by simp)
    simp only [List.getElem_cons_zero, List.getElem_cons_succ] at x0 x1 x2 y0 y1 y2
    have hz2 := (hB2.block _ HLT.out).trans HZ0.out
    obtain ⟨z0, z1, z2, f0, f1, f2⟩ := zero_cells hz2
    have HZ2 := hide hz2
    have HB2 := hide (Below.next HB0.out hB2)
    clear hb2 hbb2 hX2 hX1 hB2 hz2 HX1 HBB1
    obtain ⟨h1, h2⟩ := HN.out
    rcases h1 with rfl | rfl
    · rcases h2 with rfl | rfl
      · by_cases ht : T2 < T1
        · have HC2 : Hid (rchoV la lb pages = #[.agg #[.int .i64 P1, .int .i64 R1, .int .u64 (T1 : Int)], .int .i64 0]) := by show _ = _; rw [HCV.out, if_pos ⟨rfl, .inr ht⟩]
          have hd : decide ((T2 : Int) < (T1 : Int)) = true := decide_eq_true (by omega)
          clear HCV HN
          go_wp2_with fail
          refine bodyPost_ret (results_row_tmp rfl _ _ w.heap.size 28 #[.int .i64 P1, .int .i64 R1, .int .u64 (T1 : Int)] (0, 0) _ rfl (set_three HZ2.out) Tryd.underlying28 rfl (by kernel_rfl)) rfl ⟨by rw [HC2.out]; rfl, below_three HB2.out (Nat.le_refl _)⟩
        · have HC2 : Hid (rchoV la lb pages = #[.agg #[.int .i64 P2, .int .i64 R2, .int .u64 (T2 : Int)], .int .i64 0]) := by show _ = _; rw [HCV.out, if_neg (fun h => h.2.elim (fun h => h rfl) ht), if_pos rfl]
          have hd : decide ((T2 : Int) < (T1 : Int)) = false := decide_eq_false (by omega)
          clear HCV HN
          go_wp2_with fail
          refine bodyPost_ret (results_row_tmp rfl _ _ w.heap.size 28 #[.int .i64 P2, .int .i64 R2, .int .u64 (T2 : Int)] (0, 0) _ rfl (set_three HZ2.out) Tryd.underlying28 rfl (by kernel_rfl)) rfl ⟨by rw [HC2.out]; rfl, below_three HB2.out (Nat.le_refl _)⟩
      · have HC2 : Hid (rchoV la lb pages = #[.agg #[.int .i64 P1, .int .i64 R1, .int .u64 (T1 : Int)], .int .i64 0]) := by show _ = _; rw [HCV.out, if_pos ⟨rfl, .inl (by decide)⟩]
        clear HCV HN
        go_wp2_with fail
        refine bodyPost_ret (results_row_tmp rfl _ _ w.heap.size 28 #[.int .i64 P1, .int .i64 R1, .int .u64 (T1 : Int)] (0, 0) _ rfl (set_three HZ2.out) Tryd.underlying28 rfl (by kernel_rfl)) rfl ⟨by rw [HC2.out]; rfl, below_three HB2.out (Nat.le_refl _)⟩
    · rcases h2 with rfl | rfl
      · have HC2 : Hid (rchoV la lb pages = #[.agg #[.int .i64 P2, .int .i64 R2, .int .u64 (T2 : Int)], .int .i64 0]) := by show _ = _; rw [HCV.out, if_neg (fun h => by cases h.1), if_pos rfl]
        clear HCV HN
        go_wp2_with fail
        refine bodyPost_ret (results_row_tmp rfl _ _ w.heap.size 28 #[.int .i64 P2, .int .i64 R2, .int .u64 (T2 : Int)] (0, 0) _ rfl (set_three HZ2.out) Tryd.underlying28 rfl (by kernel_rfl)) rfl ⟨by rw [HC2.out]; rfl, below_three HB2.out (Nat.le_refl _)⟩
      · have HC2 : Hid (rchoV la lb pages = #[zMt, .int .i64 9]) := by show _ = _; rw [HCV.out, if_neg (fun h => by cases h.1), if_neg (fun h => by cases h)]
        clear HCV HN
        go_wp2_with fail
        refine bodyPost_ret (results_row_tmp rfl _ _ w.heap.size 28 #[.int .i64 0, .int .i64 0, .int .u64 0] (0, 0) _ rfl (set_three HZ2.out) Tryd.underlying28 rfl (by kernel_rfl)) rfl ⟨by rw [HC2.out]; rfl, below_three HB2.out (Nat.le_refl _)⟩
  · have hra : rdecV la pages 0 = #[zMt, .int .i64 1] := by unfold rdecV; rw [if_pos (.inl hp)]
    have hrb : rdecV lb pages 1 = #[zMt, .int .i64 1] := by unfold rdecV; rw [if_pos (.inl hp)]
    have HRA : Hid (∀ w, RdA w (.slice a1 la.length c1) la → Calls Tryd.prog 7 #[.slice a1 la.length c1, .int .i64 pages, .int .i64 0] w fun e w' => e = .returned (.tuple #[zMt, .int .i64 1]) ∧ Below w.heap.size w w') := fun w h1 => by rw [← hra]; exact rdecode_any _ la pages 0 w h1 hma
    have HRB : Hid (∀ w, RdA w (.slice a2 lb.length c2) lb → Calls Tryd.prog 7 #[.slice a2 lb.length c2, .int .i64 pages, .int .i64 1] w fun e w' => e = .returned (.tuple #[zMt, .int .i64 1]) ∧ Below w.heap.size w w') := fun w h1 => by rw [← hrb]; exact rdecode_any _ lb pages 1 w h1 hmb
    have HC2 : Hid (rchoV la lb pages = #[zMt, .int .i64 1]) := by show _ = _; unfold rchoV; rw [if_pos hp]
    clear hp ha hb hma hmb hb0 hra hrb
    go_enter Tryd.func11, Tryd.ntmps11
    go_wp2_with fail
    generalize w.alloc (.cells #[.int .i64 0, .int .i64 0, .int .u64 0] 28) = W0 at *
    refine (HRA.out _ HVA.out).mono ?_
    rintro e w1 ⟨rfl, hb1⟩
    have HBB1 := hide (Below.next hb1 (below_new w1 (.cells #[.int .i64 0, .int .i64 0, .int .u64 0] 28)))
    clear hb1
    go_wp2_with fail
    generalize w1.alloc (.cells #[.int .i64 0, .int .i64 0, .int .u64 0] 28) = W1 at *
    refine (HRB.out _ (HVB.out.below HBB1.out)).mono ?_
    rintro e w2 ⟨rfl, hb2⟩
    have hB2 := Below.next HBB1.out (Below.next hb2 (below_new w2 (.cells #[.int .i64 0, .int .i64 0, .int .u64 0] 28)))
    have hz2 := (hB2.block _ HLT.out).trans HZ0.out
    obtain ⟨z0, z1, z2, f0, f1, f2⟩ := zero_cells hz2
    have HZ2 := hide hz2
    have HB2 := hide (Below.next HB0.out hB2)
    clear hb2 hB2 hz2
    go_wp2_with fail
    refine bodyPost_ret (results_row_tmp rfl _ _ w.heap.size 28 #[.int .i64 0, .int .i64 0, .int .u64 0] (0, 0) _ rfl (set_three HZ2.out) Tryd.underlying28 rfl (by kernel_rfl)) rfl ⟨by rw [HC2.out]; rfl, below_three HB2.out (Nat.le_refl _)⟩

end Go.Proofs.YtlopimdnjookeabDoor
