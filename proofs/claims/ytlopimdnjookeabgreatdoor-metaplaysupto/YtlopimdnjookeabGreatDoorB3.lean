import Derived.Test.YtlopimdnjookeabGreatDoorMtRead
import Derived.BigRegion
namespace Go.Proofs.YtlopimdnjookeabGreatDoor
open Go.RowKit

theorem read_any (v : Value) (l : List UInt8) (pages slot : Int) (w : World) (hv : RdA w v l) (hm : l.length ≤ 140737488355328) (hT : Tab w) :
    Calls Tryz.prog 64 #[v, .int .i64 pages, .int .i64 slot] w fun e w' => e = .returned (.tuple (readV l pages slot)) ∧ Below w.heap.size w w' := by
  obtain ⟨a, cap, rfl, hc⟩ := hv
  by_cases hl : l.length = 512
  · obtain ⟨g, o, rfl, _⟩ := hc 0 (by omega)
    rw [hl]
    exact read_long g o cap l pages slot w hl hT (fun j hj => by obtain ⟨g', o', he, h⟩ := hc j hj; cases he; exact h)
  · have h := read_short a l.length cap pages slot w hl hm
    have e : readV l pages slot = #[.agg #[.int .i64 0, .int .i64 0, .int .u64 0], .bool false] := by
      unfold readV
      rw [if_neg (fun h => hl h.1)]
    rw [e]
    exact h
theorem RdA.below {w w' : World} {v : Value} {l : List UInt8} (h : RdA w v l) (hb : Below w.heap.size w w') : RdA w' v l := by
  obtain ⟨a, cap, hv, hc⟩ := h
  refine ⟨a, cap, hv, fun j hj => ?_⟩
  obtain ⟨g, o, ha, h⟩ := hc j hj
  exact ⟨g, o, ha, (hb.cell (World.block_lt_of_cell? w _ h)).trans h⟩
theorem RdA.slice {w : World} {v : Value} {l : List UInt8} (h : RdA w v l) : ∃ a cap, v = .slice a l.length cap := by
  obtain ⟨a, cap, hv, _⟩ := h
  exact ⟨a, cap, hv⟩

abbrev zMt : Value := .agg #[.int .i64 0, .int .i64 0, .int .u64 0]
def decV (a0 a1 : Addr) (l : List UInt8) (pages slot : Int) : Array Value :=
  if ¬ PagesOk pages ∨ ¬ (0 ≤ slot ∧ slot < 2) then #[zMt, .iface 153 (.pointer (some a0))]
  else if okM l pages slot then #[.agg (parseM l).cells.toArray, .nilIface] else #[zMt, .iface 153 (.pointer (some a1))]

end Go.Proofs.YtlopimdnjookeabGreatDoor

namespace Go.Proofs.YtlopimdnjookeabGreatDoor
open Go.RowKit

def choV (a0 ac : Addr) (la lb : List UInt8) (pages : Int) : Array Value :=
  if ¬ PagesOk pages then #[zMt, .iface 153 (.pointer (some a0))]
  else if okM la pages 0 ∧ (¬ okM lb pages 1 ∨ (parseM lb).txid < (parseM la).txid) then #[.agg (parseM la).cells.toArray, .nilIface]
  else if okM lb pages 1 then #[.agg (parseM lb).cells.toArray, .nilIface] else #[zMt, .iface 153 (.pointer (some ac))]

/-- What 'read' answers, by cells. -/
theorem readV_cells (l : List UInt8) (pages slot : Int) : ∃ (P R : Int) (T : Nat) (b : Bool), readV l pages slot = #[.agg #[.int .i64 P, .int .i64 R, .int .u64 (T : Int)], .bool b] ∧ b = decide (okM l pages slot) ∧ (okM l pages slot → (parseM l).cells.toArray = #[.int .i64 P, .int .i64 R, .int .u64 (T : Int)] ∧ (parseM l).txid = T) := by
  by_cases h : okM l pages slot
  · exact ⟨(parseM l).pages, (parseM l).root, (parseM l).txid, true, by unfold readV; rw [if_pos h]; rfl, by rw [decide_eq_true h], fun _ => ⟨rfl, rfl⟩⟩
  · exact ⟨0, 0, 0, false, by unfold readV; rw [if_neg h]; rfl, by rw [decide_eq_false h], fun h' => absurd h' h⟩

set_option maxRecDepth 100000 in
set_option maxHeartbeats 8000000 in
theorem choose_any (a0 ac : Addr) (va vb : Value) (la lb : List UInt8) (pages : Int) (w : World) (ha : RdA w va la) (hb : RdA w vb lb) (hma : la.length ≤ 140737488355328) (hmb : lb.length ≤ 140737488355328) (hT : Tab w)
    (hc0 : w.cell? ⟨1, 0, none⟩ = some (.iface 153 (.pointer (some a0)))) (hcc : w.cell? ⟨0, 0, none⟩ = some (.iface 153 (.pointer (some ac)))) :
    Calls Tryz.prog 39 #[va, vb, .int .i64 pages] w fun e w' => e = .returned (.tuple (choV a0 ac la lb pages)) ∧ Below w.heap.size w w' := by
  have HZ0 : Hid ((w.alloc (.cells #[.int .i64 0, .int .i64 0, .int .u64 0] 32)).heap[w.heap.size]? = some (.cells #[.int .i64 0, .int .i64 0, .int .u64 0] 32 (0, 0))) := heap_alloc_new w _
  have hb0 := below_new w (.cells #[.int .i64 0, .int .i64 0, .int .u64 0] 32)
  have HB0 := hide hb0
  have g0 : 1 < w.heap.size := World.block_lt_of_cell? w _ hc0
  have g1 : 0 < w.heap.size := World.block_lt_of_cell? w _ hcc
  have HG : Hid (1 < w.heap.size ∧ 0 < w.heap.size ∧ ¬ 1 = w.heap.size ∧ ¬ 0 = w.heap.size) := ⟨g0, g1, by omega, by omega⟩
  have HLT : Hid (w.heap.size < (w.alloc (.cells #[.int .i64 0, .int .i64 0, .int .u64 0] 32)).heap.size) := by show _ < _; simp
  have k0 := (hb0.cell (p := ⟨1, 0, none⟩) g0).trans hc0
  have HK1 := hide ((hb0.cell (p := ⟨0, 0, none⟩) g1).trans hcc)
  have HVA := hide (ha.below hb0)
  have HVB := hide (hb.below hb0)
  have HT := hide (hT.below hb0)
  have HPM : Hid (∀ w, Calls Tryz.prog 36 #[.int .i64 pages] w fun e w' => e = .returned (.bool (decide (PagesOk pages))) ∧ w = w') := fun w => pmay_any pages w
  obtain ⟨P1, R1, T1, b1, hr1, hb1, hp1⟩ := readV_cells la pages 0
  obtain ⟨P2, R2, T2, b2, hr2, hb2, hp2⟩ := readV_cells lb pages 1
  have HRA : Hid (∀ w, RdA w va la → Tab w → Calls Tryz.prog 64 #[va, .int .i64 pages, .int .i64 0] w fun e w' => e = .returned (.tuple #[.agg #[.int .i64 P1, .int .i64 R1, .int .u64 (T1 : Int)], .bool b1]) ∧ Below w.heap.size w w') := fun w h1 h2 => by rw [← hr1]; exact read_any va la pages 0 w h1 hma h2
  have HRB : Hid (∀ w, RdA w vb lb → Tab w → Calls Tryz.prog 64 #[vb, .int .i64 pages, .int .i64 1] w fun e w' => e = .returned (.tuple #[.agg #[.int .i64 P2, .int .i64 R2, .int .u64 (T2 : Int)], .bool b2]) ∧ Below w.heap.size w w') := fun w h1 h2 => by rw [← hr2]; exact read_any vb lb pages 1 w h1 hmb h2
  have HCV : Hid (PagesOk pages → choV a0 ac la lb pages = if b1 = true ∧ (b2 = false ∨ T2 < T1) then #[.agg #[.int .i64 P1, .int .i64 R1, .int .u64 (T1 : Int)], .nilIface] else if b2 = true then #[.agg #[.int .i64 P2, .int .i64 R2, .int .u64 (T2 : Int)], .nilIface] else #[zMt, .iface 153 (.pointer (some ac))]) := fun hp => by
    unfold choV
    rw [if_neg (by simpa using hp)]
    by_cases h1 : okM la pages 0
    · by_cases h2 : okM lb pages 1
      · simp [hb1, hb2, h1, h2, (hp1 h1).1, (hp2 h2).1, (hp1 h1).2, (hp2 h2).2]
      · simp [hb1, hb2, h1, h2, (hp1 h1).1]
    · by_cases h2 : okM lb pages 1
      · simp [hb1, hb2, h1, h2, (hp2 h2).1]
      · simp [hb1, hb2, h1, h2]
  have ng0 := HG.out.2.2.1
  have ng1 := HG.out.2.2.2
  obtain ⟨a1, c1, rfl⟩ := ha.slice
  obtain ⟨a2, c2, rfl⟩ := hb.slice
  clear ha hb hT hc0 hcc hb0 g0 g1 hma hmb hr1 hr2 hb1 hb2 hp1 hp2
  by_cases hp : PagesOk pages
  · rw [decide_eq_true hp] at HPM
    have HC := hide (HCV.out hp)
    clear hp HCV
    go_enter Tryz.func39, Tryz.ntmps39
    go_wp2_with fail
    generalize w.alloc (.cells #[.int .i64 0, .int .i64 0, .int .u64 0] 32) = W0 at *
    refine (HPM.out _).mono ?_
    rintro e w' ⟨rfl, rfl⟩
    go_wp2_with fail
    refine (HRA.out _ HVA.out HT.out).mono ?_
    rintro e w1 ⟨rfl, hb1⟩
    have hbb1 := Below.next hb1 (below_new w1 (.cells #[.int .i64 P1, .int .i64 R1, .int .u64 (T1 : Int)] 32))
    have HX1 := hide (boxed_new w1 #[.int .i64 P1, .int .i64 R1, .int .u64 (T1 : Int)] 32)
    have HBB1 := hide hbb1
    clear hb1 hbb1
    go_wp2_with fail
    generalize w1.alloc (.cells #[.int .i64 P1, .int .i64 R1, .int .u64 (T1 : Int)] 32) = W1 at *
    generalize w1.heap.size = xb at *
    refine (HRB.out _ (HVB.out.below HBB1.out) (HT.out.below HBB1.out)).mono ?_
    rintro e w2 ⟨rfl, hb2⟩
    have hbb2 := Below.next hb2 (below_new w2 (.cells #[.int .i64 P2, .int .i64 R2, .int .u64 (T2 : Int)] 32))
    have hX2 := boxed_new w2 #[.int .i64 P2, .int .i64 R2, .int .u64 (T2 : Int)] 32
    have hX1 := HX1.out.below hbb2
    have hB2 := Below.next HBB1.out hbb2
    have x0 := hX1.2 0 (by simp)
    have x1 := hX1.2 1 (by simp)
    have x2 := hX1.2 2 (by simp)
    have y0 := hX2.2 0 (by simp)
    have y1 := hX2.2 1 (by simp)
    have y2 := hX2.2 2 (by simp)
    simp only [List.getElem_cons_zero, List.getElem_cons_succ] at x0 x1 x2 y0 y1 y2
    have hz2 := (hB2.block _ HLT.out).trans HZ0.out
    obtain ⟨z0, z1, z2, f0, f1, f2⟩ := zero_cells hz2
    have HZ2 := hide hz2
    have HB2 := hide (Below.next HB0.out hB2)
    have kc := (hB2.cell (p := ⟨0, 0, none⟩) (Nat.lt_of_lt_of_le HG.out.2.1 HB0.out.size)).trans HK1.out
    clear hb2 hbb2 hX2 hX1 hB2 hz2 HX1 HBB1 k0
    cases b1 with
    | true =>
      cases b2 with
      | true =>
        by_cases ht : T2 < T1
        · have HC2 : Hid (choV a0 ac la lb pages = #[.agg #[.int .i64 P1, .int .i64 R1, .int .u64 (T1 : Int)], .nilIface]) := by show _ = _; rw [HC.out, if_pos ⟨rfl, .inr ht⟩]
          have hd : decide ((T2 : Int) < (T1 : Int)) = true := decide_eq_true (by omega)
          clear HC
          go_wp2_with fail
          refine bodyPost_ret (results_row_tmp rfl _ _ w.heap.size 32 #[.int .i64 P1, .int .i64 R1, .int .u64 (T1 : Int)] (0, 0) _ rfl (set_three HZ2.out) Tryz.underlying32 rfl (by kernel_rfl)) rfl ⟨by rw [HC2.out]; rfl, below_three HB2.out (Nat.le_refl _)⟩
        · have HC2 : Hid (choV a0 ac la lb pages = #[.agg #[.int .i64 P2, .int .i64 R2, .int .u64 (T2 : Int)], .nilIface]) := by show _ = _; rw [HC.out, if_neg (fun h => h.2.elim (fun h => by cases h) ht), if_pos rfl]
          have hd : decide ((T2 : Int) < (T1 : Int)) = false := decide_eq_false (by omega)
          clear HC
          go_wp2_with fail
          refine bodyPost_ret (results_row_tmp rfl _ _ w.heap.size 32 #[.int .i64 P2, .int .i64 R2, .int .u64 (T2 : Int)] (0, 0) _ rfl (set_three HZ2.out) Tryz.underlying32 rfl (by kernel_rfl)) rfl ⟨by rw [HC2.out]; rfl, below_three HB2.out (Nat.le_refl _)⟩
      | false =>
        have HC2 : Hid (choV a0 ac la lb pages = #[.agg #[.int .i64 P1, .int .i64 R1, .int .u64 (T1 : Int)], .nilIface]) := by show _ = _; rw [HC.out, if_pos ⟨rfl, .inl rfl⟩]
        clear HC
        go_wp2_with fail
        refine bodyPost_ret (results_row_tmp rfl _ _ w.heap.size 32 #[.int .i64 P1, .int .i64 R1, .int .u64 (T1 : Int)] (0, 0) _ rfl (set_three HZ2.out) Tryz.underlying32 rfl (by kernel_rfl)) rfl ⟨by rw [HC2.out]; rfl, below_three HB2.out (Nat.le_refl _)⟩
    | false =>
      cases b2 with
      | true =>
        have HC2 : Hid (choV a0 ac la lb pages = #[.agg #[.int .i64 P2, .int .i64 R2, .int .u64 (T2 : Int)], .nilIface]) := by show _ = _; rw [HC.out, if_neg (fun h => by cases h.1), if_pos rfl]
        clear HC
        go_wp2_with fail
        refine bodyPost_ret (results_row_tmp rfl _ _ w.heap.size 32 #[.int .i64 P2, .int .i64 R2, .int .u64 (T2 : Int)] (0, 0) _ rfl (set_three HZ2.out) Tryz.underlying32 rfl (by kernel_rfl)) rfl ⟨by rw [HC2.out]; rfl, below_three HB2.out (Nat.le_refl _)⟩
      | false =>
        have HC2 : Hid (choV a0 ac la lb pages = #[zMt, .iface 153 (.pointer (some ac))]) := by show _ = _; rw [HC.out, if_neg (fun h => by cases h.1), if_neg (fun h => by cases h)]
        clear HC
        go_wp2_with fail
        go_region
        all_goals
          go_wp2_with fail
          refine bodyPost_ret (results_row_tmp rfl _ _ w.heap.size 32 #[.int .i64 0, .int .i64 0, .int .u64 0] (0, 0) _ rfl (by first | exact set_three HZ2.out | exact drew_heap (set_three HZ2.out)) Tryz.underlying32 rfl (by kernel_rfl)) rfl ⟨by rw [HC2.out]; rfl, by first | exact below_three HB2.out (Nat.le_refl _) | exact (below_three HB2.out (Nat.le_refl _)).drew⟩
  · rw [decide_eq_false hp] at HPM
    have HDV : Hid (choV a0 ac la lb pages = #[zMt, .iface 153 (.pointer (some a0))]) := by
      show _ = _
      unfold choV
      rw [if_pos hp]
    rw [HDV.out]
    clear hp HDV HCV
    go_enter Tryz.func39, Tryz.ntmps39
    go_wp2_with fail
    generalize w.alloc (.cells #[.int .i64 0, .int .i64 0, .int .u64 0] 32) = W0 at *
    refine (HPM.out _).mono ?_
    rintro e w' ⟨rfl, rfl⟩
    obtain ⟨z0, z1, z2, y0, y1, y2⟩ := zero_cells HZ0.out
    go_wp2_with fail
    go_region
    all_goals
      go_wp2_with fail
      refine bodyPost_ret (results_row_tmp rfl _ _ w.heap.size 32 #[.int .i64 0, .int .i64 0, .int .u64 0] (0, 0) _ rfl (by first | exact set_three HZ0.out | exact drew_heap (set_three HZ0.out)) Tryz.underlying32 rfl (by kernel_rfl)) rfl ⟨rfl, by first | exact below_three HB0.out (Nat.le_refl _) | exact (below_three HB0.out (Nat.le_refl _)).drew⟩

end Go.Proofs.YtlopimdnjookeabGreatDoor

namespace Go.Proofs.YtlopimdnjookeabGreatDoor
open Go.RowKit

theorem rda_row {t : TypeId} {w : World} {g n : Nat} {l : List UInt8} (h : RowT t w g l) (hn : l.length = n) (cap : Nat) : RdA w (.slice (some ⟨g, 0, none⟩) n cap) l := by
  subst hn
  exact ⟨_, cap, rfl, fun j hj => ⟨g, 0, rfl, by rw [Nat.zero_add]; exact h.cell j hj⟩⟩
theorem made_u8 (n : Nat) : (madeCells #[Value.int .u8 0] n).toList = u8s (List.replicate n 0) := by
  rw [u8s, List.map_replicate]
  simp [madeCells, Nat.mod_one, List.map_const']
theorem rowT_of {w : World} {base g n : Nat} {l : List UInt8} (h : w.ownsRow base 5 1 (.slice (some ⟨g, 0, none⟩) n n) n (u8s l)) : RowT 5 w g l := by
  rcases h.2 with ⟨h', _⟩ | ⟨g', cap', cur, h', hb, hg, hn, hc, hs, ht⟩
  · cases h'
  · cases h'
    unfold RowT
    rw [hg, ← ht, List.take_of_length_le (by simpa using Nat.le_of_eq hs)]

end Go.Proofs.YtlopimdnjookeabGreatDoor
