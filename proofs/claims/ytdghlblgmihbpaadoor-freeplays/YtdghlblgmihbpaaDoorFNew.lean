import Derived.Test.YtdghlblgmihbpaaDoorFTake
import Derived.Laws.OwnMore
import Derived.Laws.CopyRow
import Derived.Laws.Tables
namespace Go.Proofs.YtdghlblgmihbpaaDoor
open Go.RowKit

theorem info68 : (Tryd.prog.info? 68).map (fun i => (i.zero, i.size, i.bytes)) = some (some (.int .u64 0), 1, 8) := by kernel_rfl
theorem size68 : (Tryd.prog.info? 68).map (·.size) = some 1 := by kernel_rfl
theorem wd_none : ∀ n, wd (fun _ => false) n = 0
  | 0 => rfl
  | n + 1 => by rw [wd, wd_none n]; rfl
theorem made_cells (n : Nat) : (madeCells (Value.int .u64 0).cells (n * 1)).toList = wcells (fun _ => false) n := by
  apply List.ext_getElem?
  intro i
  by_cases hi : i < n
  · rw [wcells_get _ _ _ hi]
    simp [madeCells, Value.cells, hi, word, wd_none, Nat.mod_one]
  · rw [List.getElem?_eq_none (by simp [madeCells]; omega), List.getElem?_eq_none (by rw [wcells_length]; omega)]
/-- make([]uint64, n). -/
theorem make_words (w : World) (n : Nat) (hn : n ≤ 16384) : ∃ w', (Instr.makeSlice 65 (.int .i64 (n : Int)) (.int .i64 (n : Int))).run Tryd.prog w = .ok (.slice (some ⟨w.heap.size, 0, none⟩) n n) w' ∧
    w'.ownsRow w.heap.size 68 1 (.slice (some ⟨w.heap.size, 0, none⟩) n n) n (wcells (fun _ => false) n) ∧ Below w.heap.size w w' ∧ w.heap.size < w'.heap.size := by
  obtain ⟨i0, hi, hz, hsz, hby⟩ := info_parts info68
  obtain ⟨w', hr, ho, hg⟩ := run_makeSlice_full (P := Tryd.prog) w w.heap.size 65 68 i0 _ 1 Tryd.underlying65 hi hz hsz   .i64 .i64 n (by omega) (by rw [hby]; omega) (by unfold maxLen; omega) (Nat.le_refl _)
  rw [made_cells] at ho
  exact ⟨w', hr, ho, (Below.refl _ _).grown hg (Nat.le_refl _) (fun j h => by cases h), (owns_blk ho _ rfl).2.1⟩
theorem wcells_one (T : Nat → Bool) (n : Nat) : ∀ u ∈ wcells T n, u.oneCell' = true := by
  intro u hu
  simp only [wcells, List.mem_map] at hu
  obtain ⟨c, _, rfl⟩ := hu
  rfl

set_option maxRecDepth 100000 in
set_option maxHeartbeats 400000 in
theorem copy_any (b g P : Nat) (T : Nat → Bool) (w : World) (h : MapR w b g P T) :
    Calls Tryd.prog 15 #[.pointer (some ⟨b, 0, none⟩)] w fun e w' => ∃ b' g', e = .returned (.pointer (some ⟨b', 0, none⟩)) ∧ w.heap.size ≤ b' ∧ w.heap.size ≤ g' ∧ MapR w' b' g' P T ∧ Below w.heap.size w w' := by
  have c1 := h.c1
  have hn := nW_le h.hi
  obtain ⟨w1, hmk, ho1, hb1, hs1⟩ := make_words w (nW P) hn
  have h1 := h.below hb1
  have d0 := h1.c0
  have d1 := h1.c1
  obtain ⟨cur, hcur⟩ := (owns_blk ho1 _ rfl).2.2
  have hcs : cur.size = nW P := by
    rcases ho1.2 with ⟨h', _⟩ | ⟨g', cap, cur', h', _, hg', _, _, hcs, _⟩
    · cases h'
    · cases h'
      rw [hcur] at hg'
      cases hg'
      omega
  have hcp := run_copy_row (P := Tryd.prog) w1 65 65 3 68 w.heap.size 0 (nW P) (nW P) ⟨g, 0, none⟩ (nW P) (nW P) cur 68 (wcells T (nW P)) Tryd.underlying65 size68 hcur (by rw [wcells_length]; exact (Nat.min_self _).symm)
    (fun j v hv => by
      by_cases hj : j < nW P
      · rw [wcells_get _ _ _ hj] at hv
        cases hv
        rw [add_plain', Nat.zero_add]
        exact h1.cw j hj
      · rw [List.getElem?_eq_none (by rw [wcells_length]; omega)] at hv; cases hv) (by rw [wcells_length]; omega) (wcells_one _ _)
  obtain ⟨w2, hw2⟩ : ∃ w2, w2 = w1.setRow w.heap.size (cur.toList.take 0 ++ wcells T (nW P) ++ cur.toList.drop (0 + (wcells T (nW P)).length)).toArray := ⟨_, rfl⟩
  rw [← hw2] at hcp
  rw [show goInt (wcells T (nW P)).length = goInt (nW P) by rw [wcells_length]] at hcp
  have hb2 : Below w.heap.size w w2 := by
    rw [hw2]
    exact ⟨hb1.os, hb1.tape, hb1.output, by rw [size_setRow]; exact hb1.size, fun k hk => by rw [setRow_other _ _ _ _ (by omega)]; exact hb1.block k hk⟩
  have hg2 : w2.heap[w.heap.size]? = some (.cells (cur.toList.take 0 ++ wcells T (nW P) ++ cur.toList.drop (0 + (wcells T (nW P)).length)).toArray 68 (0, 0)) := by
    rw [hw2]; exact setRow_heap _ _ _ _ _ _ hcur
  have ho2 : w2.ownsRow 0 68 1 (.slice (some ⟨w.heap.size, 0, none⟩) (nW P) (nW P)) (nW P) (wcells T (nW P)) := by
    refine ⟨by rw [wcells_length]; omega, .inr ⟨w.heap.size, nW P, _, rfl, Nat.zero_le _, hg2, Nat.le_refl _, by unfold maxLen; omega, ?_, ?_⟩⟩
    · simp [wcells_length]; omega
    · simp [wcells_length]
  have h2 := h.below hb2
  have e0 := h2.c0
  have e1 := h2.c1
  have HB2 := hide hb2
  have HO2 := hide ho2
  have HS := hide (lt_of_heap hg2)
  have hP := h.hi
  have HP := hide hP
  have HM : Hid (∀ n, n = nW P → MapR (w2.alloc (.cells #[.int .i64 P, .slice (some ⟨w.heap.size, 0, none⟩) n n] 67)) w2.heap.size w.heap.size P T) := fun n hn => by
    subst hn
    exact ⟨heap_alloc_new _ _, owns_below HO2.out (below_new _ _), HP.out⟩
  obtain ⟨n, hN⟩ : ∃ n, n = nW P := ⟨_, rfl⟩
  rw [← hN] at c1 hn hmk d1 e1 hcp
  have HMN := hide (HM.out n hN)
  have hgo : goInt n = .int .i64 (n : Int) := by simp [goInt]
  rw [hgo] at hcp
  clear hgo HM hN hP ho1 hb1 hs1 h1 hcur hcs hw2 hb2 hg2 ho2 h2 h
  go_enter Tryd.func15, Tryd.ntmps15
  go_wp2_with fail
  go_ret
  exact ⟨_, _, rfl, by have := HB2.out.size; omega, Nat.le_refl _, HMN.out, HB2.out.alloc HB2.out.size _⟩

end Go.Proofs.YtdghlblgmihbpaaDoor
