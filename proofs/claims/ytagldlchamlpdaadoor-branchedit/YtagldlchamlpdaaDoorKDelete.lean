import Derived.Test.YtagldlchamlpdaaDoorKInsert
import Derived.Lib.SlicesDelete
namespace Go.Proofs.YtagldlchamlpdaaDoor
open Go.RowKit Go.Lib

theorem setCells_row (g : Nat) (t : TypeId) : ∀ (vs : List Value) (o : Nat) (cur : Array Value) (w : World), w.heap[g]? = some (.cells cur t (0, 0)) → o + vs.length ≤ cur.size →
    w.setCells g o vs = w.setRow g (cur.toList.take o ++ vs ++ cur.toList.drop (o + vs.length)).toArray
  | [], o, cur, w, hg, _ => by
    simp only [World.setCells, List.append_nil, List.length_nil, Nat.add_zero, List.take_append_drop, Array.toArray_toList]
    rw [setRow_self w g cur t (0, 0) hg]
  | v :: r, o, cur, w, hg, hl => by
    have ho : o < cur.size := by simp at hl; omega
    rw [World.setCells, setCell_eq_setRow w g o cur t (0, 0) v hg, setCells_row g t r (o + 1) (cur.setIfInBounds o v) _ (setRow_heap w g cur _ t _ hg) (by simp at hl ⊢; omega), setRow_setRow]
    congr 1
    have e := list_seg_step cur.toList o v r (by simp at hl ⊢; omega)
    simpa [Array.toList_setIfInBounds, Nat.add_assoc] using e

set_option maxHeartbeats 4000000 in
set_option maxRecDepth 1000000 in
theorem kdel_own (g c : Nat) (l : List Lk) (i m : Nat) (w : World) (cur : Array Value) (hl : l.length = m + 1) (hi : i ≤ m) (hlc : l.length ≤ c) (hg : w.heap[g]? = some (.cells cur 35 (0, 0))) (hsz : cur.size = c * 2) (ht : cur.toList.take (l.length * 2) = lks l) :
    Calls Tryd.prog 42 #[.slice (some ⟨g, 0, none⟩) (m + 1) c, .int .i64 (i : Int), .int .i64 ((i : Int) + 1)] w fun e w' => e = .returned (.slice (some ⟨g, 0, none⟩) m c) ∧ ∃ cur' : Array Value, w' = w.drew.setRow g cur' ∧ cur'.size = c * 2 ∧ cur'.toList.take (m * 2) = lks (remL l i) := by
  obtain ⟨i0, hi0, hz0, hzs, hzb⟩ := info_parts infoK
  have hdl : (lks (l.drop (i + 1))).length = (m - i) * 2 := by rw [lks_length, List.length_drop, hl]; omega
  have l1 : (lks (l.take i)).length = i * 2 := by rw [lks_length, List.length_take]; omega
  obtain ⟨A, hA, hsrc⟩ : ∃ A : Addr, (if c = i + 1 then some (⟨g, 0, none⟩ : Addr) else some ⟨g, (i + 1) * 2, none⟩) = some A ∧ Hid (∀ t u, (lks (l.drop (i + 1)))[t]? = some u → w.drew.cell? (A.add t) = some u) := by
    by_cases h : c = i + 1
    · refine ⟨⟨g, 0, none⟩, by simp [h], fun t u hu => ?_⟩
      have h0 : (lks (l.drop (i + 1))).length = 0 := by rw [hdl]; omega
      rw [List.length_eq_zero_iff.1 h0] at hu
      simp at hu
    · refine ⟨⟨g, (i + 1) * 2, none⟩, by simp [h], fun t u hu => ?_⟩
      rw [add_plain']
      exact row_cells hg ht (i + 1) t u hu
  obtain ⟨C1, hC1⟩ : ∃ C : Array Value, C = (cur.toList.take (i * 2) ++ lks (l.drop (i + 1)) ++ cur.toList.drop (i * 2 + (lks (l.drop (i + 1))).length)).toArray := ⟨_, rfl⟩
  have hz1 : C1.size = c * 2 := by rw [hC1]; simp [hdl, hsz]; omega
  have hW1 : w.drew.setCells g (0 + i * 2) (lks (l.drop (i + 1))) = w.drew.setRow g C1 := by
    rw [Nat.zero_add, hC1]
    exact setCells_row g 35 _ _ cur w.drew hg (by rw [hdl, hsz]; omega)
  have hg1 : (w.drew.setRow g C1).heap[g]? = some (.cells C1 35 (0, 0)) := setRow_heap w.drew g cur C1 35 (0, 0) hg
  obtain ⟨C2, hC2⟩ : ∃ C : Array Value, C = (C1.toList.take (m * 2) ++ [Value.string ⟨#[]⟩, Value.int .i64 0] ++ C1.toList.drop (m * 2 + 2)).toArray := ⟨_, rfl⟩
  have hz2 : C2.size = c * 2 := by rw [hC2]; simp [hz1]; omega
  have hcl : ∀ ty cc, (Builtin.clear_ #[25] ty #[.slice (some ⟨g, m * 2, none⟩) 1 cc]).run Tryd.prog (w.drew.setRow g C1) = .ok (.tuple #[]) (w.drew.setRow g C2) := fun ty cc => by
    rw [run_clear_row2 (w.drew.setRow g C1) 25 35 ty _ _ Tryd.underlying25 Tryd.zeroValue35 rfl rfl g (m * 2) cc C1 35 hg1 (by omega), hC2, setRow_setRow]
  have hfin : C2.toList.take (m * 2) = lks (remL l i) := by
    have e1 : cur.toList.take (i * 2) = lks (l.take i) := by
      rw [lks_take, ← ht, List.take_take, Nat.min_eq_left (by omega)]
    rw [hC2, List.toList_toArray, List.append_assoc, List.take_append_of_le_length (by simp [hz1]; omega), List.take_take, Nat.min_self, hC1, List.toList_toArray, e1, remL, lks_append, List.take_append_of_le_length (by simp only [List.length_append, hdl, l1]; omega), List.take_of_length_le (by simp only [List.length_append, hdl, l1]; omega)]
  have s1 : Hid ((lks (l.drop (i + 1))).length = (m - i) * 2) := hdl
  have s2 : Hid (∀ u ∈ lks (l.drop (i + 1)), u.oneCell' = true) := lks_one _
  have s3 : Hid (∀ t, t < (lks (l.drop (i + 1))).length → (w.drew.cell? ⟨g, 0 + i * 2 + t, none⟩).isSome = true ∧ w.drew.frozen? ⟨g, 0 + i * 2 + t, none⟩ = false) := by
    intro t htl
    rw [hdl] at htl
    refine ⟨?_, by show World.frozen? w _ = false; simp [World.frozen?, hg]⟩
    show (World.cell? w _).isSome = true
    simp only [World.cell?, hg]
    rw [Array.getElem?_eq_getElem (by omega)]
    rfl
  have HW : Hid (w.drew.setCells g (0 + i * 2) (lks (l.drop (i + 1))) = w.drew.setRow g C1) := hW1
  have HF := hide hfin
  have HZ := hide hz2
  have mixed : Tryd.prog.follows Departure.mixedOrders = true := by kernel_rfl
  have hq : ¬ ((i : Int) = (i : Int) + 1) := by omega
  have hq0 : (0 : Int) ≤ (i : Int) + 1 := by omega
  have hq1 : (i : Int) ≤ (i : Int) + 1 := by omega
  have hq2 : (i : Int) + 1 ≤ (m : Int) + 1 := by omega
  have hq3 : (m : Int) + 1 ≤ (c : Int) := by omega
  have htn : ((i : Int) + 1).toNat = i + 1 := by omega
  have hic : i ≤ c := by omega
  have hicI : (i : Int) ≤ (c : Int) := by omega
  have him : (i : Int) ≤ (m : Int) := by omega
  have hsum : i + (m - i) = m := by omega
  have hmc : ¬ c = m := by omega
  rw [hl] at hlc
  clear hC1 hC2 hfin hz2 hz1 hg1 ht hsz hg hdl l1 hW1 hl hz0 hzb
  go_enter Tryd.func42, Tryd.ntmps42
  go_wp2_with fail
  go_region_law_o (refine step_append_room rfl (.tmp 22) (.tmp 25) 25 rfl 35 i0 2 Tryd.underlying25 hi0 hzs g 0 i c (by simp [Act.eval, Act.put]) A (m - i) (c - (i + 1)) (lks (l.drop (i + 1))) (by simp [Act.eval, Act.put]) s1.out hsrc.out s2.out (by omega) s3.out ?_; rw [HW.out, hsum])
  go_wp2_with (simp only [hcl])
  go_ret
  exact ⟨rfl, C2, rfl, HZ.out, HF.out⟩

theorem remL_len (l : List Lk) (i : Nat) (h : i < l.length) : (remL l i).length + 1 = l.length := by
  unfold remL; rw [List.length_append, List.length_take, List.length_drop]; omega

/-- slices.Delete of one link of a list of the call's own. -/
theorem kdelete_any (base : Nat) (v : Value) (l : List Lk) (i : Nat) (w : World) (hi : i < l.length) (ho : LkO w base v l) :
    Calls Tryd.prog 42 #[v, .int .i64 (i : Int), .int .i64 ((i : Int) + 1)] w fun e w' => ∃ u, e = .returned u ∧ LkO w' base u (remL l i) ∧ Below base w w' := by
  have hrl := remL_len l i hi
  rcases ho.2 with ⟨_, h0⟩ | ⟨g, c, cur, rfl, hb, hg, hnc, hcm, hcs, htk⟩
  · omega
  · have h := kdel_own g c l i (remL l i).length w cur (by omega) (by omega) hnc hg hcs htk
    rw [hrl] at h
    refine h.mono ?_
    rintro e w' ⟨rfl, cur', rfl, h2, h3⟩
    exact ⟨_, rfl, LkO.row (l := remL l i) hb (setRow_heap w.drew g cur cur' 35 (0, 0) hg) (by omega) hcm h2 h3, below_setRow (below_drewB (Below.refl _ _)) hb cur'⟩

end Go.Proofs.YtagldlchamlpdaaDoor
