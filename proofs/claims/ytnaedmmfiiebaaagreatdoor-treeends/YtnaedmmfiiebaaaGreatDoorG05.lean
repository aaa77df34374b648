import Derived.Test.YtnaedmmfiiebaaaGreatDoorG04
import Derived.Test.YtnaedmmfiiebaaaGreatDoorG01
import Derived.Lib.SlicesDelete
namespace Go.Proofs.YtnaedmmfiiebaaaGreatDoor.C
open Go.RowKit Go.Lib

theorem lks_len (l : List Lk) : (lks l).length = l.length := by simp [lks]
theorem lks_tk (l : List Lk) (i : Nat) : lks (l.take i) = (lks l).take i := by simp [lks, List.map_take]
theorem lks_dr (l : List Lk) (i : Nat) : lks (l.drop i) = (lks l).drop i := by simp [lks, List.map_drop]

set_option maxHeartbeats 4000000 in
set_option maxRecDepth 100000 in
theorem kins_end (base : Nat) (v : Value) (l : List Lk) (vb : Nat) (p : Lk) (w : World) (hm : l.length ≤ 5864062014800) (ho : LkO w base v l) (hbase : base ≤ w.heap.size) (hv : LkR w (.slice (some ⟨vb, 0, none⟩) 1 1) [p]) :
    Calls Tryz.prog 204 #[v, .int .i64 (l.length : Int), .slice (some ⟨vb, 0, none⟩) 1 1] w fun e w' => ∃ u, e = .returned u ∧ LkO w' base u (l ++ [p]) ∧ Below base w w' := by
  obtain ⟨a', c', w1, hrun, hown, hg⟩ := append_lks base v _ l [p] w ho hv (by simp; omega) hbase
  have hb1 : Below base w w1 := (Below.refl base w).grown hg hbase (fun k hk => (ho.blk k hk).1)
  have HO := hide hown
  have HB := hide hb1
  have hcap : ∃ a c, v = .slice a l.length c ∧ l.length ≤ c := by
    obtain ⟨a, c, rfl, hle, _⟩ := ho.at
    exact ⟨a, c, by rw [lks_len], by rw [lks_len] at hle; exact hle⟩
  obtain ⟨a, c, rfl, hle⟩ := hcap
  rw [show ([p] : List Lk).length = 1 from rfl] at hrun
  obtain ⟨n, hn⟩ : ∃ n, n = l.length := ⟨_, rfl⟩
  rw [← hn] at hrun hle hm ⊢
  have HN := hide hn
  clear hown hg hb1 ho hv hn
  by_cases hcn : c = n
  · go_enter Tryz.func204, Tryz.ntmps204
    go_wp2_with (first | (at_builtin; refine wpList_append_run 153 rfl (.tmp 23) (.tmp 24) rfl rfl _ _ rfl rfl _ _ hrun ?_))
    clear hrun
    go_ret
    exact ⟨_, rfl, by have := HO.out; rwa [show l.length + [p].length = n + 1 by rw [HN.out]; rfl] at this, HB.out⟩
  · go_enter Tryz.func204, Tryz.ntmps204
    go_wp2_with (first | (at_builtin; refine wpList_append_run 153 rfl (.tmp 23) (.tmp 24) rfl rfl _ _ rfl rfl _ _ hrun ?_))
    clear hrun
    go_ret
    exact ⟨_, rfl, by have := HO.out; rwa [show l.length + [p].length = n + 1 by rw [HN.out]; rfl] at this, HB.out⟩

/-- What a row of links' cells holds. -/
theorem row_cells {w : World} {g : Nat} {cur : Array Value} {t : TypeId} {l : List Lk} (hg : w.heap[g]? = some (.cells cur t (0, 0))) (ht : cur.toList.take (l.length) = lks l) (i : Nat) :
    ∀ j u, (lks (l.drop i))[j]? = some u → w.cell? ⟨g, i + j, none⟩ = some u := by
  intro j u h
  rw [lks_dr, ← ht, List.getElem?_drop, List.getElem?_take] at h
  split at h
  · rw [Array.getElem?_toList] at h
    simp [World.cell?, hg, h]
  · cases h
theorem overs (w : World) (g vb i n1 c1 : Nat) (cur vs : Array Value) (tA tB : TypeId) (hne : vb ≠ g) (hg : w.heap[g]? = some (.cells cur tA (0, 0))) (hv : w.heap[vb]? = some (.cells vs tB (0, 0))) (h0 : cur.size ≠ 0) :
    (callFunc 232 #[.slice (some ⟨vb, 0, none⟩) 1 1, .slice (some ⟨g, i, none⟩) n1 c1]).run Tryz.prog w = .ok (.value (.bool false)) w := by
  rw [run_callFunc_extern Tryz.func232 (by kernel_rfl) (by kernel_rfl) (by kernel_rfl) (e := Extern.SlicesOverlaps.overlaps #[153, 153] #[4]) (by kernel_rfl),
    Lib.run_overlaps_apart w 153 4 97 Tryz.underlying153 1 Tryz.sizeOf97 ⟨vb, 0, none⟩ ⟨g, i, none⟩ 1 1 n1 c1 hne tB tA vs.size cur.size (by simp [World.shape?, hv]) (by simp [World.shape?, hg]) h0 (by simp [World.frozen?, hv]) (by simp [World.frozen?, hv])]
  rfl

set_option maxHeartbeats 4000000 in
set_option maxRecDepth 100000 in
theorem kins_room (g c : Nat) (l : List Lk) (i vb : Nat) (p : Lk) (w : World) (cur : Array Value) (hi : i < l.length) (hc63 : c ≤ 9223372036854775807) (hroom : l.length + 1 ≤ c) (hg : w.heap[g]? = some (.cells cur 97 (0, 0))) (hsz : cur.size = c) (ht : cur.toList.take (l.length) = lks l)
    (hv : w.heap[vb]? = some (.cells #[p.val] 97 (0, 0))) (hne : vb ≠ g) :
    Calls Tryz.prog 204 #[.slice (some ⟨g, 0, none⟩) l.length c, .int .i64 (i : Int), .slice (some ⟨vb, 0, none⟩) 1 1] w fun e w' => e = .returned (.slice (some ⟨g, 0, none⟩) (l.length + 1) c) ∧ ∃ cur' : Array Value, w' = w.drew.setRow g cur' ∧ cur'.size = c ∧ cur'.toList.take ((l.length + 1)) = lks (insL l i p) := by
  obtain ⟨n, hn⟩ : ∃ n, n = l.length := ⟨_, rfl⟩
  have hov := fun j n1 c1 => overs w g vb j n1 c1 cur _ _ _ hne hg hv (by omega)
  have hs2 : (Tryz.prog.info? 97).map (·.size) = some 1 := by kernel_rfl
  have hdl : (lks (l.drop i)).length = (n - i) := by rw [lks_len, List.length_drop, hn]
  obtain ⟨C1, hC1⟩ : ∃ C : Array Value, C = (cur.toList.take ((i + 1)) ++ lks (l.drop i) ++ cur.toList.drop ((i + 1) + (lks (l.drop i)).length)).toArray := ⟨_, rfl⟩
  have hz1 : C1.size = c := by rw [hC1]; simp [hdl, hsz]; omega
  obtain ⟨C2, hC2⟩ : ∃ C : Array Value, C = (C1.toList.take (i) ++ lks [p] ++ C1.toList.drop (i + (lks [p]).length)).toArray := ⟨_, rfl⟩
  have hz2 : C2.size = c := by rw [hC2]; simp [lks, hz1]; omega
  have hfin : C2.toList.take ((n + 1)) = lks (insL l i p) := by
    have e1 : cur.toList.take (i) = lks (l.take i) := by
      rw [lks_tk, ← ht, List.take_take, Nat.min_eq_left (by omega)]
    have l1 : (lks (l.take i)).length = i := by rw [lks_len, List.length_take]; omega
    have e2 : C1.toList.take (i) = lks (l.take i) := by
      rw [hC1, List.toList_toArray, List.append_assoc, List.take_append_of_le_length (by simp [hsz]; omega), List.take_take, Nat.min_eq_left (by omega), e1]
    have e3 : C1.toList.drop (i + (lks [p]).length) = lks (l.drop i) ++ cur.toList.drop ((i + 1) + (lks (l.drop i)).length) := by
      rw [hC1, List.toList_toArray, List.append_assoc, List.drop_append_of_le_length (by simp [hsz, lks]; omega), List.drop_eq_nil_of_le (by simp [hsz, lks]; omega)]
      rfl
    rw [hC2, List.toList_toArray, e2, e3, insL, lks_append, show p :: l.drop i = [p] ++ l.drop i from rfl, lks_append, ← List.append_assoc, ← List.append_assoc, List.take_append_of_le_length (by simp only [List.length_append, hdl, l1, lks_len, List.length_singleton]; omega), List.take_of_length_le (by simp only [List.length_append, hdl, l1, lks_len, List.length_singleton]; omega)]
  have hcp1 : ∀ ty dc sc, (Builtin.copy_ #[153, 153] ty #[.slice (some ⟨g, (i + 1), none⟩) (n - i) dc, .slice (some ⟨g, i, none⟩) (n + 1 - i) sc]).run Tryz.prog w.drew = .ok (goInt (Nat.min (n + 1 - i) (n - i))) (w.drew.setRow g C1) := fun ty dc sc => by
    rw [hC1]
    exact run_copy_row2 w.drew 153 153 ty 97 g ((i + 1)) (n - i) dc ⟨g, i, none⟩ (n + 1 - i) sc cur 97 (lks (l.drop i)) Tryz.underlying153 hs2 hg (by rw [hdl]; simp only [Nat.min_def]; split <;> omega) (fun j u hj => by rw [add_plain']; exact row_cells hg ht i j u hj) (by rw [hdl, hsz]; omega) (lks_one _)
  have hg1 : (w.drew.setRow g C1).heap[g]? = some (.cells C1 97 (0, 0)) := setRow_heap w.drew g cur C1 97 (0, 0) hg
  have hv1 : (w.drew.setRow g C1).heap[vb]? = some (.cells #[p.val] 97 (0, 0)) := (setRow_other w.drew g vb C1 hne).trans hv
  have hcp2 : ∀ ty dc, (Builtin.copy_ #[153, 153] ty #[.slice (some ⟨g, i, none⟩) (n + 1 - i) dc, .slice (some ⟨vb, 0, none⟩) 1 1]).run Tryz.prog (w.drew.setRow g C1) = .ok (goInt (Nat.min 1 (n + 1 - i))) (w.drew.setRow g C2) := fun ty dc => by
    have h := run_copy_row2 (w.drew.setRow g C1) 153 153 ty 97 g (i) (n + 1 - i) dc ⟨vb, 0, none⟩ 1 1 C1 97 (lks [p]) Tryz.underlying153 hs2 hg1 (by simp only [lks_len, List.length_singleton, Nat.min_def]; split <;> omega) (fun j u hj => by
      rw [add_plain']
      have hj' : (#[p.val] : Array Value)[j]? = some u := by simpa [lks] using hj
      simp [World.cell?, hv1, hj']) (by simp [lks, hz1]; omega) (lks_one _)
    rw [h, hC2, setRow_setRow]
  have HF := hide hfin
  have HZ := hide hz2
  have mixed : Tryz.prog.follows Departure.mixedOrders = true := by kernel_rfl
  have hz1 : ¬ ((i : Int) = (n : Int)) := by omega
  have hw1 : IntKind.i64.wrap ((i : Int) + 1) = (i : Int) + 1 := by rw [IntKind.wrap_i64]; omega
  have hw2 : IntKind.i64.wrap ((n : Int) + 1) = (n : Int) + 1 := by rw [IntKind.wrap_i64]; omega
  have htn : ((i : Int) + 1).toNat = i + 1 := by omega
  have htn2 : ((n : Int) + 1).toNat = n + 1 := by omega
  have hb1 : (0 : Int) ≤ (i : Int) + 1 := by omega
  have hb2 : ¬ (c = i + 1) := by omega
  have hb4 : ¬ (c = i) := by omega
  have hin : (i : Int) ≤ (n : Int) := by omega
  have hb3 : (i : Int) ≤ (n : Int) + 1 := by omega
  have hin2 : i ≤ n := by omega
  have hin3 : i + 1 ≤ n + 1 := by omega
  rw [← hn] at hroom ⊢
  clear hC1 hC2 hfin hz2 hdl hg1 hv1 ht hsz hg hv hn hi
  go_enter Tryz.func204, Tryz.ntmps204
  go_wp2_with (simp only [hov])
  go_region_law_o (refine step_copy_runI rfl _ _ 153 153 rfl _ _ (by simp [Act.eval, Act.put]) (by simp [Act.eval, Act.put]) (hcp1 _ _ _) ?_)
  go_wp2_with (at_builtin; refine wpList_copy_runI _ rfl _ _ 153 153 rfl _ _ rfl rfl (hcp2 _ _) ?_)
  go_ret
  exact ⟨rfl, C2, rfl, HZ.out, HF.out⟩

theorem zeros2 (k : Nat) : (Builtin.zeroCells (Value.nilIface).cells k).size = k := by
  have : (Value.nilIface).cells = #[.nilIface] := rfl
  simp [Builtin.zeroCells, this]

set_option maxHeartbeats 4000000 in
set_option maxRecDepth 100000 in
theorem kins_grow (g c : Nat) (l : List Lk) (i vb : Nat) (p : Lk) (w : World) (cur : Array Value) (hi : i < l.length) (hm : l.length ≤ 5864062014800) (hlc : l.length ≤ c) (hroom : c < l.length + 1) (hg : w.heap[g]? = some (.cells cur 97 (0, 0))) (ht : cur.toList.take (l.length) = lks l)
    (hv : w.heap[vb]? = some (.cells #[p.val] 97 (0, 0))) :
    Calls Tryz.prog 204 #[.slice (some ⟨g, 0, none⟩) l.length c, .int .i64 (i : Int), .slice (some ⟨vb, 0, none⟩) 1 1] w fun e w' => ∃ G : Nat, e = .returned (.slice (some ⟨w.heap.size, 0, none⟩) (l.length + 1) G) ∧ l.length + 1 ≤ G ∧ G ≤ maxLen ∧ ∃ cur' : Array Value, w'.heap[w.heap.size]? = some (.cells cur' 97 (0, 0)) ∧ Below w.heap.size w w' ∧ cur'.size = G ∧ cur'.toList.take ((l.length + 1)) = lks (insL l i p) := by
  obtain ⟨n, hn⟩ : ∃ n, n = l.length := ⟨_, rfl⟩
  obtain ⟨i0, hi0, hz0, hzs, hzb⟩ := info_parts infoK
  have hs2 : (Tryz.prog.info? 97).map (·.size) = some 1 := by rw [hi0]; simp [hzs]
  have hgw : g < w.heap.size := (Array.getElem?_eq_some_iff.1 hg).1
  have hvw : vb < w.heap.size := (Array.getElem?_eq_some_iff.1 hv).1
  have hdl : (lks (l.drop i)).length = (n - i) := by rw [lks_len, List.length_drop, hn]
  have l1 : (lks (l.take i)).length = i := by rw [lks_len, List.length_take]; omega
  have hkk : (n : Int) + 1 - (i : Int) = ((n + 1 - i : Nat) : Int) := by omega
  have hik : i + (n + 1 - i) = n + 1 := by omega
  have hold : (Builtin.firstCells i0.size i (.slice (some ⟨g, 0, none⟩) i c)).run Tryz.prog w.drew = .ok (lks (l.take i)).toArray w.drew := by
    rw [hzs]
    refine run_firstCells_some w.drew 1 i ⟨g, 0, none⟩ i c (lks (l.take i)) (by rw [Nat.mul_one]; exact l1) (fun j v hj => ?_)
    rw [add_plain', Nat.zero_add]
    rw [lks_tk, List.getElem?_take] at hj
    split at hj
    · have := row_cells hg ht 0 j v (by simpa using hj)
      simpa using this
    · cases hj
  obtain ⟨G, hG⟩ : ∃ G, G = grownCap w (n + 1) c 97 := ⟨_, rfl⟩
  obtain ⟨R, hR⟩ : ∃ R : Array Value, R = (lks (l.take i)).toArray ++ Builtin.zeroCells (Value.nilIface).cells (n + 1 - i) ++ Builtin.zeroCells (Value.nilIface).cells (G - (n + 1)) := ⟨_, rfl⟩
  have hrz : ∀ ty, (Builtin.append_ #[153, 3] ty #[.slice (some ⟨g, 0, none⟩) i c, .int .i64 ((n : Int) + 1 - (i : Int))]).run Tryz.prog w =
      .ok (.slice (some ⟨w.heap.size, 0, none⟩) (n + 1) G) (w.drew.alloc (.cells R 97)) := fun ty => by
    have h := Lib.run_append_grow_zeros w 153 3 ty 97 i0 _ .i64 .i64 Tryz.underlying153 Tryz.underlying3 hi0 hz0 (some ⟨g, 0, none⟩) i c (lks (l.take i)) hold (n + 1 - i) (by omega) (by omega) (by omega) (by omega) (by rw [hzb]; omega) (by rw [hzb, hik]; exact growslice_fits (by omega) (by omega))
    rw [hik] at h
    rw [hkk, hR, hG]
    exact h
  have hGn : n + 1 ≤ G := by rw [hG]; exact grownCap_ge w _ _ _
  have hGm : G ≤ maxLen := by rw [hG]; exact grownCap_le_maxLen w (n + 1) c 97 (by unfold maxLen; omega)
  have hRs : R.size = G := by
    rw [hR, Array.size_append, Array.size_append, zeros2, zeros2]; simp [l1]; omega
  obtain ⟨W1, hW1⟩ : ∃ W1, W1 = w.drew.alloc (.cells R 97) := ⟨_, rfl⟩
  have hN1 : W1.heap[w.heap.size]? = some (.cells R 97 (0, 0)) := by rw [hW1]; exact heap_alloc_new w.drew _
  have hB1 : Below w.heap.size w W1 := by rw [hW1]; exact (B.below_drewB (Below.refl _ _)).alloc (Nat.le_refl _) _
  have hg1 : W1.heap[g]? = some (.cells cur 97 (0, 0)) := (hB1.block g hgw).trans hg
  have hv1 : W1.heap[vb]? = some (.cells #[p.val] 97 (0, 0)) := (hB1.block vb hvw).trans hv
  rw [← hW1] at hrz
  obtain ⟨C1, hC1⟩ : ∃ C : Array Value, C = (R.toList.take (i) ++ lks [p] ++ R.toList.drop (i + (lks [p]).length)).toArray := ⟨_, rfl⟩
  have hz1 : C1.size = G := by rw [hC1]; simp [lks, hRs]; omega
  obtain ⟨C2, hC2⟩ : ∃ C : Array Value, C = (C1.toList.take ((i + 1)) ++ lks (l.drop i) ++ C1.toList.drop ((i + 1) + (lks (l.drop i)).length)).toArray := ⟨_, rfl⟩
  have hz2 : C2.size = G := by rw [hC2]; simp [hdl, hz1]; omega
  have hfin : C2.toList.take ((n + 1)) = lks (insL l i p) := by
    have e0 : R.toList.take (i) = lks (l.take i) := by
      rw [hR, Array.toList_append, Array.toList_append, List.toList_toArray, List.append_assoc, List.take_append_of_le_length (by omega), List.take_of_length_le (by omega)]
    have e1 : C1.toList.take ((i + 1)) = lks (l.take i) ++ lks [p] := by
      rw [hC1, List.toList_toArray, e0, List.take_append_of_le_length (by simp only [List.length_append, l1, lks_len, List.length_singleton]; omega), List.take_of_length_le (by simp only [List.length_append, l1, lks_len, List.length_singleton]; omega)]
    rw [hC2, List.toList_toArray, e1, insL, lks_append, show p :: l.drop i = [p] ++ l.drop i from rfl, lks_append, ← List.append_assoc, List.take_append_of_le_length (by simp only [List.length_append, hdl, l1, lks_len, List.length_singleton]; omega), List.take_of_length_le (by simp only [List.length_append, hdl, l1, lks_len, List.length_singleton]; omega)]
  have hne1 : vb ≠ w.heap.size := by omega
  have hne2 : g ≠ w.heap.size := by omega
  have hcpA : ∀ ty dc, (Builtin.copy_ #[153, 153] ty #[.slice (some ⟨w.heap.size, i, none⟩) (n + 1 - i) dc, .slice (some ⟨vb, 0, none⟩) 1 1]).run Tryz.prog W1 = .ok (goInt (Nat.min 1 (n + 1 - i))) (W1.setRow w.heap.size C1) := fun ty dc => by
    rw [hC1]
    exact run_copy_row2 W1 153 153 ty 97 w.heap.size (i) (n + 1 - i) dc ⟨vb, 0, none⟩ 1 1 R 97 (lks [p]) Tryz.underlying153 hs2 hN1 (by simp only [lks_len, List.length_singleton, Nat.min_def]; split <;> omega) (fun j u hj => by
      rw [add_plain']
      have hj' : (#[p.val] : Array Value)[j]? = some u := by simpa [lks] using hj
      simp [World.cell?, hv1, hj']) (by simp [lks, hRs]; omega) (lks_one _)
  have hN2 : (W1.setRow w.heap.size C1).drew.heap[w.heap.size]? = some (.cells C1 97 (0, 0)) := setRow_heap W1 w.heap.size R C1 97 (0, 0) hN1
  have hg2 : (W1.setRow w.heap.size C1).drew.heap[g]? = some (.cells cur 97 (0, 0)) := (setRow_other W1 w.heap.size g C1 hne2).trans hg1
  have hcpB : ∀ ty dc sc, (Builtin.copy_ #[153, 153] ty #[.slice (some ⟨w.heap.size, (i + 1), none⟩) (n - i) dc, .slice (some ⟨g, i, none⟩) (n - i) sc]).run Tryz.prog (W1.setRow w.heap.size C1).drew = .ok (goInt (Nat.min (n - i) (n - i))) ((W1.setRow w.heap.size C1).drew.setRow w.heap.size C2) := fun ty dc sc => by
    rw [hC2]
    exact run_copy_row2 (W1.setRow w.heap.size C1).drew 153 153 ty 97 w.heap.size ((i + 1)) (n - i) dc ⟨g, i, none⟩ (n - i) sc C1 97 (lks (l.drop i)) Tryz.underlying153 hs2 hN2 (by rw [hdl]; simp only [Nat.min_def]; split <;> omega) (fun j u hj => by rw [add_plain']; exact row_cells hg2 ht i j u hj) (by rw [hdl, hz1]; omega) (lks_one _)
  have hN3 : ((W1.setRow w.heap.size C1).drew.setRow w.heap.size C2).heap[w.heap.size]? = some (.cells C2 97 (0, 0)) := setRow_heap (W1.setRow w.heap.size C1).drew w.heap.size C1 C2 97 (0, 0) hN2
  have hB3 : Below w.heap.size w ((W1.setRow w.heap.size C1).drew.setRow w.heap.size C2) := below_setRow (B.below_drewB (below_setRow hB1 (Nat.le_refl _) C1)) (Nat.le_refl _) C2
  obtain ⟨s, hs⟩ : ∃ s, s = w.heap.size := ⟨_, rfl⟩
  rw [← hs] at hrz hcpA hcpB hN3 hB3 ⊢
  have HF := hide hfin
  have HZ := hide hz2
  have HN3 := hide hN3
  have HB3 := hide hB3
  have HG := hide hGm
  have mixed : Tryz.prog.follows Departure.mixedOrders = true := by kernel_rfl
  have hG63 : G ≤ 9223372036854775807 := by unfold maxLen at hGm; omega
  have hq1 : ¬ ((i : Int) = (n : Int)) := by omega
  have hw1 : IntKind.i64.wrap ((i : Int) + 1) = (i : Int) + 1 := by rw [IntKind.wrap_i64]; omega
  have hw2 : IntKind.i64.wrap ((n : Int) + 1) = (n : Int) + 1 := by rw [IntKind.wrap_i64]; omega
  have hw3 : IntKind.i64.wrap ((n : Int) + 1 - (i : Int)) = (n : Int) + 1 - (i : Int) := by rw [IntKind.wrap_i64]; omega
  have htn : ((i : Int) + 1).toNat = i + 1 := by omega
  have hb1 : (0 : Int) ≤ (i : Int) + 1 := by omega
  have hb3 : (i : Int) ≤ (n : Int) + 1 := by omega
  have hb2 : ¬ (G = i + 1) := by omega
  have hb5 : ¬ (G = i) := by omega
  have hb4 : ¬ (c = i) := by omega
  have hin : (i : Int) ≤ (n : Int) := by omega
  have hin2 : i ≤ n := by omega
  have hic : (i : Int) ≤ (c : Int) := by omega
  have hcr : (c : Int) < (n : Int) + 1 := by omega
  rw [← hn] at hroom ⊢
  clear hC1 hC2 hfin hz2 hz1 hdl hg1 hv1 hg2 hN1 hN2 hN3 hB1 hB3 ht hg hv hi l1 hkk hik hold hRs hR hG hgw hvw hi0 hz0 hzs hzb hs2 hn hGm hne1 hne2 hW1 hs
  go_enter Tryz.func204, Tryz.ntmps204
  go_wp2_with (first
    | (at_builtin; refine Lib.wpList_append_run _ rfl _ _ _ _ rfl _ _ rfl rfl _ _ (hrz _) ?_)
    | (at_builtin; refine wpList_copy_runI _ rfl _ _ 153 153 rfl _ _ rfl rfl (hcpA _ _) ?_))
  go_region_law_o (refine step_copy_runI rfl _ _ 153 153 rfl _ _ (by simp [Act.eval, Act.put]) (by simp [Act.eval, Act.put]) (hcpB _ _ _) ?_)
  go_wp2
  go_ret
  exact ⟨G, rfl, hGn, HG.out, C2, HN3.out, HB3.out, HZ.out, HF.out⟩

theorem LkO.row {w : World} {base g c : Nat} {l : List Lk} {cur : Array Value} (hb : base ≤ g) (hg : w.heap[g]? = some (.cells cur 97 (0, 0))) (hlc : l.length ≤ c) (hc : c ≤ maxLen) (hs : cur.size = c) (ht : cur.toList.take (l.length) = lks l) : LkO w base (.slice (some ⟨g, 0, none⟩) l.length c) l :=
  ⟨by rw [lks_len, Nat.mul_one], .inr ⟨g, c, cur, rfl, hb, hg, hlc, hc, by rw [hs, Nat.mul_one], by rw [Nat.mul_one]; exact ht⟩⟩
theorem insL_len (l : List Lk) (i : Nat) (p : Lk) (h : i ≤ l.length) : (insL l i p).length = l.length + 1 := by
  unfold insL; rw [List.length_append, List.length_cons, List.length_take, List.length_drop]; omega
theorem insL_end (l : List Lk) (p : Lk) : insL l l.length p = l ++ [p] := by simp [insL]

/-- slices.Insert of one link into a list of the call's own. -/
theorem kinsert_any (base : Nat) (v : Value) (l : List Lk) (i vb : Nat) (p : Lk) (w : World) (hm : l.length ≤ 5864062014800) (hi : i ≤ l.length) (ho : LkO w base v l) (hbase : base ≤ w.heap.size) (hv : B.RowAt w vb #[p.val] 97) (hne : v.ownBlock ≠ some vb) :
    Calls Tryz.prog 204 #[v, .int .i64 (i : Int), .slice (some ⟨vb, 0, none⟩) 1 1] w fun e w' => ∃ u, e = .returned u ∧ LkO w' base u (insL l i p) ∧ Below base w w' := by
  by_cases hin : i = l.length
  · subst hin
    rw [insL_end]
    refine kins_end base v l vb p w hm ho hbase ⟨_, _, rfl, Nat.le_refl _, fun h => (by cases h), fun j u hj => ⟨_, _, rfl, ?_⟩⟩
    have hj' : j < 1 := (List.getElem?_eq_some_iff.1 hj).1
    have hj0 : j = 0 := by omega
    subst hj0
    cases hj
    exact hv.cell 0 (by simp)
  · have hlt : i < l.length := by omega
    rcases ho.2 with ⟨_, h0⟩ | ⟨g, c, cur, rfl, hb, hg, hnc, hcm, hcs, htk⟩
    · omega
    · by_cases hr : l.length + 1 ≤ c
      · refine (kins_room g c l i vb p w cur hlt (by unfold maxLen at hcm; omega) hr hg (by rw [hcs, Nat.mul_one]) (by rw [Nat.mul_one] at htk; exact htk) hv (fun h => hne (by rw [h]; rfl))).mono ?_
        rintro e w' ⟨rfl, cur', rfl, h2, h3⟩
        refine ⟨_, rfl, ?_, below_setRow (B.below_drewB (Below.refl _ _)) hb cur'⟩
        have := LkO.row (l := insL l i p) hb (setRow_heap w.drew g cur cur' 97 (0, 0) hg) (by rw [insL_len l i p hi]; exact hr) hcm h2 (by rw [insL_len l i p hi]; exact h3)
        rwa [insL_len l i p hi] at this
      · refine (kins_grow g c l i vb p w cur hlt hm hnc (by omega) hg (by rw [Nat.mul_one] at htk; exact htk) hv).mono ?_
        rintro e w' ⟨G, rfl, h1, h2, cur', h3, h4, h5, h6⟩
        refine ⟨_, rfl, ?_, h4.mono hbase⟩
        have := LkO.row (l := insL l i p) hbase h3 (by rw [insL_len l i p hi]; exact h1) h2 h5 (by rw [insL_len l i p hi]; exact h6)
        rwa [insL_len l i p hi] at this

end Go.Proofs.YtnaedmmfiiebaaaGreatDoor.C

namespace Go.Proofs.YtnaedmmfiiebaaaGreatDoor.C
open Go.RowKit Go.Lib

theorem setCells_row (g : Nat) (t : TypeId) : ∀ (vs : List Value) (o : Nat) (cur : Array Value) (w : World), w.heap[g]? = some (.cells cur t (0, 0)) → o + vs.length ≤ cur.size →
    w.setCells g o vs = w.setRow g (cur.toList.take o ++ vs ++ cur.toList.drop (o + vs.length)).toArray
  | [], o, cur, w, hg, _ => by
    simp only [World.setCells, List.append_nil, List.length_nil, Nat.add_zero, List.take_append_drop, Array.toArray_toList]
    rw [setRow_self w g cur t (0, 0) hg]
  | v :: r, o, cur, w, hg, hl => by
    have ho : o < cur.size := by simp at hl; omega
    rw [World.setCells, setCell_eq_setRow w g o cur t (0, 0) v hg, setCells_row g t r (o + 1) (cur.setIfInBounds o v) _ (setRow_heap w g cur _ t _ hg) (by simp at hl ⊢; omega), setRow_setRow]
    congr 1
    have e := list_seg_step cur.toList o v r (by simp at hl ⊢; omega)
    simpa [Array.toList_setIfInBounds, Nat.add_assoc] using e

set_option maxHeartbeats 4000000 in
set_option maxRecDepth 1000000 in
theorem kdel_own (g c : Nat) (l : List Lk) (i m : Nat) (w : World) (cur : Array Value) (hl : l.length = m + 1) (hi : i ≤ m) (hlc : l.length ≤ c) (hg : w.heap[g]? = some (.cells cur 97 (0, 0))) (hsz : cur.size = c) (ht : cur.toList.take (l.length) = lks l) :
    Calls Tryz.prog 168 #[.slice (some ⟨g, 0, none⟩) (m + 1) c, .int .i64 (i : Int), .int .i64 ((i : Int) + 1)] w fun e w' => e = .returned (.slice (some ⟨g, 0, none⟩) m c) ∧ ∃ cur' : Array Value, w' = w.drew.setRow g cur' ∧ cur'.size = c ∧ cur'.toList.take (m) = lks (remL l i) := by
  obtain ⟨i0, hi0, hz0, hzs, hzb⟩ := info_parts infoK
  have hdl : (lks (l.drop (i + 1))).length = (m - i) := by rw [lks_len, List.length_drop, hl]; omega
  have l1 : (lks (l.take i)).length = i := by rw [lks_len, List.length_take]; omega
  obtain ⟨A, hA, hsrc⟩ : ∃ A : Addr, (if c = i + 1 then some (⟨g, 0, none⟩ : Addr) else some ⟨g, (i + 1), none⟩) = some A ∧ Hid (∀ t u, (lks (l.drop (i + 1)))[t]? = some u → w.drew.cell? (A.add t) = some u) := by
    by_cases h : c = i + 1
    · refine ⟨⟨g, 0, none⟩, by simp [h], fun t u hu => ?_⟩
      have h0 : (lks (l.drop (i + 1))).length = 0 := by rw [hdl]; omega
      rw [List.length_eq_zero_iff.1 h0] at hu
      simp at hu
    · refine ⟨⟨g, (i + 1), none⟩, by simp [h], fun t u hu => ?_⟩
      rw [add_plain']
      exact row_cells hg ht (i + 1) t u hu
  obtain ⟨C1, hC1⟩ : ∃ C : Array Value, C = (cur.toList.take (i) ++ lks (l.drop (i + 1)) ++ cur.toList.drop (i + (lks (l.drop (i + 1))).length)).toArray := ⟨_, rfl⟩
  have hz1 : C1.size = c := by rw [hC1]; simp [hdl, hsz]; omega
  have hW1 : w.drew.setCells g (0 + i) (lks (l.drop (i + 1))) = w.drew.setRow g C1 := by
    rw [Nat.zero_add, hC1]
    exact setCells_row g 97 _ _ cur w.drew hg (by rw [hdl, hsz]; omega)
  have hg1 : (w.drew.setRow g C1).heap[g]? = some (.cells C1 97 (0, 0)) := setRow_heap w.drew g cur C1 97 (0, 0) hg
  obtain ⟨C2, hC2⟩ : ∃ C : Array Value, C = (C1.toList.take (m) ++ [Value.nilIface] ++ C1.toList.drop (m + 1)).toArray := ⟨_, rfl⟩
  have hz2 : C2.size = c := by rw [hC2]; simp [hz1]; omega
  have hcl : ∀ ty cc, (Builtin.clear_ #[153] ty #[.slice (some ⟨g, m, none⟩) 1 cc]).run Tryz.prog (w.drew.setRow g C1) = .ok (.tuple #[]) (w.drew.setRow g C2) := fun ty cc => by
    rw [run_clear_row2 (w.drew.setRow g C1) 153 97 ty _ Tryz.underlying153 Tryz.zeroValue97 rfl rfl g (m) cc C1 97 hg1 (by omega), hC2, setRow_setRow]
  have hfin : C2.toList.take (m) = lks (remL l i) := by
    have e1 : cur.toList.take (i) = lks (l.take i) := by
      rw [lks_tk, ← ht, List.take_take, Nat.min_eq_left (by omega)]
    rw [hC2, List.toList_toArray, List.append_assoc, List.take_append_of_le_length (by simp [hz1]; omega), List.take_take, Nat.min_self, hC1, List.toList_toArray, e1, remL, lks_append, List.take_append_of_le_length (by simp only [List.length_append, hdl, l1]; omega), List.take_of_length_le (by simp only [List.length_append, hdl, l1]; omega)]
  have s1 : Hid ((lks (l.drop (i + 1))).length = (m - i) * 1) := by show _ = _; rw [Nat.mul_one]; exact hdl
  have s2 : Hid (∀ u ∈ lks (l.drop (i + 1)), u.oneCell' = true) := lks_one _
  have s3 : Hid (∀ t, t < (lks (l.drop (i + 1))).length → (w.drew.cell? ⟨g, 0 + i * 1 + t, none⟩).isSome = true ∧ w.drew.frozen? ⟨g, 0 + i * 1 + t, none⟩ = false) := by
    intro t htl
    rw [hdl] at htl
    refine ⟨?_, by show World.frozen? w _ = false; simp [World.frozen?, hg]⟩
    show (World.cell? w _).isSome = true
    simp only [World.cell?, hg]
    rw [Array.getElem?_eq_getElem (by omega)]
    rfl
  have HW : Hid (w.drew.setCells g (0 + i * 1) (lks (l.drop (i + 1))) = w.drew.setRow g C1) := by show _ = _; rw [Nat.mul_one]; exact hW1
  have HF := hide hfin
  have HZ := hide hz2
  have mixed : Tryz.prog.follows Departure.mixedOrders = true := by kernel_rfl
  have hq : ¬ ((i : Int) = (i : Int) + 1) := by omega
  have hq0 : (0 : Int) ≤ (i : Int) + 1 := by omega
  have hq1 : (i : Int) ≤ (i : Int) + 1 := by omega
  have hq2 : (i : Int) + 1 ≤ (m : Int) + 1 := by omega
  have hq3 : (m : Int) + 1 ≤ (c : Int) := by omega
  have htn : ((i : Int) + 1).toNat = i + 1 := by omega
  have hic : i ≤ c := by omega
  have hicI : (i : Int) ≤ (c : Int) := by omega
  have him : (i : Int) ≤ (m : Int) := by omega
  have hsum : i + (m - i) = m := by omega
  have hmc : ¬ c = m := by omega
  rw [hl] at hlc
  clear hC1 hC2 hfin hz2 hz1 hg1 ht hsz hg hdl l1 hW1 hl hz0 hzb
  go_enter Tryz.func168, Tryz.ntmps168
  go_wp2_with fail
  go_region_law_o (refine step_append_room rfl (.tmp 22) (.tmp 25) 153 rfl 97 i0 1 Tryz.underlying153 hi0 hzs g 0 i c (by simp [Act.eval, Act.put]) A (m - i) (c - (i + 1)) (lks (l.drop (i + 1))) (by simp [Act.eval, Act.put]) s1.out hsrc.out s2.out (by omega) s3.out ?_; rw [HW.out, hsum])
  go_wp2_with (simp only [hcl])
  go_ret
  exact ⟨rfl, C2, rfl, HZ.out, HF.out⟩

theorem remL_len (l : List Lk) (i : Nat) (h : i < l.length) : (remL l i).length + 1 = l.length := by
  unfold remL; rw [List.length_append, List.length_take, List.length_drop]; omega

/-- slices.Delete of one link of a list of the call's own. -/
theorem kdelete_any (base : Nat) (v : Value) (l : List Lk) (i : Nat) (w : World) (hi : i < l.length) (ho : LkO w base v l) :
    Calls Tryz.prog 168 #[v, .int .i64 (i : Int), .int .i64 ((i : Int) + 1)] w fun e w' => ∃ u, e = .returned u ∧ LkO w' base u (remL l i) ∧ Below base w w' := by
  have hrl := remL_len l i hi
  rcases ho.2 with ⟨_, h0⟩ | ⟨g, c, cur, rfl, hb, hg, hnc, hcm, hcs, htk⟩
  · omega
  · have h := kdel_own g c l i (remL l i).length w cur (by omega) (by omega) hnc hg (by rw [hcs, Nat.mul_one]) (by rw [Nat.mul_one] at htk; exact htk)
    rw [hrl] at h
    refine h.mono ?_
    rintro e w' ⟨rfl, cur', rfl, h2, h3⟩
    exact ⟨_, rfl, LkO.row (l := remL l i) hb (setRow_heap w.drew g cur cur' 97 (0, 0) hg) (by omega) hcm h2 h3, below_setRow (B.below_drewB (Below.refl _ _)) hb cur'⟩

end Go.Proofs.YtnaedmmfiiebaaaGreatDoor.C
