import Derived.Test.YtageokjobbjddaaGreatDoorGRP
namespace Go.Proofs.YtageokjobbjddaaGreatDoor
open Go.RowKit

/-! The laws' `deep`: an item that may be, out of any. -/
def Deep : Nat → It → Prop
  | 0, x => fits x = true ∧ x.text.size ≤ 40 ∧ x.kind ≠ 5
  | r + 1, x => fits x = true ∧ x.text.size ≤ 40 ∧ (x.kind = 5 → x.list.length ≤ 3 ∧ ∀ y ∈ x.list, Deep r y)
theorem Deep.flat (r : Nat) (x : It) (h1 : fits x = true) (h2 : x.text.size ≤ 40) (h3 : x.kind ≠ 5) : Deep r x := by
  cases r with
  | zero => exact ⟨h1, h2, h3⟩
  | succ r => exact ⟨h1, h2, fun h => absurd h h3⟩
theorem fitsK1 : fits (.mk 1 0 ⟨#[]⟩ []) = true := by simp [fits, fitB, It.kind, It.num, It.text, It.list, ByteArray.toList_eq]
theorem fitsK2 (n : Int) (h0 : 0 ≤ n) (h1 : n < 2) : fits (.mk 2 n ⟨#[]⟩ []) = true := by
  have : n = 0 ∨ n = 1 := by omega
  rcases this with rfl | rfl <;> simp [fits, fitB, It.kind, It.num, It.text, It.list, ByteArray.toList_eq]
theorem fitsK3 (n : Int) : fits (.mk 3 n ⟨#[]⟩ []) = true := by simp [fits, fitB, It.kind, It.text, It.list, ByteArray.toList_eq]
theorem fitsK4 (s : ByteArray) : fits (.mk 4 0 s []) = true := by simp [fits, fitB, It.kind, It.num, It.list]
theorem fitsK5 (l : List It) : fits (.mk 5 0 ⟨#[]⟩ l) = true := by simp [fits, fitB, It.kind, It.num, It.text, ByteArray.toList_eq]
def DeepR (w : World) (r : Nat) (e : Ending) (w' : World) : Prop :=
  ∃ (y : It) (la : Option Addr) (k : Nat), e = .returned (.agg (itV y (.slice la y.list.length k))) ∧ Deep r y ∧ y.Ok ∧ ItsAt w' (fun j => w.heap.size ≤ j) (.slice la y.list.length k) y.list ∧ Below w.heap.size w w'
def DeepC (r : Nat) : Prop := ∀ (d : Nat) (x : It) (u : Value) (w : World), d + r = 4 → x.Ok → ItsAt w anyB u x.list → Calls Tryz.prog 14 #[.agg (itV x u), .int .i64 (d : Int)] w fun e w' => DeepR w r e w'
theorem it_set1 {w : World} {b : Nat} {x0 x1 x2 x3 : Value} {t : TypeId} (h : RowAt w b #[x0, x1, x2, x3] t) (y : Value) : RowAt (w.setCell ⟨b, 1, none⟩ y) b #[x0, y, x2, x3] t := by
  unfold RowAt at h ⊢
  rw [setCell_eq_setRow w b 1 _ t (0, 0) y h]
  exact setRow_heap w b _ _ t _ h
theorem it_set2 {w : World} {b : Nat} {x0 x1 x2 x3 : Value} {t : TypeId} (h : RowAt w b #[x0, x1, x2, x3] t) (y : Value) : RowAt (w.setCell ⟨b, 2, none⟩ y) b #[x0, x1, y, x3] t := by
  unfold RowAt at h ⊢
  rw [setCell_eq_setRow w b 2 _ t (0, 0) y h]
  exact setRow_heap w b _ _ t _ h
theorem it_set3 {w : World} {b : Nat} {x0 x1 x2 x3 : Value} {t : TypeId} (h : RowAt w b #[x0, x1, x2, x3] t) (y : Value) : RowAt (w.setCell ⟨b, 3, none⟩ y) b #[x0, x1, x2, y] t := by
  unfold RowAt at h ⊢
  rw [setCell_eq_setRow w b 3 _ t (0, 0) y h]
  exact setRow_heap w b _ _ t _ h
theorem it_cells {w : World} {b : Nat} {x y z u : Value} {t : TypeId} (h : RowAt w b #[x, y, z, u] t) : w.cell? ⟨b, 0, none⟩ = some x ∧ w.cell? ⟨b, 1, none⟩ = some y ∧ w.cell? ⟨b, 2, none⟩ = some z ∧ w.cell? ⟨b, 3, none⟩ = some u := ⟨h.cell 0 (by simp), h.cell 1 (by simp), h.cell 2 (by simp), h.cell 3 (by simp)⟩
theorem ItsAt.got {w : World} {F : Nat → Prop} {a : Option Addr} {n cap : Nat} {l : List It} (h : ItsAt w F (.slice a n cap) l) (i : Nat) (hi : i < l.length) : ∃ g off vz, a = some ⟨g, off, none⟩ ∧ l[i].Ok ∧ w.cell? ⟨g, off + i * 4, none⟩ = some (.int .i64 l[i].kind) ∧ w.cell? ⟨g, off + i * 4 + 1, none⟩ = some (.int .i64 l[i].num) ∧ w.cell? ⟨g, off + i * 4 + 2, none⟩ = some (.string l[i].text) ∧ w.cell? ⟨g, off + i * 4 + 3, none⟩ = some vz ∧ ItsAt w F vz l[i].list := by
  generalize hv : Value.slice a n cap = v at h
  cases h with
  | mk a' g off cap' l vs hlen ha hok h0 h1 h2 h3 hin =>
    cases hv
    exact ⟨g, off, vs i, (ha (by omega)).1, hok i hi, h0 i hi, h1 i hi, h2 i hi, h3 i hi, hin i hi⟩
set_option maxHeartbeats 8000000 in
set_option maxRecDepth 100000 in
theorem deep_step (r : Nat) (hC : ∀ r', r = r' + 1 → DeepC r') : DeepC r := by
  intro d x u w hd hok hin
  obtain ⟨i0, hi, hz0, hz1, hz2⟩ := info_parts Tryz.info32
  obtain ⟨ua, uc, hu⟩ := hin.form
  subst hu
  have hxl := hin.len_le
  obtain ⟨RX, hRX⟩ : ∃ RX : Array Value, RX = #[.int .i64 x.kind, .int .i64 x.num, .string x.text, .slice ua x.list.length uc] := ⟨_, rfl⟩
  have q0 := below_new w (.cells RX 32)
  have x0 := RowAt.new w RX 32
  have hs0 : (w.alloc (.cells RX 32)).heap.size = w.heap.size + 1 := by simp
  have q1 := below_new (w.alloc (.cells RX 32)) (.cells #[.int .i64 0, .int .i64 0, .string ⟨#[]⟩, .slice none 0 0] 32)
  have x1 := RowAt.new (w.alloc (.cells RX 32)) #[.int .i64 0, .int .i64 0, .string ⟨#[]⟩, .slice none 0 0] 32
  rw [hs0] at x1
  have x01 := x0.below q1
  have q01 := Below.next q0 q1
  rw [hRX] at x01
  obtain ⟨c0, c1, c2, c3⟩ := it_cells x01
  rw [hRX] at q01 x1
  obtain ⟨W1, hW1⟩ : ∃ W1, (w.alloc (.cells #[.int .i64 x.kind, .int .i64 x.num, .string x.text, .slice ua x.list.length uc] 32)).alloc (.cells #[.int .i64 0, .int .i64 0, .string ⟨#[]⟩, .slice none 0 0] 32) = W1 := ⟨_, rfl⟩
  rw [hW1] at x1 x01 q01
  have hs1 : W1.heap.size = w.heap.size + 1 + 1 := by rw [← hW1]; simp
  have HW := hide hW1
  have HIN := hide (hin.keep q01)
  have HIN0 := hide hin
  have HOK := hide hok
  have HC := hide hC
  have HPK := hide (kpick_any (wrap64 (x.kind - 1)) 5 W1 (by decide) (by decide))
  have HPK2 := hide (fun W => kpick_any x.num 2 W (by decide) (by decide))
  have HHD := hide (fun W => khead_any x.text W (by have := hok.t; omega))
  have HX0 := hide x01
  have HX1 := hide x1
  have HQ1 := hide q01
  simp only [itV]
  clear q0 x0 hs0 q1 hin hok hC x01 x1 q01 hW1 hRX
  go_enter Tryz.func14, Tryz.ntmps14
  go_wp2_with fail
  rw [HW.out]
  refine HPK.out.mono ?_
  rintro e W1' ⟨p, rfl, hp0, hp5, rfl⟩
  clear HPK c0 c1 c2 c3
  have hn01 : w.heap.size ≠ w.heap.size + 1 + 1 := by omega
  have hn11 : w.heap.size + 1 ≠ w.heap.size + 1 + 1 := by omega
  have hpc : p = 0 ∨ p = 1 ∨ p = 2 ∨ p = 3 ∨ p = 4 := by omega
  rcases hpc with rfl | rfl | rfl | rfl | rfl
  · clear HPK2 HHD HC HIN
    have q2 := below_new W1 (.cells #[.int .i64 1, .int .i64 0, .string ⟨#[]⟩, .slice none 0 0] 32)
    have y2 := RowAt.new W1 #[.int .i64 1, .int .i64 0, .string ⟨#[]⟩, .slice none 0 0] 32
    have HX := hide (HX1.out.below q2)
    have HST := hide (store_it _ (w.heap.size + 1) _ _ _ _ (.mk 1 0 ⟨#[]⟩ []) none 0 0 HX.out)
    simp only [itV, It.kind, It.num, It.text] at HST
    obtain ⟨d0, d1, d2, d3⟩ := it_cells y2
    have HB := hide (below_setRow (Below.next HQ1.out q2) (show w.heap.size ≤ w.heap.size + 1 by omega) (itV (.mk 1 0 ⟨#[]⟩ []) (.slice none 0 0)))
    clear q2 y2
    go_wp2_with (first
      | (refine wpList_store_eq rfl 32 _ _ rfl _ _ rfl rfl HST.out ?_))
    refine bodyPost_ret (results_cell_row rfl _ _ (w.heap.size + 1) 32 _ (0, 0) _ rfl (row_set _ _ _ _ _ HX.out) Tryz.underlying32 rfl (by kernel_rfl)) rfl ?_
    exact ⟨.mk 1 0 ⟨#[]⟩ [], none, 0, rfl, Deep.flat _ _ fitsK1 (by decide) (by decide), ⟨by decide, by decide, by decide, by decide, by decide⟩, its_nil _ _ _ _, HB.out⟩
  · clear HHD HC HIN
    have q2 := below_new W1 (.cells #[.int .i64 2, .int .i64 0, .string ⟨#[]⟩, .slice none 0 0] 32)
    have y2 := RowAt.new W1 #[.int .i64 2, .int .i64 0, .string ⟨#[]⟩, .slice none 0 0] 32
    rw [hs1] at y2
    obtain ⟨d0, d1, d2, d3⟩ := it_cells y2
    obtain ⟨_, c1, _, _⟩ := it_cells (HX0.out.below q2)
    obtain ⟨W2, hW2⟩ : ∃ W2, W1.alloc (.cells #[.int .i64 2, .int .i64 0, .string ⟨#[]⟩, .slice none 0 0] 32) = W2 := ⟨_, rfl⟩
    have HW2 := hide hW2
    have HX := hide (HX1.out.below q2)
    have HB2 := hide (Below.next HQ1.out q2)
    rw [hW2] at y2 HX HB2
    have HY2 := hide y2
    clear q2 y2 hW2
    go_wp2_with fail
    rw [HW2.out]
    refine (HPK2.out W2).mono ?_
    rintro e W2' ⟨n, rfl, hn0, hn2, rfl⟩
    have f1 := HY2.out.free 1
    clear d0 d1 d2 d3 c1 HPK2
    obtain ⟨d0, d1, d2, d3⟩ := it_cells HY2.out
    have HX3 := hide (HX.out.other (g := w.heap.size + 1 + 1) (j := 1) hn11 (.int .i64 n))
    have HY3 := hide (it_set1 HY2.out (.int .i64 n))
    obtain ⟨e0, e1, e2, e3⟩ := it_cells HY3.out
    have HST := hide (store_it _ (w.heap.size + 1) _ _ _ _ (.mk 2 n ⟨#[]⟩ []) none 0 0 HX3.out)
    simp only [itV, It.kind, It.num, It.text] at HST
    have HB := hide (below_setRow (HB2.out.setCell (p := ⟨w.heap.size + 1 + 1, 1, none⟩) (show w.heap.size ≤ w.heap.size + 1 + 1 by omega) (.int .i64 n)) (show w.heap.size ≤ w.heap.size + 1 by omega) (itV (.mk 2 n ⟨#[]⟩ []) (.slice none 0 0)))
    go_wp2_with (first
      | (refine wpList_store_eq rfl 32 _ _ rfl _ _ rfl rfl HST.out ?_))
    refine bodyPost_ret (results_cell_row rfl _ _ (w.heap.size + 1) 32 _ (0, 0) _ rfl (row_set _ _ _ _ _ HX3.out) Tryz.underlying32 rfl (by kernel_rfl)) rfl ?_
    exact ⟨.mk 2 n ⟨#[]⟩ [], none, 0, rfl, Deep.flat _ _ (fitsK2 n hn0 hn2) (by show 0 ≤ 40; omega) (by simp [It.kind]), ⟨by show _ ≤ (2 : Int); omega, by show (2 : Int) ≤ _; omega, by show _ ≤ n; omega, by show n ≤ _; omega, by show 0 ≤ _; omega⟩, its_nil _ _ _ _, HB.out⟩
  · clear HHD HC HIN HPK2
    have q2 := below_new W1 (.cells #[.int .i64 3, .int .i64 x.num, .string ⟨#[]⟩, .slice none 0 0] 32)
    have y2 := RowAt.new W1 #[.int .i64 3, .int .i64 0, .string ⟨#[]⟩, .slice none 0 0] 32
    have y3 := RowAt.new W1 #[.int .i64 3, .int .i64 x.num, .string ⟨#[]⟩, .slice none 0 0] 32
    rw [hs1] at y2 y3
    have f1 := y2.free 1
    obtain ⟨d0, d1, d2, d3⟩ := it_cells y2
    obtain ⟨e0, e1, e2, e3⟩ := it_cells y3
    obtain ⟨_, c1, _, _⟩ := it_cells (HX0.out.below (below_new W1 (.cells #[.int .i64 3, .int .i64 0, .string ⟨#[]⟩, .slice none 0 0] 32)))
    have HX3 := hide (HX1.out.below q2)
    have HST := hide (store_it _ (w.heap.size + 1) _ _ _ _ (.mk 3 x.num ⟨#[]⟩ []) none 0 0 HX3.out)
    simp only [itV, It.kind, It.num, It.text] at HST
    have HB := hide (below_setRow (Below.next HQ1.out q2) (show w.heap.size ≤ w.heap.size + 1 by omega) (itV (.mk 3 x.num ⟨#[]⟩ []) (.slice none 0 0)))
    have HEND : Hid (∀ W', Below w.heap.size w W' → DeepR w r (.returned (.agg #[.int .i64 3, .int .i64 x.num, .string ⟨#[]⟩, .slice none 0 0])) W') := fun W' h => ⟨.mk 3 x.num ⟨#[]⟩ [], none, 0, rfl, Deep.flat _ _ (fitsK3 _) (by show 0 ≤ 40; omega) (by simp [It.kind]), ⟨by show _ ≤ (3 : Int); omega, by show (3 : Int) ≤ _; omega, HOK.out.n1, HOK.out.n2, by show 0 ≤ _; omega⟩, its_nil _ _ _ _, h⟩
    clear q2 y2 y3
    go_wp2_with (first
      | (refine wpList_store_eq rfl 32 _ _ rfl _ _ rfl rfl HST.out ?_))
    refine bodyPost_ret (results_cell_row rfl _ _ (w.heap.size + 1) 32 _ (0, 0) _ rfl (row_set _ _ _ _ _ HX3.out) Tryz.underlying32 rfl (by kernel_rfl)) rfl ?_
    exact HEND.out _ HB.out
  · clear HPK2 HC HIN
    have q2 := below_new W1 (.cells #[.int .i64 4, .int .i64 0, .string ⟨#[]⟩, .slice none 0 0] 32)
    have y2 := RowAt.new W1 #[.int .i64 4, .int .i64 0, .string ⟨#[]⟩, .slice none 0 0] 32
    rw [hs1] at y2
    obtain ⟨d0, d1, d2, d3⟩ := it_cells y2
    obtain ⟨_, _, c2, _⟩ := it_cells (HX0.out.below q2)
    obtain ⟨W2, hW2⟩ : ∃ W2, W1.alloc (.cells #[.int .i64 4, .int .i64 0, .string ⟨#[]⟩, .slice none 0 0] 32) = W2 := ⟨_, rfl⟩
    have HW2 := hide hW2
    have HX := hide (HX1.out.below q2)
    have HB2 := hide (Below.next HQ1.out q2)
    rw [hW2] at y2 HX HB2
    have HY2 := hide y2
    clear q2 y2 hW2
    go_wp2_with fail
    rw [HW2.out]
    refine (HHD.out W2).mono ?_
    rintro e W2' ⟨tx, rfl, htx, rfl⟩
    have f2 := HY2.out.free 2
    clear d0 d1 d2 d3 c2 HHD
    obtain ⟨d0, d1, d2, d3⟩ := it_cells HY2.out
    have HX3 := hide (HX.out.other (g := w.heap.size + 1 + 1) (j := 2) hn11 (.string tx))
    have HY3 := hide (it_set2 HY2.out (.string tx))
    obtain ⟨e0, e1, e2, e3⟩ := it_cells HY3.out
    have HST := hide (store_it _ (w.heap.size + 1) _ _ _ _ (.mk 4 0 tx []) none 0 0 HX3.out)
    simp only [itV, It.kind, It.num, It.text] at HST
    have HB := hide (below_setRow (HB2.out.setCell (p := ⟨w.heap.size + 1 + 1, 2, none⟩) (show w.heap.size ≤ w.heap.size + 1 + 1 by omega) (.string tx)) (show w.heap.size ≤ w.heap.size + 1 by omega) (itV (.mk 4 0 tx []) (.slice none 0 0)))
    go_wp2_with (first
      | (refine wpList_store_eq rfl 32 _ _ rfl _ _ rfl rfl HST.out ?_))
    refine bodyPost_ret (results_cell_row rfl _ _ (w.heap.size + 1) 32 _ (0, 0) _ rfl (row_set _ _ _ _ _ HX3.out) Tryz.underlying32 rfl (by kernel_rfl)) rfl ?_
    exact ⟨.mk 4 0 tx [], none, 0, rfl, Deep.flat _ _ (fitsK4 tx) htx (by simp [It.kind]), ⟨by show _ ≤ (4 : Int); omega, by show (4 : Int) ≤ _; omega, by show _ ≤ (0 : Int); omega, by show (0 : Int) ≤ _; omega, by show tx.size ≤ _; omega⟩, its_nil _ _ _ _, HB.out⟩
  · clear HPK2 HHD
    cases r with
    | zero =>
      have hd4 : (4 : Int) ≤ (d : Int) := by omega
      have q2 := below_new W1 (.cells #[.int .i64 1, .int .i64 0, .string ⟨#[]⟩, .slice none 0 0] 32)
      have y2 := RowAt.new W1 #[.int .i64 5, .int .i64 0, .string ⟨#[]⟩, .slice none 0 0] 32
      have y3 := RowAt.new W1 #[.int .i64 1, .int .i64 0, .string ⟨#[]⟩, .slice none 0 0] 32
      rw [hs1] at y2 y3
      have f0 := y2.free 0
      obtain ⟨d0, d1, d2, d3⟩ := it_cells y2
      obtain ⟨e0, e1, e2, e3⟩ := it_cells y3
      have HX := hide (HX1.out.below q2)
      have HST := hide (store_it _ (w.heap.size + 1) _ _ _ _ (.mk 1 0 ⟨#[]⟩ []) none 0 0 HX.out)
      simp only [itV, It.kind, It.num, It.text] at HST
      have HB := hide (below_setRow (Below.next HQ1.out q2) (show w.heap.size ≤ w.heap.size + 1 by omega) (itV (.mk 1 0 ⟨#[]⟩ []) (.slice none 0 0)))
      clear q2 y2 y3 HC HIN
      go_wp2_with (first
        | (refine wpList_store_eq rfl 32 _ _ rfl _ _ rfl rfl HST.out ?_))
      refine bodyPost_ret (results_cell_row rfl _ _ (w.heap.size + 1) 32 _ (0, 0) _ rfl (row_set _ _ _ _ _ HX.out) Tryz.underlying32 rfl (by kernel_rfl)) rfl ?_
      exact ⟨.mk 1 0 ⟨#[]⟩ [], none, 0, rfl, Deep.flat _ _ fitsK1 (by decide) (by decide), ⟨by decide, by decide, by decide, by decide, by decide⟩, its_nil _ _ _ _, HB.out⟩
    | succ r =>
      have hd4 : ¬ (4 : Int) ≤ (d : Int) := by omega
      have HREC := hide (HC.out r rfl)
      have q2 := below_new W1 (.cells #[.int .i64 5, .int .i64 0, .string ⟨#[]⟩, .slice none 0 0] 32)
      have y2 := RowAt.new W1 #[.int .i64 5, .int .i64 0, .string ⟨#[]⟩, .slice none 0 0] 32
      rw [hs1] at y2
      obtain ⟨d0, d1, d2, d3⟩ := it_cells y2
      obtain ⟨W2, hW2⟩ : ∃ W2, W1.alloc (.cells #[.int .i64 5, .int .i64 0, .string ⟨#[]⟩, .slice none 0 0] 32) = W2 := ⟨_, rfl⟩
      have hs2 : W2.heap.size = w.heap.size + 1 + 1 + 1 := by rw [← hW2]; simp; omega
      have HW2 := hide hW2
      have HX2 := hide (HX1.out.below q2)
      have HXX := hide (HX0.out.below q2)
      have HB2 := hide (Below.next HQ1.out q2)
      have HIN2 := hide (HIN.out.keep q2)
      rw [hW2] at y2 HX2 HXX HB2 HIN2
      have HY2 := hide y2
      have HD1 : Hid (d + 1 + r = 4) := by show _ = _; omega
      clear q2 y2 hW2 HC HIN HX0 HX1
      go_wp2_with fail
      rw [HW2.out]
      go_loopw [6] (fun iv wr => ∃ (I : Nat) (l : List It) (a : Option Addr) (c : Nat), iv = .int .i64 (I : Int) ∧ I ≤ 3 ∧ I ≤ x.list.length ∧ Hid (l.length = I) ∧ Hid (∀ y ∈ l, Deep r y) ∧ Hid (ItsOwn wr W2.heap.size (.slice a l.length c) l) ∧ Hid (RowAt wr (w.heap.size + 1 + 1) #[.int .i64 5, .int .i64 0, .string ⟨#[]⟩, .slice a l.length c] 32) ∧ Hid (Below (w.heap.size + 1 + 1) W2 wr)) (fun iv _ => 3 - (intOf iv).toNat)
      case atStart => exact ⟨0, [], none, 0, rfl, by omega, Nat.zero_le _, rfl, (fun y hy => by cases hy), ⟨[], rfl, by simpa [cellsOf'] using World.ownsRow_nil _ _ _ _, fun i h => absurd h (by simp), fun i h => absurd h (by simp)⟩, HY2.out, Below.refl _ _⟩
      case round =>
        obtain ⟨I, l, a, c, rfl, hI3, hIx, hlI, hdp, hown, hrow, hbl⟩ := hrel
        have hl3 : l.length ≤ 3 := by have := hlI.out; omega
        have hbs := hbl.out.size
        have hbw : Below w.heap.size w wr := HB2.out.trans (hbl.out.mono (by omega))
        have hxx : RowAt wr w.heap.size #[.int .i64 x.kind, .int .i64 x.num, .string x.text, .slice ua x.list.length uc] 32 := (hbl.out.block _ (by omega)).trans HXX.out
        obtain ⟨_, _, _, c3⟩ := it_cells hxx
        obtain ⟨d0, d1, d2, d3⟩ := it_cells hrow.out
        have hx2 : RowAt wr (w.heap.size + 1) #[.int .i64 0, .int .i64 0, .string ⟨#[]⟩, .slice none 0 0] 32 := (hbl.out.block _ (by omega)).trans HX2.out
        by_cases hlt : I < x.list.length ∧ I < 3
        · obtain ⟨hl1, hl2⟩ := hlt
          have j0 : (0 : Int) ≤ (I : Int) := by omega
          have j1 : (I : Int) < (x.list.length : Int) := by omega
          have j2 : (I : Int) < 3 := by omega
          have hin2 := HIN0.out.keep hbw
          obtain ⟨g, off, vz, rfl, hok2, s0, s1, s2, s3, hi4⟩ := hin2.got I hl1
          have HOKz := hide hok2
          generalize x.list[I] = z at *
          obtain ⟨za, zc, rfl⟩ := hi4.form
          have HRC := hide (HREC.out (d + 1) z (.slice za z.list.length zc) wr HD1.out HOKz.out hi4)
          simp only [itV] at HRC
          clear hok2 hi4 hxx
          go_wp2_with fail
          refine HRC.out.mono ?_
          rintro e W3 ⟨y, la, k, rfl, hdy, hoky, hiy, hb3⟩
          have x2 := RowAt.new W3 #[.int .i64 0, .int .i64 0, .string ⟨#[]⟩, .slice none 0 0] 32
          have HSX := hide (store_it _ W3.heap.size _ _ _ _ y la y.list.length k x2)
          obtain ⟨V, hV⟩ : ∃ V, (W3.alloc (.cells #[.int .i64 0, .int .i64 0, .string ⟨#[]⟩, .slice none 0 0] 32)).setRow W3.heap.size (itV y (.slice la y.list.length k)) = V := ⟨_, rfl⟩
          have hB : Below W3.heap.size W3 V := by rw [← hV]; exact below_setRow (below_new W3 _) (Nat.le_refl _) _
          have y2 : RowAt V W3.heap.size (itV y (.slice la y.list.length k)) 32 := by rw [← hV]; exact row_set _ _ _ _ _ x2
          rw [hV] at HSX
          have hrV := (hrow.out.below hb3).below hB
          have hiyV := hiy.keep hB
          have hbk := hown.out.blk
          have hVs : wr.heap.size ≤ V.heap.size := Nat.le_trans hb3.size hB.size
          obtain ⟨us, hus, how, hoks, hins⟩ := (hown.out.keep hb3).keep hB
          have hm1 : l.length + 1 ≤ maxLen := by unfold maxLen; omega
          have hm2 : (l.length + 1) * 56 ≤ 140737488355328 := by omega
          have HN : Hid (∀ j u, [Value.int .i64 y.kind, .int .i64 y.num, .string y.text, .slice la y.list.length k][j]? = some u → (V.alloc (.cells #[.int .i64 y.kind, .int .i64 y.num, .string y.text, .slice la y.list.length k] 32)).cell? ((⟨V.heap.size, 0, none⟩ : Addr).add j) = some u) := World.news_of_block (heap_alloc_new V _)
          have HX : Hid (y.Ok ∧ ItsAt V (fun g => wr.heap.size ≤ g) (.slice la y.list.length k) y.list) := ⟨hoky, hiyV⟩
          have HBK : Hid (∀ k, (Value.slice a l.length c).ownBlock = some k → W2.heap.size ≤ k ∧ k < wr.heap.size) := hbk
          have HRV := hide hrV
          have HBV : Hid (Below (w.heap.size + 1 + 1) W2 V) := (hbl.out.trans (hb3.mono (by omega))).trans (hB.mono (by have := hb3.size; omega))
          have HDY : Hid (∀ z ∈ l ++ [y], Deep r z) := fun z hz => by
            rcases List.mem_append.1 hz with h | h
            · exact hdp.out z h
            · rw [List.mem_singleton.1 h]; exact hdy
          have hle : (l ++ [y]).length = l.length + 1 := by simp
          obtain ⟨q0, q1, q2, q3⟩ := it_cells y2
          obtain ⟨_, _, _, r3⟩ := it_cells hrV
          simp only [itV] at HSX
          clear HRC x2 hV y2 hB hiy hiyV hoky hdy hb3 hown hbk hrow hbl hdp hrV d0 d1 d2 d3 c3 s0 s1 s2 s3
          go_wp2_with (first
            | (refine wpList_store_eq rfl 32 _ _ rfl _ _ rfl rfl HSX.out ?_)
            | (at_builtin; go_must (refine wpList_append_lies _ rfl _ _ 30 rfl W2.heap.size 32 i0 (.agg #[.int .i64 0, .int .i64 0, .string ⟨#[]⟩, .slice none 0 0]) 4 56 Tryz.underlying30 hi hz0 hz1 hz2 rfl (by decide) _ _ _ rfl (how.alloc _) ⟨V.heap.size, 0, none⟩ 1 1 [.int .i64 y.kind, .int .i64 y.num, .string y.text, .slice la y.list.length k] rfl rfl HN.out (its_cells1 _ _ _ _ _ _) (by decide) hm1 hm2 (by simp; omega) (V.heap.size + 1) (by simp) ?_)))
          intro g5 cap5 w5 hown5 hgrow hat hlg
          rw [← hs2] at hown5
          obtain ⟨HO5, HB5⟩ := rd_push2 hbs hVs HBK.out HX.out.1 hus hoks hins HX.out.2 rfl hown5 hgrow hat
          have hr5 : RowAt w5 (w.heap.size + 1 + 1) #[.int .i64 5, .int .i64 0, .string ⟨#[]⟩, .slice a l.length c] 32 := (HB5.block _ (by omega)).trans HRV.out
          obtain ⟨_, _, _, t3⟩ := it_cells hr5
          have f3 := hr5.free 3
          have HRW := hide (it_set3 hr5 (.slice (some ⟨g5, 0, none⟩) (l.length + 1) cap5))
          have HOW := hide (HO5.two (Two.cell1 (w.heap.size + 1 + 1) 3 w5 (.slice (some ⟨g5, 0, none⟩) (l.length + 1) cap5)) (by omega) (by omega))
          have HBW := hide ((HBV.out.trans (HB5.mono (by omega))).setCell (p := ⟨w.heap.size + 1 + 1, 3, none⟩) (Nat.le_refl _) (.slice (some ⟨g5, 0, none⟩) (l.length + 1) cap5))
          clear hown5 hgrow hat hlg HO5 HB5 hins hoks how HX HN HRV HBV hr5 q0 q1 q2 q3 r3
          go_wp2_with fail
          go_roundw
          case rel => exact ⟨I + 1, l ++ [y], some ⟨g5, 0, none⟩, cap5, by go_num, by omega, by omega, by show _ = _; have := hlI.out; rw [hle]; omega, HDY, by rw [hle]; exact HOW, by rw [hle]; exact HRW, HBW⟩
          case measure => simp [intOf]; omega
        · have HEND : Hid (∀ W', W' = wr.setRow (w.heap.size + 1) #[.int .i64 5, .int .i64 0, .string ⟨#[]⟩, .slice a l.length c] → DeepR w (r + 1) (.returned (.agg #[.int .i64 5, .int .i64 0, .string ⟨#[]⟩, .slice a l.length c])) W') := fun W' e => by
            subst e
            have hT := Two.row1 (w.heap.size + 1) wr #[.int .i64 5, .int .i64 0, .string ⟨#[]⟩, .slice a l.length c]
            refine ⟨.mk 5 0 ⟨#[]⟩ l, a, c, rfl, ⟨fitsK5 l, by show 0 ≤ 40; omega, fun _ => ⟨hl3, hdp.out⟩⟩, ⟨by show _ ≤ (5 : Int); omega, by show (5 : Int) ≤ _; omega, by show _ ≤ (0 : Int); omega, by show (0 : Int) ≤ _; omega, by show 0 ≤ _; omega⟩, ?_, below_setRow hbw (by omega) _⟩
            exact ((hown.out.at' (by omega)).two hT (fun j hj => ⟨by omega, by omega⟩)).imp (fun j hj => by omega)
          have HST := hide (store_it _ (w.heap.size + 1) _ _ _ _ (.mk 5 0 ⟨#[]⟩ l) a l.length c hx2)
          simp only [itV, It.kind, It.num, It.text] at HST
          have HX2w := hide hx2
          have hcs : (I < x.list.length ∧ I = 3) ∨ I = x.list.length := by omega
          clear hown hrow hbl hdp hbw hxx hx2
          rcases hcs with ⟨h1, h2⟩ | h1
          · have j1 : (I : Int) < (x.list.length : Int) := by omega
            have j2 : ¬ (I : Int) < 3 := by omega
            clear h1 h2 hlt
            go_wp2_with (first
              | (refine wpList_store_eq rfl 32 _ _ rfl _ _ rfl rfl HST.out ?_))
            refine bodyPost_ret (results_cell_row rfl _ _ (w.heap.size + 1) 32 _ (0, 0) _ rfl (row_set _ _ _ _ _ HX2w.out) Tryz.underlying32 rfl (by kernel_rfl)) rfl ?_
            exact HEND.out _ rfl
          · have j1 : ¬ (I : Int) < (x.list.length : Int) := by omega
            clear h1 hlt
            go_wp2_with (first
              | (refine wpList_store_eq rfl 32 _ _ rfl _ _ rfl rfl HST.out ?_))
            refine bodyPost_ret (results_cell_row rfl _ _ (w.heap.size + 1) 32 _ (0, 0) _ rfl (row_set _ _ _ _ _ HX2w.out) Tryz.underlying32 rfl (by kernel_rfl)) rfl ?_
            exact HEND.out _ rfl
theorem deep_any : ∀ r, DeepC r
  | 0 => deep_step 0 (fun r' e => by cases e)
  | r + 1 => deep_step (r + 1) (fun r' e => by cases e; exact deep_any r)
end Go.Proofs.YtageokjobbjddaaGreatDoor

namespace Go.Proofs.YtageokjobbjddaaGreatDoor
open Go.RowKit

/-! What the laws make of any query may be, and its text is short (data). -/
def limL : Nat → Nat
  | 0 => 170
  | r + 1 => 3 * limL r + 8
def limN : Nat → Nat
  | 0 => 41
  | r + 1 => 3 * limN r + 41
theorem limL_low (r : Nat) : 170 ≤ limL r := by
  induction r with
  | zero => exact Nat.le_refl _
  | succ r ih => rw [limL]; omega
theorem limN_low (r : Nat) : 41 ≤ limN r := by
  induction r with
  | zero => exact Nat.le_refl _
  | succ r ih => rw [limN]; omega
theorem Deep.fit {r : Nat} {x : It} (h : Deep r x) : fits x = true := by
  cases r with
  | zero => exact h.1
  | succ r => exact h.1
theorem Deep.text {r : Nat} {x : It} (h : Deep r x) : x.text.size ≤ 40 := by
  cases r with
  | zero => exact h.2.1
  | succ r => exact h.2.1
theorem Deep.lst {r : Nat} {x : It} (h : Deep r x) (hk : x.kind = 5) : ∃ r', r = r' + 1 ∧ x.list.length ≤ 3 ∧ ∀ y ∈ x.list, Deep r' y := by
  cases r with
  | zero => exact absurd hk h.2.2
  | succ r => exact ⟨r, rfl, h.2.2 hk⟩
theorem listL_le {B : Nat} : ∀ (l : List It), (∀ y ∈ l, (itemL y).length ≤ B) → (listL l).length ≤ l.length * (B + 2) ∧ (tailL l).length ≤ l.length * (B + 2)
  | [], _ => by simp [listL, tailL]
  | x :: l, h => by
    have ih := (listL_le l fun y hy => h y (by simp [hy])).2
    have hx := h x (by simp)
    rw [listL, tailL]
    simp only [List.length_append, List.length_cons, Nat.add_mul, Nat.one_mul]
    omega
theorem cntL_le {B : Nat} : ∀ (l : List It), (∀ y ∈ l, y.cnt ≤ B) → cntL l ≤ l.length * B
  | [], _ => by simp [cntL]
  | x :: l, h => by
    have ih := cntL_le l fun y hy => h y (by simp [hy])
    have hx := h x (by simp)
    rw [cntL, List.length_cons, Nat.add_mul, Nat.one_mul]
    omega
theorem nums_mem : ∀ {l : List It}, numsL l → ∀ y ∈ l, numsI y
  | [], _, y, hy => by cases hy
  | x :: l, h, y, hy => by
    rcases List.mem_cons.1 hy with rfl | hy
    · exact h.1
    · exact nums_mem h.2 y hy
theorem deep_len : ∀ (r : Nat) (x : It), Deep r x → numsI x → (itemL x).length ≤ limL r := by
  intro r
  induction r with
  | zero =>
    intro x h hn
    have ht := h.text
    rcases fits_cases h.fit with rfl | rfl | rfl | ⟨n, rfl⟩ | ⟨t, rfl⟩ | ⟨l, rfl⟩
    · rw [itemL]; simp [limL]
    · rw [itemL]; simp [limL]
    · rw [itemL]; simp [limL]
    · rw [itemL]
      have := Lib.itoa_length_le n hn.1 hn.2.1
      simp [limL]; omega
    · rw [itemL]
      have ht2 : t.size ≤ 40 := ht
      have := quoL_len t.data.toList
      rw [q_len] at this
      simp [limL, quotedL]; omega
    · exact absurd rfl h.2.2
  | succ r ih =>
    intro x h hn
    have ht := h.text
    have hl := limL_low r
    rcases fits_cases h.fit with rfl | rfl | rfl | ⟨n, rfl⟩ | ⟨t, rfl⟩ | ⟨l, rfl⟩
    · rw [itemL]; simp [limL]
    · rw [itemL]; simp [limL]
    · rw [itemL]; simp [limL]
    · rw [itemL]
      have := Lib.itoa_length_le n hn.1 hn.2.1
      simp [limL]; omega
    · rw [itemL]
      have ht2 : t.size ≤ 40 := ht
      have := quoL_len t.data.toList
      rw [q_len] at this
      simp [limL, quotedL]; omega
    · obtain ⟨r', e, h3, hd⟩ := h.lst rfl
      cases e
      have h3' : l.length ≤ 3 := h3
      have hb := (listL_le (B := limL r) l fun y hy => ih y (hd y hy) (nums_mem hn.2.2 y hy)).1
      have hm : l.length * (limL r + 2) ≤ 3 * (limL r + 2) := Nat.mul_le_mul_right _ h3'
      rw [itemL]
      simp [limL]; omega
theorem flat_list {x : It} (h : fits x = true) (hk : x.kind ≠ 5) : x.list = [] := by
  rcases fits_cases h with rfl | rfl | rfl | ⟨n, rfl⟩ | ⟨t, rfl⟩ | ⟨l, rfl⟩ <;> first | rfl | exact absurd rfl hk
theorem deep_cnt : ∀ (r : Nat) (x : It), Deep r x → x.cnt ≤ limN r := by
  intro r
  induction r with
  | zero =>
    intro x h
    have ht := h.text
    rw [x.cnt_eq, flat_list h.fit h.2.2, cntL, limN]
    omega
  | succ r ih =>
    intro x h
    have ht := h.text
    have hl := limN_low r
    rw [x.cnt_eq, limN]
    by_cases hk : x.kind = 5
    · obtain ⟨r', e, h3, hd⟩ := h.lst hk
      cases e
      have hb := cntL_le (B := limN r) x.list fun y hy => ih y (hd y hy)
      have hm : x.list.length * limN r ≤ 3 * limN r := Nat.mul_le_mul_right _ h3
      omega
    · rw [flat_list h.fit hk, cntL]
      omega
theorem deep_fault : ∀ (r : Nat) (l : List It), l.length ≤ 16 → (∀ y ∈ l, Deep r y) → faultR r l = 0 := by
  have none : ∀ (f : It → Nat) (l : List It), (∀ y ∈ l, f y = 0) → firstF f l = 0 := by
    intro f l
    induction l with
    | nil => intro _; rfl
    | cons x l ih => intro h; rw [firstF, if_pos (h x (by simp))]; exact ih fun y hy => h y (by simp [hy])
  have one : ∀ (rec : List It → Nat) (x : It), fits x = true → (x.kind = 5 → rec x.list = 0) → oneF rec x = 0 := by
    intro rec x h1 h2
    unfold oneF
    rw [if_neg (by simp [h1])]
    split
    · exact h2 ‹_›
    · rfl
  intro r
  induction r with
  | zero =>
    intro l hl h
    rw [faultR, if_neg (by omega)]
    exact none _ l fun y hy => one _ y (h y hy).fit fun hk => absurd hk (h y hy).2.2
  | succ r ih =>
    intro l hl h
    rw [faultR, if_neg (by omega)]
    refine none _ l fun y hy => one _ y (h y hy).fit fun hk => ?_
    obtain ⟨r', e, h3, hd⟩ := (h y hy).lst hk
    cases e
    exact ih _ (by omega) hd
end Go.Proofs.YtageokjobbjddaaGreatDoor

namespace Go.Proofs.YtageokjobbjddaaGreatDoor
open Go.RowKit

/-! The question that must be read and written (data). -/
def FQ : Qd := ⟨⟨#[84]⟩, [⟨⟨#[102]⟩, 1, .mk 3 1 ⟨#[]⟩ []⟩, ⟨⟨#[103]⟩, 5, .mk 4 0 ⟨#[120]⟩ []⟩], ⟨#[103]⟩, true, 5⟩
def FT1 : ByteArray := ⟨#[102, 114, 111, 109, 32, 84, 32, 119, 104, 101, 114, 101, 32, 102, 61, 49, 32, 97, 110, 100, 32, 103, 32, 62, 61, 32, 34, 120, 34, 32, 111, 114, 100, 101, 114, 32, 98, 121, 32, 103, 32, 102, 97, 108, 108, 105, 110, 103, 32, 108, 105, 109, 105, 116, 32, 53]⟩
def FT2 : ByteArray := ⟨#[102, 114, 111, 109, 32, 84, 32, 119, 104, 101, 114, 101, 32, 102, 32, 61, 32, 49, 32, 97, 110, 100, 32, 103, 32, 62, 61, 32, 34, 120, 34, 32, 111, 114, 100, 101, 114, 32, 98, 121, 32, 103, 32, 102, 97, 108, 108, 105, 110, 103, 32, 108, 105, 109, 105, 116, 32, 53]⟩
theorem itoa1 : Lib.itoa 1 = [49] := by
  unfold Lib.itoa
  rw [if_neg (by decide)]
  exact Lib.decDigits_one (i := 1) (by decide)
theorem itoa5 : Lib.itoa 5 = [53] := by
  unfold Lib.itoa
  rw [if_neg (by decide)]
  exact Lib.decDigits_one (i := 5) (by decide)
theorem fq_item1 : itemL (.mk 3 1 ⟨#[]⟩ []) = [49] := by
  rw [itemL]
  simp [itoa1]
theorem fq_item2 : itemL (.mk 4 0 ⟨#[120]⟩ []) = [34, 120, 34] := by
  rw [itemL]
  decide
theorem fq_name (c : UInt8) (h : plainB ⟨#[c]⟩ = true) : nameL ⟨#[c]⟩ = [c] := by
  unfold nameL
  rw [if_pos h]
theorem fq_text : textL FQ = FT2.data.toList := by
  unfold textL FQ
  simp only [condsL, condT, condL, orderL, fallL, limitL]
  rw [fq_name 84 (by decide), fq_name 102 (by decide), fq_name 103 (by decide), fq_item1, fq_item2, itoa5]
  decide
theorem fq_fault : qfaultD FQ = 0 := by
  have h1 : condF ⟨⟨#[102]⟩, 1, .mk 3 1 ⟨#[]⟩ []⟩ = 0 := by
    unfold condF
    rw [if_pos (by decide)]
    unfold packF
    have e : faultR 4 [It.mk 3 1 ⟨#[]⟩ []] = 0 := by
      rw [faultR, if_neg (by decide), firstF, firstF]
      simp [oneF, fits, fitB, It.kind, It.text, It.list, ByteArray.toList_eq]
    rw [if_pos e, if_neg]
    simp [encL, It.enc_eq, bodyOf, It.kind, It.num]
    decide
  have h2 : condF ⟨⟨#[103]⟩, 5, .mk 4 0 ⟨#[120]⟩ []⟩ = 0 := by
    unfold condF
    rw [if_pos (by decide)]
    unfold packF
    have e : faultR 4 [It.mk 4 0 ⟨#[120]⟩ []] = 0 := by
      rw [faultR, if_neg (by decide), firstF, firstF]
      simp [oneF, fits, fitB, It.kind, It.num, It.list]
    rw [if_pos e, if_neg]
    simp [encL, It.enc_eq, bodyOf, It.kind, It.text]
    decide
  have hf : firstN condF FQ.cs = 0 := firstN_all _ fun c hc => by
    rcases List.mem_cons.1 hc with rfl | hc
    · exact h1
    · rcases List.mem_cons.1 hc with rfl | hc
      · exact h2
      · cases hc
  unfold qfaultD
  rw [if_pos (show isNameD FQ.table = true by decide), if_pos hf]
  decide
theorem fq_print : printF FQ = 0 ∧ printT FQ = FT2 := by
  have h : printF FQ = 0 := by
    unfold printF
    rw [if_pos fq_fault, if_neg (by rw [fq_text]; decide)]
  refine ⟨h, ?_⟩
  unfold printT
  rw [if_pos h, fq_text]
theorem fq_nums : QNums FQ := by
  refine ⟨fun c hc => ?_, by decide⟩
  rcases List.mem_cons.1 hc with rfl | hc
  · exact ⟨by decide, by decide, trivial⟩
  · rcases List.mem_cons.1 hc with rfl | hc
    · exact ⟨by decide, by decide, trivial⟩
    · cases hc
theorem fq_fine : QFine FQ := qfine_of fq_fault fq_nums
theorem fq_toks : toksD FT1.data.toList = some (queryT FQ) := by
  have h := fq_fine
  have e : FT1.data.toList = [102, 114, 111, 109] ++ 32 :: ([84] ++ 32 :: ([119, 104, 101, 114, 101] ++ 32 :: ([102] ++ (signL 1 ++ (Lib.itoa 1 ++ 32 :: ([97, 110, 100] ++ 32 :: (condL ⟨⟨#[103]⟩, 5, .mk 4 0 ⟨#[120]⟩ []⟩ ++ (orderL FQ ++ (fallL FQ ++ limitL FQ))))))))) := by
    have e1 : condL ⟨⟨#[103]⟩, 5, .mk 4 0 ⟨#[120]⟩ []⟩ = [103, 32, 62, 61, 32, 34, 120, 34] := by
      simp only [condL]
      rw [fq_name 103 (by decide), fq_item2]
      decide
    have e2 : limitL FQ = [32, 108, 105, 109, 105, 116, 32, 53] := by
      unfold limitL FQ
      simp only
      rw [itoa5]
      decide
    rw [itoa1, e1, e2]
    decide
  rw [e, toks_kw _ _ (by simp) (by decide) (Stops.of (.inl rfl)), toksD_blank, toks_kw _ _ (by simp) (by decide) (Stops.of (.inl rfl)), toksD_blank, toks_kw _ _ (by simp) (by decide) (Stops.of (.inl rfl)), toksD_blank,
    toks_word [102] _ (by simp) (by decide) (by show wfrom false (61 :: _) = 0; rw [wfrom, if_neg (by decide)]), toks_sign 1 _ (by rw [itoa1]; simp), toks_num 1 _ (by decide) (by decide) (by rw [dcount, if_neg (by decide)]), toksD_blank, toks_kw _ _ (by simp) (by decide) (Stops.of (.inl rfl)), toksD_blank,
    toks_cond _ _ (h.c _ (by simp [FQ])) (stop_order FQ), toks_order FQ _ h (stop_fall FQ), toks_fall FQ _ (stop_limit FQ), toks_limit FQ h]
  rfl
theorem fq_parse : parD FT1 = some FQ := parse_back FQ fq_fault FT1 fq_toks (by decide)
end Go.Proofs.YtageokjobbjddaaGreatDoor
