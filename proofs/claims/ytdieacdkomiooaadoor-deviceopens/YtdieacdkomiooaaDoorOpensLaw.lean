import Derived.Test.YtdieacdkomiooaaDoorR3
namespace Go.Proofs.YtdieacdkomiooaaDoor
open Go.RowKit Go.Maps

theorem owns_head {w : World} {b e size n m cap g : Nat} {xs ys : List Value} (h : w.ownsRow b e size (.slice (some ⟨g, 0, none⟩) (n + m) cap) (n + m) (xs ++ ys)) (hx : xs.length = n * size) : w.ownsRow b e size (.slice (some ⟨g, 0, none⟩) n cap) n xs := by
  refine ⟨hx, ?_⟩
  rcases h.2 with ⟨h', _⟩ | ⟨g', cap', cur, h', h1, h2, h3, h4, h5, h6⟩
  · cases h'
  · simp only [Value.slice.injEq, Option.some.injEq, Addr.mk.injEq, and_true, true_and] at h'
    obtain ⟨rfl, rfl⟩ := h'
    refine .inr ⟨g, cap, cur, rfl, h1, h2, by omega, h4, h5, ?_⟩
    have : (cur.toList.take ((n + m) * size)).take (n * size) = (xs ++ ys).take (n * size) := by rw [h6]
    rw [List.take_take, Nat.min_eq_left (Nat.mul_le_mul_right _ (by omega))] at this
    rw [this, ← hx, List.take_left']
    rfl
/-- What is written over. -/
theorem step_set {w : World} {g j : Nat} {v : Value} : Step (fun k => k = g) (fun k => k = g) w (w.setCell ⟨g, j, none⟩ v) :=
  ⟨rfl, rfl, rfl, by simp [World.setCell], fun k _ hn => Below.heap_setCell w ⟨g, j, none⟩ v k (fun e => hn e), fun _ h => .inl h⟩

set_option maxRecDepth 100000 in
set_option maxHeartbeats 3200000 in
theorem opens_any (base : Nat) (A : Nat → Addr) (X : Int) (fv sv : Value) (first : List Sec) (w : World) (hE : ErrsB base A w) (hfv : SecsIn w fv first) (hfl : (first.length + 1) * 24 ≤ 140737488355328) :
    Calls Tryd.prog 3 #[.agg #[.int .i64 X, fv, sv]] w fun e w' => e = .returned (.bool true) ∧ Below w.heap.size w w' := by
  obtain ⟨i0, hi, hz0, hz1, hz2⟩ := info_parts Tryd.info27
  have hbx := boxed_new w #[.int .i64 X, fv, sv] 25
  have hb0 := below_new w (.cells #[.int .i64 X, fv, sv] 25)
  obtain ⟨fa, fcap, fg, foff, hfe, hfn, hfa, hfc⟩ := hfv
  obtain ⟨N, hN⟩ : ∃ N, N = first.length := ⟨_, rfl⟩
  rw [← hN] at hfe hfn hfa hfl
  have HN : Hid (N = first.length) := hN
  have HFV : Hid (SecsIn w fv first) := ⟨fa, fcap, fg, foff, by rw [← hN]; exact hfe, by rw [← hN]; exact hfn, by rw [← hN]; exact hfa, hfc⟩
  subst hfe
  clear hN hfc
  -- W: the box; W2: last's own variable
  obtain ⟨W, hW⟩ : ∃ W, W = w.alloc (.cells #[.int .i64 X, .slice fa N fcap, sv] 25) := ⟨_, rfl⟩
  obtain ⟨W2, hW2⟩ : ∃ W2, W2 = W.alloc (.cells #[.int .i64 (-7), .string { data := #[98, 101, 104, 105, 110, 100] }] 27) := ⟨_, rfl⟩
  rw [← hW] at hbx hb0
  have hb2 : Below W.heap.size W W2 := by rw [hW2]; exact below_new _ _
  have HW : Hid (W = w.alloc (.cells #[.int .i64 X, .slice fa N fcap, sv] 25)) := hW
  have HW2 : Hid (W2 = W.alloc (.cells #[.int .i64 (-7), .string { data := #[98, 101, 104, 105, 110, 100] }] 27)) := hW2
  have HBX : Hid (Boxed w.heap.size [.int .i64 X, .slice fa N fcap, sv] W) := hbx
  have HBL : Hid (Boxed W.heap.size [.int .i64 (-7), .string { data := #[98, 101, 104, 105, 110, 100] }] W2) := by rw [hW2]; exact boxed_new W #[.int .i64 (-7), .string { data := #[98, 101, 104, 105, 110, 100] }] 27
  have HB2 : Hid (Below w.heap.size w W2) := Below.next hb0 hb2
  have HBX2 : Hid (Boxed w.heap.size [.int .i64 X, .slice fa N fcap, sv] W2) := hbx.below hb2
  have HE2 : Hid (ErrsB base A W2) := hE.up HB2.out
  have c0 : W2.cell? ⟨w.heap.size, 0, none⟩ = some (.int .i64 X) := HBX2.out.2 0 (by simp)
  have c1 : W2.cell? ⟨w.heap.size, 1, none⟩ = some (.slice fa N fcap) := HBX2.out.2 1 (by simp)
  have l0 : W2.cell? ⟨W.heap.size, 0, none⟩ = some (.int .i64 (-7)) := HBL.out.2 0 (by simp)
  have l1 : W2.cell? ⟨W.heap.size, 1, none⟩ = some (.string { data := #[98, 101, 104, 105, 110, 100] }) := HBL.out.2 1 (by simp)
  have HSC : Hid (∀ w', Below w.heap.size w w' → Calls Tryd.prog 9 #[.slice fa N fcap] w' fun e w'' => ∃ v', e = .returned v' ∧ w''.ownsRow w'.heap.size 27 2 v' first.length (secCells first) ∧ Below w'.heap.size w' w'') := fun w' hb' => sectors_any first _ w' (HFV.out.keep hb')
  clear hbx hb0 hb2 hE
  rw [hW2, hW] at c0 c1 l0 l1
  clear hW hW2
  have HWS : Hid (W.heap.size = w.heap.size + 1) := by rw [HW.out]; simp [Hid]
  go_enter Tryd.func3, Tryd.ntmps3
  go_wp2_with fail
  rw [← HW.out, ← HW2.out]
  refine (HSC.out W2 HB2.out).mono ?_
  rintro e w3 ⟨v3, rfl, hv3, hb3⟩
  rw [← HN.out] at hv3
  obtain ⟨a3, q3, rfl, -⟩ := owns_form hv3
  have k0 : w3.cell? ⟨w.heap.size, 0, none⟩ = some (.int .i64 X) := (HBX2.out.below hb3).2 0 (by simp)
  have k1 : w3.cell? ⟨w.heap.size, 1, none⟩ = some (.slice fa N fcap) := (HBX2.out.below hb3).2 1 (by simp)
  have m0 : w3.cell? ⟨w.heap.size + 1, 0, none⟩ = some (.int .i64 (-7)) := by rw [← HWS.out]; exact (HBL.out.below hb3).2 0 (by simp)
  have m1 : w3.cell? ⟨w.heap.size + 1, 1, none⟩ = some (.string { data := #[98, 101, 104, 105, 110, 100] }) := by rw [← HWS.out]; exact (HBL.out.below hb3).2 1 (by simp)
  have HB3 := Hid.mk'' hb3
  clear c0 c1 l0 l1 hb3
  go_wp2_with (first
    | (at_builtin; refine wpList_append_lies _ rfl _ _ 22 rfl W2.heap.size 27 i0 (.agg #[.int .i64 0, .string ⟨#[]⟩]) 2 24 Tryd.underlying22 hi hz0 hz1 hz2 rfl (by decide) _ _ _ rfl (hv3.alloc _) ⟨w3.heap.size, 0, none⟩ 1 1 [.int .i64 (-7), .string { data := #[98, 101, 104, 105, 110, 100] }] rfl rfl ?c1 ?c2 ?c3 ?c4 ?c5 ?c6 (w3.heap.size + 1) ?c7 ?_))
  case c1 => exact World.news_of_block (heap_alloc_new _ _)
  case c2 => intro u hu; simp at hu; rcases hu with rfl | rfl <;> rfl
  case c3 => decide
  case c4 => unfold maxLen; omega
  case c5 => omega
  case c6 => have := HB3.out.size; simp; omega
  case c7 => simp
  intro g cap w4 hown4 hgrow4 hat4 hlg4
  have hb4 : Below W2.heap.size W2 w4 := (HB3.out.alloc (by have := HB3.out.size; omega) _).grown hgrow4 (by have := HB3.out.size; simp; omega) (fun j hj => (hv3.lt j hj).1)
  have HCL : Hid ((secCells first).length = N * 2) := by show _ = _; rw [secCells_len, ← HN.out]
  have r0 : w4.cell? ⟨g, N * 2, none⟩ = some (.int .i64 (-7)) := owns_cell hown4 rfl (N * 2) _ (by rw [List.getElem?_append_right (by rw [HCL.out]; omega), HCL.out, Nat.sub_self]; rfl)
  have r1 : w4.cell? ⟨g, N * 2 + 1, none⟩ = some (.string { data := #[98, 101, 104, 105, 110, 100] }) := owns_cell hown4 rfl (N * 2 + 1) _ (by rw [List.getElem?_append_right (by rw [HCL.out]; omega), HCL.out, Nat.add_sub_cancel_left]; rfl)
  obtain ⟨hcap, HGB⟩ : N + 1 ≤ cap ∧ Hid (W2.heap.size ≤ g ∧ ∃ cur : Array Value, w4.heap[g]? = some (.cells cur 27 (0, 0)) ∧ (N + 1) * 2 ≤ cur.size) := by
    rcases hown4.2 with ⟨h', _⟩ | ⟨g', cap', cur, h', q1, q2, q3, q4, q5, q6⟩
    · cases h'
    · simp only [Value.slice.injEq, Option.some.injEq, Addr.mk.injEq, and_true, true_and] at h'
      obtain ⟨rfl, rfl⟩ := h'
      refine ⟨q3, q1, cur, q2, ?_⟩
      have := congrArg List.length q6
      rw [List.length_take, List.length_append, HCL.out] at this
      simp at this
      omega
  have HROW : Hid (w4.ownsRow 0 27 2 (.slice (some ⟨g, 0, none⟩) N cap) N (secCells first)) := by
    have h := owns_head hown4 HCL.out
    exact ⟨h.1, h.2.imp id fun ⟨g, cap, cur, q1, _, q3⟩ => ⟨g, cap, cur, q1, Nat.zero_le _, q3⟩⟩
  have k0' : w4.cell? ⟨w.heap.size, 0, none⟩ = some (.int .i64 X) := (HBX2.out.below hb4).2 0 (by simp)
  have k1' : w4.cell? ⟨w.heap.size, 1, none⟩ = some (.slice fa N fcap) := (HBX2.out.below hb4).2 1 (by simp)
  have m0' : w4.cell? ⟨w.heap.size + 1, 0, none⟩ = some (.int .i64 (-7)) := by rw [← HWS.out]; exact (HBL.out.below hb4).2 0 (by simp)
  have m1' : w4.cell? ⟨w.heap.size + 1, 1, none⟩ = some (.string { data := #[98, 101, 104, 105, 110, 100] }) := by rw [← HWS.out]; exact (HBL.out.below hb4).2 1 (by simp)
  have HB4 : Hid (Below w.heap.size w w4) := Below.next HB2.out hb4
  have HE4 : Hid (ErrsB base A w4) := HE2.out.up hb4
  have HFI : Hid (SecsIn w4 (.slice fa N fcap) first) := HFV.out.keep HB4.out
  have HFU : Hid (SecsIn w4 (.slice (some ⟨g, 0, none⟩) N cap) first) := secsIn_own (by rw [← HN.out]; exact HROW.out) (by rw [← HN.out]; exact hfn)
  have HOP : Hid (∀ w', Below w4.heap.size w4 w' → Calls Tryd.prog 10 #[.int .i64 X, .slice (some ⟨g, 0, none⟩) N cap] w' (OpenPost A w' X first)) := fun w' hb' => open_any base A X first _ w' (HE4.out.up hb') (by rw [← HN.out]; exact owns_below HROW.out hb') (by rw [← HN.out]; exact hfn)
  have HRO : Hid (∀ w' v, SecsIn w' v first → Calls Tryd.prog 11 #[.int .i64 X, v] w' (ROpenPost w' X first)) := fun w' v hv' => ropen_any X first v w' hv'
  have HSM : Hid (∀ w', Below w4.heap.size w4 w' → Calls Tryd.prog 13 #[.slice (some ⟨g, 0, none⟩) N cap, .slice fa N fcap] w' fun e w'' => e = .returned (.bool true) ∧ Below w'.heap.size w' w'') := fun w' hb' => sames_any first _ _ w' (HFU.out.keep hb') (HFI.out.keep hb')
  have HSC4 : Hid (∀ w', Below w4.heap.size w4 w' → Calls Tryd.prog 9 #[.slice fa N fcap] w' fun e w'' => ∃ v', e = .returned v' ∧ w''.ownsRow w'.heap.size 27 2 v' N (secCells first) ∧ Below w'.heap.size w' w'') := fun w' hb' => by
    have := sectors_any first _ w' (HFI.out.keep hb')
    rw [← HN.out] at this
    exact this
  have HNU : Hid (∀ w' (c : Nat), Below w4.heap.size w4 w' → c = 0 ∨ c = 1 ∨ c = 3 ∨ c = 8 → Calls Tryd.prog 12 #[errV A c] w' fun e w'' => e = .returned (.int .i64 (c : Int)) ∧ w' = w'') := fun w' c hb' hc => num_any A w' (HE4.out.up hb').at' c hc
  have HSI : Hid (∀ (w' : World) (n : Nat) v, w'.ownsRow n 27 2 v N (secCells first) → SecsIn w' v first) := fun w' n v h => secsIn_own (by rw [← HN.out]; exact h) (by rw [← HN.out]; exact hfn)
  have e1 : errV A 1 = .iface 134 (.pointer (some (A 0))) := rfl
  have e0 : errV A 0 = .nilIface := rfl
  have j0 : (0 : Int) ≤ (N : Int) := Int.natCast_nonneg _
  have j1 : (N : Int) ≤ (cap : Int) := by omega
  have j2 : (N : Int) < (N : Int) + 1 := by omega
  clear k0 k1 m0 m1 hown4 hgrow4 hat4 hlg4 hb4 hv3 HB3 HSC HFV HE2 HBX2 HBL HBX HB2 hi hz0 hz1 hz2 hfa
  go_wp2_with fail
  cases hO : opens (newDev X).size 0 first
  · have HO1 : Hid (∀ w', Below w4.heap.size w4 w' → Calls Tryd.prog 10 #[.int .i64 X, .slice (some ⟨g, 0, none⟩) N cap] w' fun e w'' => e = .returned (.tuple #[.pointer none, .iface 134 (.pointer (some (A 0)))]) ∧ Below w4.heap.size w4 w'') := fun w' hb' => (HOP.out w' hb').mono fun e w'' h => by
      rcases h with ⟨ho, _⟩ | ⟨_, he, hb⟩
      · rw [hO] at ho; cases ho
      · exact ⟨he, Below.next hb' hb⟩
    go_region_held (fun w' => w'.cell? ⟨w.heap.size, 0, none⟩ = some (.int .i64 X)) (go_keep)
      (first
        | (go_at_call 10; refine (HO1.out _ ?_).mono ?_; (first | exact bdrew (Below.refl _ _) | exact Below.refl _ _); rintro e w5 ⟨rfl, hb5⟩; have p0 := cell_below hb5 k0'))
    have p1 := cell_below hb5 k1'
    have HR1 : Hid (∀ w' v, SecsIn w' v first → Calls Tryd.prog 11 #[.int .i64 X, v] w' fun e w'' => e = .returned (.tuple #[.pointer none, .int .i64 1]) ∧ Below w'.heap.size w' w'') := fun w' v hv' => (HRO.out w' v hv').mono fun e w'' h => by
      rcases h with ⟨ho, _⟩ | ⟨_, he, hb⟩
      · rw [hO] at ho; cases ho
      · exact ⟨he, hb⟩
    have HN1 : Hid (∀ w', Below w4.heap.size w4 w' → Calls Tryd.prog 12 #[.iface 134 (.pointer (some (A 0)))] w' fun e w'' => e = .returned (.int .i64 1) ∧ w' = w'') := fun w' hb' => HNU.out w' 1 hb' (.inr (.inl rfl))
    go_wp2_with fail
    go_region_held (fun w' => w'.cell? ⟨w.heap.size, 0, none⟩ = some (.int .i64 X) ∧ w'.cell? ⟨w.heap.size, 1, none⟩ = some (.slice fa N fcap)) (go_keep)
      (first
        | (go_at_call 9; refine (HSC4.out _ ?_).mono ?_; (first | exact bdrew hb5 | exact hb5); rintro e w6 ⟨v6, rfl, hv6, hbd6⟩; have hb6 : Below w4.heap.size w4 w6 := Below.next hb5 (undrew hbd6); have HSV := Hid.mk'' (HSI.out w6 _ v6 hv6); obtain ⟨a6, q6, rfl, -⟩ := owns_form hv6; clear hbd6 hv6; have u0 := cell_below hb6 k0'; have u1 := cell_below hb6 k1')
        | (go_at_call 11; refine (HR1.out _ _ ?_).mono ?_; (first | exact HSV.out | exact HSV.out.keep (bdrew (Below.refl _ _))); rintro e w7 ⟨rfl, hbd7⟩; have hb7 : Below w4.heap.size w4 w7 := Below.next hb6 (by first | exact hbd7 | exact undrew hbd7); clear hbd7; have y0 := cell_below hb7 k0'; have y1 := cell_below hb7 k1'))
    have z0 := cell_below hb7 r0
    have z1 := cell_below hb7 r1
    have n0 := cell_below hb7 m0'
    have n1 := cell_below hb7 m1'
    have HB7 := Hid.mk'' hb7
    clear u0 u1 p0 p1 k0' k1' r0 r1 m0' m1' hb5 hb6 hb7 HSV HR1 HO1 HOP HRO HSC4 HSI
    have qa : ∀ w, (binOp .eql 29 (.pointer none) (.pointer none)).run Tryd.prog w = .ok (.bool true) w := fun w => run_eql_pointer_nil (P := Tryd.prog) w 29 none Tryd.underlying29
    have qb : ∀ w, (binOp .eql 34 (.pointer none) (.pointer none)).run Tryd.prog w = .ok (.bool true) w := fun w => run_eql_pointer_nil (P := Tryd.prog) w 34 none Tryd.underlying34
    go_wp2_with fail
    have y7 := Hid.mk'' y0
    go_region_held (fun w' => w'.cell? ⟨w.heap.size, 1, none⟩ = some (.slice fa N fcap) ∧ w'.cell? ⟨g, N * 2, none⟩ = some (.int .i64 (-7)) ∧ w'.cell? ⟨g, N * 2 + 1, none⟩ = some (.string { data := #[98, 101, 104, 105, 110, 100] }) ∧ w'.cell? ⟨w.heap.size + 1, 0, none⟩ = some (.int .i64 (-7)) ∧ w'.cell? ⟨w.heap.size + 1, 1, none⟩ = some (.string { data := #[98, 101, 104, 105, 110, 100] })) (go_keep)
      (first
        | (go_at_call 12; refine (HN1.out _ ?_).mono ?_; (first | exact bdrew HB7.out | exact HB7.out); rintro e w8 ⟨rfl, rfl⟩)
        | (go_at_call 13; refine (HSM.out _ ?_).mono ?_; (first | exact bdrew HB7.out | exact HB7.out); rintro e w9 ⟨rfl, hbd9⟩; have hb9 : Below w7.heap.size w7 w9 := (by first | exact hbd9 | exact undrew hbd9); clear hbd9; have s1 := cell_below hb9 y1; have s2 := cell_below hb9 z0; have s3 := cell_below hb9 z1; have s4 := cell_below hb9 n0; have s5 := cell_below hb9 n1))
    have v0 := cell_below hb9 y7.out
    have HB9 := Hid.mk'' (Below.next HB7.out hb9)
    clear s1 s2 s3 s4 s5 y7 hb9 HB7 HN1 HSM HNU HGB
    go_wp2_with fail
    refine (new_any X w9).mono ?_
    rintro e wa ⟨pb, PF, rfl, hda, hba, hfa⟩
    have v1 := cell_below hba v0
    have HBA := Hid.mk'' (Below.next HB9.out hba)
    clear hba v0 HB9 hfa
    go_wp2_with fail
    refine (rnew_any X wa).mono ?_
    rintro e wb ⟨rb, RF, rfl, hra, hbb, hfb⟩
    have HL := Hid.mk'' (looks_any pb rb PF RF (newDev X) (newDev X) wb (hda.below hbb) hra rfl rfl rfl rfl (by simp [newDev]))
    have HBB := Hid.mk'' (Below.next HBA.out hbb)
    have qc : ∀ w, (binOp .eql 29 (.pointer (some ⟨pb, 0, none⟩)) (.pointer none)).run Tryd.prog w = .ok (.bool false) w := fun w => run_eql_pointer_nil (P := Tryd.prog) w 29 (some ⟨pb, 0, none⟩) Tryd.underlying29
    clear hda hra hbb hfb HBA v1
    go_wp2_with fail
    refine HL.out.mono ?_
    rintro e wc ⟨rfl, hbc⟩
    have HBC := Hid.mk'' (Below.next HBB.out hbc)
    clear hbc HL HBB
    go_wp2_with fail
    go_ret
    exact ⟨rfl, Below.next HB4.out HBC.out⟩
  · obtain ⟨D, hD⟩ : ∃ D : Dev, D = { newDev X with dur := openD first } := ⟨_, rfl⟩
    have HD : Hid (D = { newDev X with dur := openD first }) := hD
    have HGL : Hid (g < w4.heap.size) := by
      obtain ⟨_, cur, hc, _⟩ := HGB.out
      exact (Array.getElem?_eq_some_iff.1 hc).1
    have HO1 : Hid (∀ w', Below w4.heap.size w4 w' → Calls Tryd.prog 10 #[.int .i64 X, .slice (some ⟨g, 0, none⟩) N cap] w' fun e w'' => ∃ ab AF, e = .returned (.tuple #[.pointer (some ⟨ab, 0, none⟩), .nilIface]) ∧ DevAt w'' ab AF D ∧ Below w4.heap.size w4 w'' ∧ ∀ k, AF k → w4.heap.size ≤ k) := fun w' hb' => (HOP.out w' hb').mono fun e w'' h => by
      rcases h with ⟨_, ab, AF, he, hd, hb, hf⟩ | ⟨ho, _⟩
      · exact ⟨ab, AF, he, by rw [HD.out]; exact hd, Below.next hb' hb, fun k hk => Nat.le_trans hb'.size (hf k hk)⟩
      · rw [hO] at ho; cases ho
    have HR1 : Hid (∀ w' v, SecsIn w' v first → Below w4.heap.size w4 w' → Calls Tryd.prog 11 #[.int .i64 X, v] w' fun e w'' => ∃ rb RF, e = .returned (.tuple #[.pointer (some ⟨rb, 0, none⟩), .int .i64 0]) ∧ RAt w'' rb RF D ∧ Below w'.heap.size w' w'' ∧ ∀ k, RF k → w4.heap.size ≤ k) := fun w' v hv' hb' => (HRO.out w' v hv').mono fun e w'' h => by
      rcases h with ⟨_, rb, RF, he, hd, hb, hf⟩ | ⟨ho, _⟩
      · exact ⟨rb, RF, he, by rw [HD.out]; exact hd, hb, fun k hk => Nat.le_trans hb'.size (hf k hk)⟩
      · rw [hO] at ho; cases ho
    clear hD
    go_region_held (fun w' => w'.cell? ⟨w.heap.size, 0, none⟩ = some (.int .i64 X)) (go_keep)
      (first
        | (go_at_call 10; refine (HO1.out _ ?_).mono ?_; (first | exact bdrew (Below.refl _ _) | exact Below.refl _ _); rintro e w5 ⟨ab, AF, rfl, hd5, hb5, hf5⟩; have HD5 := Hid.mk'' hd5; have HF5 := Hid.mk'' hf5; clear hd5 hf5; have p0 := cell_below hb5 k0'))
    have p1 := cell_below hb5 k1'
    have HN1 : Hid (∀ w', Below w4.heap.size w4 w' → Calls Tryd.prog 12 #[.nilIface] w' fun e w'' => e = .returned (.int .i64 0) ∧ w' = w'') := fun w' hb' => HNU.out w' 0 hb' (.inl rfl)
    go_wp2_with fail
    go_region_held (fun w' => w'.cell? ⟨w.heap.size, 0, none⟩ = some (.int .i64 X) ∧ w'.cell? ⟨w.heap.size, 1, none⟩ = some (.slice fa N fcap)) (go_keep)
      (first
        | (go_at_call 9; refine (HSC4.out _ ?_).mono ?_; (first | exact bdrew hb5 | exact hb5); rintro e w6 ⟨v6, rfl, hv6, hbd6⟩; have hb6 : Below w4.heap.size w4 w6 := Below.next hb5 (undrew hbd6); have HD6 := Hid.mk'' (HD5.out.below (undrew hbd6)); have HSV := Hid.mk'' (HSI.out w6 _ v6 hv6); obtain ⟨a6, q6, rfl, -⟩ := owns_form hv6; clear hbd6 hv6; have u0 := cell_below hb6 k0'; have u1 := cell_below hb6 k1')
        | (go_at_call 11; refine (HR1.out _ _ ?_ ?_).mono ?_; (first | exact HSV.out | exact HSV.out.keep (bdrew (Below.refl _ _))); (first | exact bdrew hb6 | exact hb6); rintro e w7 ⟨rb, RF, rfl, hr7, hbd7, hf7⟩; have hb67 : Below w6.heap.size w6 w7 := (by first | exact hbd7 | exact undrew hbd7); have hb7 : Below w4.heap.size w4 w7 := Below.next hb6 hb67; have HD7 := Hid.mk'' (HD6.out.below hb67); have HR7 := Hid.mk'' hr7; have HF7 := Hid.mk'' hf7; clear hbd7 hb67 hr7 hf7; have y0 := cell_below hb7 k0'; have y1 := cell_below hb7 k1'))
    have z0 := cell_below hb7 r0
    have z1 := cell_below hb7 r1
    have n0 := cell_below hb7 m0'
    have n1 := cell_below hb7 m1'
    have HB7 := Hid.mk'' hb7
    clear u0 u1 p0 p1 k0' k1' r0 r1 m0' m1' hb5 hb6 hb7 HSV HR1 HO1 HOP HRO HSC4 HSI HD5 HD6
    have qa : ∀ w, (binOp .eql 29 (.pointer (some ⟨ab, 0, none⟩)) (.pointer none)).run Tryd.prog w = .ok (.bool false) w := fun w => run_eql_pointer_nil (P := Tryd.prog) w 29 (some ⟨ab, 0, none⟩) Tryd.underlying29
    have qb : ∀ w, (binOp .eql 34 (.pointer (some ⟨rb, 0, none⟩)) (.pointer none)).run Tryd.prog w = .ok (.bool false) w := fun w => run_eql_pointer_nil (P := Tryd.prog) w 34 (some ⟨rb, 0, none⟩) Tryd.underlying34
    go_wp2_with fail
    have y7 := Hid.mk'' y0
    go_region_held (fun w' => w'.cell? ⟨w.heap.size, 1, none⟩ = some (.slice fa N fcap) ∧ w'.cell? ⟨g, N * 2, none⟩ = some (.int .i64 (-7)) ∧ w'.cell? ⟨g, N * 2 + 1, none⟩ = some (.string { data := #[98, 101, 104, 105, 110, 100] }) ∧ w'.cell? ⟨w.heap.size + 1, 0, none⟩ = some (.int .i64 (-7)) ∧ w'.cell? ⟨w.heap.size + 1, 1, none⟩ = some (.string { data := #[98, 101, 104, 105, 110, 100] })) (go_keep)
      (first
        | (go_at_call 12; refine (HN1.out _ ?_).mono ?_; (first | exact bdrew HB7.out | exact HB7.out); rintro e w8 ⟨rfl, rfl⟩)
        | (go_at_call 13; refine (HSM.out _ ?_).mono ?_; (first | exact bdrew HB7.out | exact HB7.out); rintro e w9 ⟨rfl, hbd9⟩; have hb9 : Below w7.heap.size w7 w9 := (by first | exact hbd9 | exact undrew hbd9); clear hbd9; have s1 := cell_below hb9 y1; have s2 := cell_below hb9 z0; have s3 := cell_below hb9 z1; have s4 := cell_below hb9 n0; have s5 := cell_below hb9 n1))
    have v0 := cell_below hb9 y7.out
    have HB9 := Hid.mk'' (Below.next HB7.out hb9)
    have HD9 := Hid.mk'' (HD7.out.below hb9)
    have HR9 := Hid.mk'' (HR7.out.below hb9)
    clear s1 s2 s3 s4 s5 y7 hb9 HB7 HN1 HSM HNU HD7 HR7
    go_wp2_with fail
    refine (new_any X w9).mono ?_
    rintro e wa ⟨pb, PF, rfl, hda, hba, hfa⟩
    have v1 := cell_below hba v0
    have HBA := Hid.mk'' hba
    clear hba v0 hfa
    go_wp2_with fail
    refine (rnew_any X wa).mono ?_
    rintro e wb ⟨rb2, RF2, rfl, hra, hbb, hfb⟩
    have HL := Hid.mk'' (looks_any pb rb2 PF RF2 (newDev X) (newDev X) wb (hda.below hbb) hra rfl rfl rfl rfl (by simp [newDev]))
    have HBB := Hid.mk'' (Below.next HBA.out hbb)
    have qc : ∀ w, (binOp .eql 29 (.pointer (some ⟨pb, 0, none⟩)) (.pointer none)).run Tryd.prog w = .ok (.bool false) w := fun w => run_eql_pointer_nil (P := Tryd.prog) w 29 (some ⟨pb, 0, none⟩) Tryd.underlying29
    clear hda hra hbb hfb HBA v1
    go_wp2_with fail
    refine HL.out.mono ?_
    rintro e wc ⟨rfl, hbc⟩
    have HBC := Hid.mk'' (Below.next HBB.out hbc)
    have HDC := Hid.mk'' (HD9.out.below HBC.out)
    have HRC := Hid.mk'' (HR9.out.below HBC.out)
    have HB : Hid (Below w.heap.size w wc) := Below.next HB4.out (Below.next HB9.out HBC.out)
    have HG : Hid (∃ cur : Array Value, wc.heap[g]? = some (.cells cur 27 (0, 0)) ∧ (N + 1) * 2 ≤ cur.size) := by
      obtain ⟨_, cur, h1, h2⟩ := HGB.out
      exact ⟨cur, ((Below.next HB9.out HBC.out).block g HGL.out).trans h1, h2⟩
    have HGW : Hid (w.heap.size < g) := by
      have h1 := HGB.out.1
      have h2 : W.heap.size < W2.heap.size := by rw [HW2.out]; simp
      have h3 := HWS.out
      show _ < _
      omega
    have HNA : Hid (∀ k, AF k → ¬ k = g) := fun k hk e => by have := HF5.out k hk; have := HGL.out; omega
    have HNR : Hid (∀ k, RF k → ¬ k = g) := fun k hk e => by have := HF7.out k hk; have := HGL.out; omega
    clear hbc HL HBB HBC HD9 HR9 HB9 HGB HF5 HF7
    go_wp2_with fail
    go_loopw [12] (fun i wr => ∃ k : Nat, k ≤ N ∧ i = .int .i64 (k : Int) ∧ DevAt wr ab AF D ∧ RAt wr rb RF D ∧ Below w.heap.size w wr ∧ ∃ cur : Array Value, wr.heap[g]? = some (.cells cur 27 (0, 0)) ∧ (N + 1) * 2 ≤ cur.size) (fun i _ => N - (intOf i).toNat)
    case atStart => exact ⟨0, Nat.zero_le _, rfl, HDC.out, HRC.out, HB.out, HG.out⟩
    case round =>
      obtain ⟨k, hk, rfl, hd, hr, hb, cur, hg, hs⟩ := hrel
      have HD1 := Hid.mk'' hd
      have HR1 := Hid.mk'' hr
      have HB1 := Hid.mk'' hb
      have HG1 := Hid.mk'' hg
      clear HDC HRC HB HG hd hr hb
      by_cases hlt : k < N
      · have k0 : (0 : Int) ≤ (k : Int) := Int.natCast_nonneg _
        have k1 : (k : Int) < (N : Int) := by omega
        have k2 : (k : Int) < (N : Int) + 1 := by omega
        have c0 : wr.cell? ⟨g, k * 2, none⟩ = some (cur[k * 2]'(by omega)) := (cell_of_row wr g (k * 2) _ _ _ hg).trans (Array.getElem?_eq_getElem (by omega))
        have c1 : wr.cell? ⟨g, k * 2 + 1, none⟩ = some (cur[k * 2 + 1]'(by omega)) := (cell_of_row wr g (k * 2 + 1) _ _ _ hg).trans (Array.getElem?_eq_getElem (by omega))
        have f0 : wr.frozen? ⟨g, k * 2, none⟩ = false := frozen_row hg
        have f1 : wr.frozen? ⟨g, k * 2 + 1, none⟩ = false := frozen_row hg
        clear hg
        go_wp2_with fail
        have hst := (step_set (w := wr) (g := g) (j := k * 2) (v := .int .i64 (k : Int))).trans (step_set (g := g) (j := k * 2 + 1) (v := .string { data := #[115, 112, 111, 105, 108, 116] }))
        refine ⟨⟨k + 1, by omega, by simp, HD1.out.keep hst HNA.out, HR1.out.keep hst HNR.out, below_set (below_set HB1.out (by have := HGW.out; omega)) (by have := HGW.out; omega), _, set_row (set_row HG1.out), by simpa using hs⟩, ?_⟩
        simp only [intOf]
        omega
      · have k1 : ¬ (k : Int) < (N : Int) := by omega
        have HL1 := Hid.mk'' (looks_any ab rb AF RF D D wr HD1.out HR1.out rfl rfl rfl rfl (by rw [HD.out]; simp [newDev]))
        clear hg
        go_wp2_with fail
        go_wp2_with fail
        refine HL1.out.mono ?_
        rintro e wd ⟨rfl, hbd⟩
        have HBD := Hid.mk'' (Below.next HB1.out hbd)
        clear hbd HL1
        go_wp2_with fail
        go_ret
        exact ⟨rfl, HBD.out⟩

end Go.Proofs.YtdieacdkomiooaaDoor
