import Derived.Test.YtdieacdkomiooabDoorM8
namespace Go.Proofs.YtdieacdkomiooabDoor
open Go.RowKit Go.Maps

theorem zeroI (w : World) : (zeroValue 3).run Tryd.prog w = .ok (.int .i64 0) w := by kernel_rfl
theorem zinfo : (Tryd.prog.info? 104).map (fun i => (i.zero, i.size)) = some (some (.agg Tryd.zeroCells104), 512) := by kernel_rfl
theorem zeroA (w : World) : (zeroValue 104).run Tryd.prog w = .ok (arr zsec) w := by
  have h := (zero_of_info zinfo).1 w
  rw [zc] at h
  rw [h, arr, zsec, bl_mkb]
theorem wpList_store_eq {P : Program} {ops : Array Oper} {rest : List Oper} {op : Oper} {a : Act} {w w' : World} {Q : Exit → Act → World → Prop} (hgd : op.guard = none) (ty : TypeId) (x y : Operand) (ho : op.op = .store ty x y)
    (p v : Value) (hx : a.eval x = p) (hy : a.eval y = v) (hrun : (Instr.storeAt ty p v).run P w = .ok () w') (h : wpList P ops Q rest (a.put op.dst undef) w') : wpList P ops Q (op :: rest) a w :=
  wpList_plain hgd fun _ hK => by
    unfold Oper.wp execOp
    simp only [ho, hx, hy, Sem.run_bind, hrun, Result.andThen_ok, Sem.run_pure]
    exact hK _ _ h
theorem zstore (w : World) (t : ByteArray) (ht : t.size = 512) : (Instr.storeAt 104 (.pointer (some ⟨w.heap.size, 0, none⟩)) (arr t)).run Tryd.prog (w.alloc (.cells Tryd.zeroCells104 104)) = .ok () (w.alloc (.cells (u8s (bl t)).toArray 104)) :=
  run_storeAt_new w 104 Tryd.zeroCells104 (u8s (bl t)).toArray (by rw [sizeArr, List.size_toArray, u8s_length, bl_len, ht]) (by rw [zc, List.size_toArray, List.size_toArray, u8s_length, u8s_length, zeros_len, bl_len, ht]) (all_oneCell_toArray (u8s_one _))
theorem u8_splice (pre mid post new : List UInt8) (h : mid.length = new.length) : ((u8s (pre ++ mid ++ post)).toArray.toList.take pre.length ++ u8s new ++ (u8s (pre ++ mid ++ post)).toArray.toList.drop (pre.length + new.length)).toArray = (u8s (pre ++ new ++ post)).toArray := by
  congr 1
  rw [List.append_assoc pre mid post, u8s_append, u8s_append, u8s_append, u8s_append, ← h]
  have e1 : List.take pre.length (u8s pre ++ (u8s mid ++ u8s post)) = u8s pre := by
    rw [List.take_append_of_le_length (by rw [u8s_length]; omega), List.take_of_length_le (by rw [u8s_length]; omega)]
  have e2 : List.drop (pre.length + mid.length) (u8s pre ++ (u8s mid ++ u8s post)) = u8s post := by
    rw [← List.append_assoc, List.drop_append, List.drop_of_length_le (by rw [List.length_append, u8s_length, u8s_length]; omega), List.length_append, u8s_length, u8s_length]
    simp
  rw [e1, e2]
theorem find_any {l : List Sec} {i : Int} : (l.any fun x => decide (x.ix = i)) = (l.find? fun x => decide (x.ix = i)).isSome := by
  induction l with
  | nil => rfl
  | cons x r ih =>
    by_cases h : x.ix = i
    · simp [h]
    · simp [h, ih]
/-- A row of bytes of the call's own. -/
def RowB (w : World) (g : Nat) (l : List UInt8) : Prop := w.heap[g]? = some (.cells (u8s l).toArray 5 (0, 0))

theorem copy_str (w : World) (g : Nat) (pre mid post : List UInt8) (t : ByteArray) (L C : Nat) (hr : RowB w g (pre ++ mid ++ post)) (hm : mid.length = 512) (ht : t.size = 512) (hL : 512 ≤ L) :
    ∃ w2, (Builtin.copy_ #[36, 9] 3 #[.slice (some ⟨g, pre.length, none⟩) L C, .string t]).run Tryd.prog w = .ok (goInt t.size) w2 ∧ RowB w2 g (pre ++ bl t ++ post) ∧ w.grownBy w2 (some g) := by
  have hrun := Lib.run_copy_row_string (P := Tryd.prog) w 36 9 3 5 g pre.length L C t _ 5 Tryd.underlying36 size5 hr (by omega) (by rw [List.size_toArray, u8s_length, List.length_append, List.length_append]; omega)
  have e := u8_splice pre mid post (bl t) (by rw [bl_len]; omega)
  rw [bl_len] at e
  rw [byteCells_u8s, show t.data.toList = bl t from rfl, e] at hrun
  refine ⟨_, hrun, setRow_heap _ g _ _ 5 _ hr, ?_⟩
  exact ⟨rfl, rfl, rfl, by simp [World.setRow], fun k _ hn => by
    have : g ≠ k := fun e => hn (by rw [e])
    simp [World.setRow, Array.getElem?_modify, this]⟩
theorem copy_arr (w : World) (g ga : Nat) (pre mid post : List UInt8) (t : ByteArray) (L C : Nat) (hr : RowB w g (pre ++ mid ++ post)) (ha : w.heap[ga]? = some (.cells (u8s (bl t)).toArray 104 (0, 0))) (hm : mid.length = 512) (ht : t.size = 512) (hL : 512 ≤ L) :
    ∃ w2, (Builtin.copy_ #[36, 36] 3 #[.slice (some ⟨g, pre.length, none⟩) L C, .slice (some ⟨ga, 0, none⟩) 512 512]).run Tryd.prog w = .ok (goInt 512) w2 ∧ RowB w2 g (pre ++ bl t ++ post) ∧ w.grownBy w2 (some g) := by
  have hl : (u8s (bl t)).length = 512 := by rw [u8s_length, bl_len, ht]
  have hrun := run_copy_row (P := Tryd.prog) w 36 36 3 5 g pre.length L C ⟨ga, 0, none⟩ 512 512 _ 5 (u8s (bl t)) Tryd.underlying36 size5 hr (by rw [hl]; exact (Nat.min_eq_left hL).symm)
    (fun j v hv => by
      rw [Addr.add_mid, cell_of_row _ _ _ _ _ _ ha, Nat.zero_add]
      simpa using hv)
    (by rw [hl, List.size_toArray, u8s_length, List.length_append, List.length_append]; omega) (u8s_one _)
  have e := u8_splice pre mid post (bl t) (by rw [bl_len]; omega)
  rw [bl_len, ht] at e
  rw [hl, e] at hrun
  refine ⟨_, hrun, setRow_heap _ g _ _ 5 _ hr, ?_⟩
  exact ⟨rfl, rfl, rfl, by simp [World.setRow], fun k _ hn => by
    have : g ≠ k := fun e => hn (by rw [e])
    simp [World.setRow, Array.getElem?_modify, this]⟩

set_option maxRecDepth 100000 in
set_option maxHeartbeats 800000 in
theorem copys_any (b : Nat) (F : Nat → Prop) (d : Dev) (w : World) (h : DevAt w b F d) (g : Nat) (pre post : List UInt8) (s : Int) (L C : Nat) (hr : RowB w g (pre ++ zeros 512 ++ post)) (hL : 512 ≤ L) (h0 : 0 ≤ s) (h1 : s < 9223372036854775808) :
    Calls Tryd.prog 47 #[.pointer (some ⟨b, 0, none⟩), .slice (some ⟨g, pre.length, none⟩) L C, .int .i64 s] w fun e w' => e = .returned (.tuple #[]) ∧ RowB w' g (pre ++ bl (standing d s) ++ post) ∧ w.grownBy w' (some g) := by
  obtain ⟨mb, nb, pv, av, Dn, h⟩ := h
  have c3 : w.cell? ⟨b, 3, none⟩ = some (.map (some nb)) := h.cell 3
  have hmapN := h.mapN
  have hkey := kkey h0 h1
  obtain ⟨n1, n2⟩ := h.new s
  obtain ⟨off, hoff⟩ : ∃ off, off = pre.length := ⟨_, rfl⟩
  have HOF : Hid (off = pre.length) := hoff
  rw [← hoff]
  clear hoff
  cases hli : lastIx d.pend s with
  | some k =>
    have hhas : Maps.has Dn (.int .i64 s) = true := by rw [n1, hli]; rfl
    have hatk := n2 k hli
    have hkl := lastIx_lt hli
    have c2 : w.cell? ⟨b, 2, none⟩ = some pv := h.cell 2
    have HST : Hid (standing d s = d.pend[k].dat) := by show standing d s = _; unfold standing; rw [hli]; simp [hkl]
    obtain ⟨pa, pc, rfl, hpa⟩ := owns_form h.pend
    obtain ⟨gp, rfl⟩ := hpa (by omega)
    have p1 := owns_cell h.pend rfl _ _ (secCells_get d.pend k hkl).2
    have hsz := (secOk_of h.ok hkl).len
    obtain ⟨D, hD⟩ : ∃ D, D = d.pend[k].dat := ⟨_, rfl⟩
    rw [← hD] at HST p1 hsz
    obtain ⟨P, hP⟩ : ∃ P, P = d.pend.length := ⟨_, rfl⟩
    rw [← hP] at c2 hkl
    obtain ⟨w2, hcp, hrow, hgr⟩ := copy_str w g pre (zeros 512) post D L C hr (zeros_len 512) hsz hL
    rw [← HOF.out] at hcp
    have HRR : Hid (RowB w2 g (pre ++ bl D ++ post) ∧ w.grownBy w2 (some g)) := ⟨hrow, hgr⟩
    rw [HST.out]
    clear h n1 n2 hli hD hP hrow hgr HST hr
    go_enter Tryd.func47, Tryd.ntmps47
    go_wp2_with (first
      | (at_lookup; refine wpList_lookup_own_ok_int _ rfl _ _ 94 rfl 3 3 .i64 klaw Tryd.underlying94 Tryd.underlying3 (zeroI _) nb _ Dn rfl hmapN _ _ rfl hkey ?_; intro c hat hwc; (obtain rfl : c = (k : Int) := by rw [hatk] at hat; simpa using hat.symm); rw [hhas]))
    refine bodyPost_ret (results_none rfl _ _ _) rfl ?_
    exact ⟨rfl, HRR.out⟩
  | none =>
    have hhas : Maps.has Dn (.int .i64 s) = false := by rw [n1, hli]; rfl
    have c1 : w.cell? ⟨b, 1, none⟩ = some (.map (some mb)) := h.cell 1
    have hmapD := h.mapD
    obtain ⟨T, hT⟩ : ∃ T, T = lasting d.dur s := ⟨_, rfl⟩
    have hTs : T.size = 512 := by rw [hT]; exact lasting_size h.ok.dur s
    have hTz : Maps.has (durD d.dur) (.int .i64 s) = false → T = zsec := fun hz => by
      rw [durD_has, find_any] at hz
      rw [hT]; unfold lasting
      cases hf : d.dur.find? (fun x => decide (x.ix = s)) with
      | none => rfl
      | some x => rw [hf] at hz; cases hz
    have hV : ∀ v ps, secR v = some ((durD d.dur).atKey (.int .i64 s) (.lit (.string (bl zsec))), ps) → v = arr T := fun v ps hv => by
      obtain ⟨t, ht, rfl, he⟩ := secR_inv hv
      rw [durD_at] at he
      rw [hT]; unfold lasting
      cases hf : d.dur.find? (fun x => decide (x.ix = s)) with
      | none => rw [hf] at he; simp only [Prod.mk.injEq, DataW.lit.injEq, Lit.string.injEq] at he; rw [bl_inj he.1.symm]
      | some x => rw [hf] at he; simp only [Prod.mk.injEq, DataW.lit.injEq, Lit.string.injEq] at he; rw [bl_inj he.1.symm]
    have HST : Hid (standing d s = T) := by show standing d s = _; unfold standing; rw [hli, hT]
    rw [HST.out]
    have hlt := (Array.getElem?_eq_some_iff.1 hr).1
    have hb2 := below_new w (.cells (u8s (bl T)).toArray 104)
    have hr2 : RowB (w.alloc (.cells (u8s (bl T)).toArray 104)) g (pre ++ zeros 512 ++ post) := (hb2.block g hlt).trans hr
    have hst := zstore w T hTs
    have hnew := heap_alloc_new w (.cells (u8s (bl T)).toArray 104)
    obtain ⟨w2, hcp, hrow, hgr⟩ := copy_arr (w.alloc (.cells (u8s (bl T)).toArray 104)) g w.heap.size pre (zeros 512) post T L C hr2 hnew (zeros_len 512) hTs hL
    rw [← HOF.out] at hcp
    have HRR : Hid (RowB w2 g (pre ++ bl T ++ post) ∧ w.grownBy w2 (some g)) := ⟨hrow, (grown_of_below hb2).trans hgr⟩
    have HR0 : Hid (Maps.has (durD d.dur) (.int .i64 s) = false → RowB (w.alloc (.cells (u8s (bl T)).toArray 104)) g (pre ++ bl T ++ post) ∧ w.grownBy (w.alloc (.cells (u8s (bl T)).toArray 104)) (some g)) := fun hz => ⟨by rw [show pre ++ bl T ++ post = pre ++ zeros 512 ++ post by rw [hTz hz, zsec, bl_mkb]]; exact hr2, grown_of_below hb2⟩
    obtain ⟨cs, hcs⟩ : ∃ cs, cs = (u8s (bl T)).toArray := ⟨_, rfl⟩
    rw [← hcs] at hst hcp HR0
    obtain ⟨V, hVd⟩ : ∃ V, V = arr T := ⟨_, rfl⟩
    rw [← hVd] at hst
    have hV2 : Hid (∀ v ps, secR v = some ((durD d.dur).atKey (.int .i64 s) (.lit (.string (bl zsec))), ps) → v = V) := by rw [hVd]; exact hV
    have tok1 : True := trivial
    generalize hhD : Maps.has (durD d.dur) (.int .i64 s) = hb at HR0
    clear hTz hVd h n1 n2 hli hT hr hV hrow hgr HST hb2 hr2 hnew hTs hcs hlt
    go_enter Tryd.func47, Tryd.ntmps47
    cases hb
    · go_wp2_with (first
        | (at_lookup; have _t := tok1; refine wpList_lookup_own_ok_int _ rfl _ _ 94 rfl 3 3 .i64 klaw Tryd.underlying94 Tryd.underlying3 (zeroI _) nb _ Dn rfl hmapN _ _ rfl hkey ?_; intro c hat hwc; clear tok1 hat hwc; rw [hhas])
        | (at_lookup; refine wpList_lookup_own_ok _ rfl _ _ 93 rfl 3 104 klaw Tryd.underlying93 secR (zeroA _) (.lit (.string (bl zsec))) [] (secR_arr zsec_size) mb _ (durD d.dur) rfl hmapD _ _ rfl hkey ?_; intro v ps hv; (obtain rfl : v = V := hV2.out v ps hv); clear hv; rw [hhD])
        | (refine wpList_store_eq rfl 104 _ _ rfl _ _ rfl rfl hst ?_))
      go_end0
      refine ⟨rfl, ?_⟩
      have r := HR0.out (by first | trivial | rfl)
      rw [List.append_assoc] at r
      exact r
    · go_wp2_with (first
        | (at_lookup; have _t := tok1; refine wpList_lookup_own_ok_int _ rfl _ _ 94 rfl 3 3 .i64 klaw Tryd.underlying94 Tryd.underlying3 (zeroI _) nb _ Dn rfl hmapN _ _ rfl hkey ?_; intro c hat hwc; clear tok1 hat hwc; rw [hhas])
        | (at_lookup; refine wpList_lookup_own_ok _ rfl _ _ 93 rfl 3 104 klaw Tryd.underlying93 secR (zeroA _) (.lit (.string (bl zsec))) [] (secR_arr zsec_size) mb _ (durD d.dur) rfl hmapD _ _ rfl hkey ?_; intro v ps hv; (obtain rfl : v = V := hV2.out v ps hv); clear hv; rw [hhD])
        | (refine wpList_store_eq rfl 104 _ _ rfl _ _ rfl rfl hst ?_))
      go_end0
      exact ⟨rfl, HRR.out⟩

end Go.Proofs.YtdieacdkomiooabDoor
