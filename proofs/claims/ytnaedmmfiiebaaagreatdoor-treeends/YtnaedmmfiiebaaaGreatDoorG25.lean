import Derived.Test.YtnaedmmfiiebaaaGreatDoorG24
namespace Go.Proofs.YtnaedmmfiiebaaaGreatDoor.S.V
open Go.RowKit Go.Maps

theorem zeroI (w : World) : (zeroValue 3).run Tryz.prog w = .ok (.int .i64 0) w := by kernel_rfl
theorem zinfo : (Tryz.prog.info? 144).map (fun i => (i.zero, i.size)) = some (some (.agg Tryz.zeroCells144), 512) := by kernel_rfl
theorem zeroA (w : World) : (zeroValue 144).run Tryz.prog w = .ok (arr zsec) w := by
  have h := (zero_of_info zinfo).1 w
  rw [zc] at h
  rw [h, arr, zsec, bl_mkb]
theorem wpList_store_eq {P : Program} {ops : Array Oper} {rest : List Oper} {op : Oper} {a : Act} {w w' : World} {Q : Exit → Act → World → Prop} (hgd : op.guard = none) (ty : TypeId) (x y : Operand) (ho : op.op = .store ty x y)
    (p v : Value) (hx : a.eval x = p) (hy : a.eval y = v) (hrun : (Instr.storeAt ty p v).run P w = .ok () w') (h : wpList P ops Q rest (a.put op.dst undef) w') : wpList P ops Q (op :: rest) a w :=
  wpList_plain hgd fun _ hK => by
    unfold Oper.wp execOp
    simp only [ho, hx, hy, Sem.run_bind, hrun, Result.andThen_ok, Sem.run_pure]
    exact hK _ _ h
theorem zstore (w : World) (t : ByteArray) (ht : t.size = 512) : (Instr.storeAt 144 (.pointer (some ⟨w.heap.size, 0, none⟩)) (arr t)).run Tryz.prog (w.alloc (.cells Tryz.zeroCells144 144)) = .ok () (w.alloc (.cells (u8s (bl t)).toArray 144)) :=
  run_storeAt_new w 144 Tryz.zeroCells144 (u8s (bl t)).toArray (by rw [sizeArr, List.size_toArray, u8s_length, bl_len, ht]) (by rw [zc, List.size_toArray, List.size_toArray, u8s_length, u8s_length, zeros_len, bl_len, ht]) (all_oneCell_toArray (u8s_one _))
theorem u8_splice (pre mid post new : List UInt8) (h : mid.length = new.length) : ((u8s (pre ++ mid ++ post)).toArray.toList.take pre.length ++ u8s new ++ (u8s (pre ++ mid ++ post)).toArray.toList.drop (pre.length + new.length)).toArray = (u8s (pre ++ new ++ post)).toArray := by
  congr 1
  rw [List.append_assoc pre mid post, u8s_append, u8s_append, u8s_append, u8s_append, ← h]
  have e1 : List.take pre.length (u8s pre ++ (u8s mid ++ u8s post)) = u8s pre := by
    rw [List.take_append_of_le_length (by rw [u8s_length]; omega), List.take_of_length_le (by rw [u8s_length]; omega)]
  have e2 : List.drop (pre.length + mid.length) (u8s pre ++ (u8s mid ++ u8s post)) = u8s post := by
    rw [← List.append_assoc, List.drop_append, List.drop_of_length_le (by rw [List.length_append, u8s_length, u8s_length]; omega), List.length_append, u8s_length, u8s_length]
    simp
  rw [e1, e2]
theorem find_any {l : List Sec} {i : Int} : (l.any fun x => decide (x.ix = i)) = (l.find? fun x => decide (x.ix = i)).isSome := by
  induction l with
  | nil => rfl
  | cons x r ih =>
    by_cases h : x.ix = i
    · simp [h]
    · simp [h, ih]
/-- A row of bytes of the call's own. -/
def RowB (w : World) (g : Nat) (l : List UInt8) : Prop := w.heap[g]? = some (.cells (u8s l).toArray 5 (0, 0))

theorem copy_str (w : World) (g : Nat) (pre mid post : List UInt8) (t : ByteArray) (L C : Nat) (hr : RowB w g (pre ++ mid ++ post)) (hm : mid.length = 512) (ht : t.size = 512) (hL : 512 ≤ L) :
    ∃ w2, (Builtin.copy_ #[145, 9] 3 #[.slice (some ⟨g, pre.length, none⟩) L C, .string t]).run Tryz.prog w = .ok (goInt t.size) w2 ∧ RowB w2 g (pre ++ bl t ++ post) ∧ w.grownBy w2 (some g) := by
  have hrun := Lib.run_copy_row_string (P := Tryz.prog) w 145 9 3 5 g pre.length L C t _ 5 Tryz.underlying145 size5 hr (by omega) (by rw [List.size_toArray, u8s_length, List.length_append, List.length_append]; omega)
  have e := u8_splice pre mid post (bl t) (by rw [bl_len]; omega)
  rw [bl_len] at e
  rw [byteCells_u8s, show t.data.toList = bl t from rfl, e] at hrun
  refine ⟨_, hrun, setRow_heap _ g _ _ 5 _ hr, ?_⟩
  exact ⟨rfl, rfl, rfl, by simp [World.setRow], fun k _ hn => by
    have : g ≠ k := fun e => hn (by rw [e])
    simp [World.setRow, Array.getElem?_modify, this]⟩
theorem copy_arr (w : World) (g ga : Nat) (pre mid post : List UInt8) (t : ByteArray) (L C : Nat) (hr : RowB w g (pre ++ mid ++ post)) (ha : w.heap[ga]? = some (.cells (u8s (bl t)).toArray 144 (0, 0))) (hm : mid.length = 512) (ht : t.size = 512) (hL : 512 ≤ L) :
    ∃ w2, (Builtin.copy_ #[145, 145] 3 #[.slice (some ⟨g, pre.length, none⟩) L C, .slice (some ⟨ga, 0, none⟩) 512 512]).run Tryz.prog w = .ok (goInt 512) w2 ∧ RowB w2 g (pre ++ bl t ++ post) ∧ w.grownBy w2 (some g) := by
  have hl : (u8s (bl t)).length = 512 := by rw [u8s_length, bl_len, ht]
  have hrun := run_copy_row (P := Tryz.prog) w 145 145 3 5 g pre.length L C ⟨ga, 0, none⟩ 512 512 _ 5 (u8s (bl t)) Tryz.underlying145 size5 hr (by rw [hl]; exact (Nat.min_eq_left hL).symm)
    (fun j v hv => by
      rw [Addr.add_mid, cell_of_row _ _ _ _ _ _ ha, Nat.zero_add]
      simpa using hv)
    (by rw [hl, List.size_toArray, u8s_length, List.length_append, List.length_append]; omega) (u8s_one _)
  have e := u8_splice pre mid post (bl t) (by rw [bl_len]; omega)
  rw [bl_len, ht] at e
  rw [hl, e] at hrun
  refine ⟨_, hrun, setRow_heap _ g _ _ 5 _ hr, ?_⟩
  exact ⟨rfl, rfl, rfl, by simp [World.setRow], fun k _ hn => by
    have : g ≠ k := fun e => hn (by rw [e])
    simp [World.setRow, Array.getElem?_modify, this]⟩

set_option maxRecDepth 100000 in
set_option maxHeartbeats 800000 in
theorem copys_any (b : Nat) (F : Nat → Prop) (d : Dev) (w : World) (h : DevAt w b F d) (g : Nat) (pre post : List UInt8) (s : Int) (L C : Nat) (hr : RowB w g (pre ++ zeros 512 ++ post)) (hL : 512 ≤ L) (h0 : 0 ≤ s) (h1 : s < 9223372036854775808) :
    Calls Tryz.prog 186 #[.pointer (some ⟨b, 0, none⟩), .slice (some ⟨g, pre.length, none⟩) L C, .int .i64 s] w fun e w' => e = .returned (.tuple #[]) ∧ RowB w' g (pre ++ bl (standing d s) ++ post) ∧ w.grownBy w' (some g) := by
  obtain ⟨mb, nb, pv, av, Dn, h⟩ := h
  have c3 : w.cell? ⟨b, 3, none⟩ = some (.map (some nb)) := h.cell 3
  have hmapN := h.mapN
  have hkey := kkey h0 h1
  obtain ⟨n1, n2⟩ := h.new s
  obtain ⟨off, hoff⟩ : ∃ off, off = pre.length := ⟨_, rfl⟩
  have HOF : Hid (off = pre.length) := hoff
  rw [← hoff]
  clear hoff
  cases hli : lastIx d.pend s with
  | some k =>
    have hhas : Maps.has Dn (.int .i64 s) = true := by rw [n1, hli]; rfl
    have hatk := n2 k hli
    have hkl := lastIx_lt hli
    have c2 : w.cell? ⟨b, 2, none⟩ = some pv := h.cell 2
    have HST : Hid (standing d s = d.pend[k].dat) := by show standing d s = _; unfold standing; rw [hli]; simp [hkl]
    obtain ⟨pa, pc, rfl, hpa⟩ := owns_form h.pend
    obtain ⟨gp, rfl⟩ := hpa (by omega)
    have p1 := owns_cell h.pend rfl _ _ (secCells_get d.pend k hkl).2
    have hsz := (secOk_of h.ok hkl).len
    obtain ⟨D, hD⟩ : ∃ D, D = d.pend[k].dat := ⟨_, rfl⟩
    rw [← hD] at HST p1 hsz
    obtain ⟨P, hP⟩ : ∃ P, P = d.pend.length := ⟨_, rfl⟩
    rw [← hP] at c2 hkl
    obtain ⟨w2, hcp, hrow, hgr⟩ := copy_str w g pre (zeros 512) post D L C hr (zeros_len 512) hsz hL
    rw [← HOF.out] at hcp
    have HRR : Hid (RowB w2 g (pre ++ bl D ++ post) ∧ w.grownBy w2 (some g)) := ⟨hrow, hgr⟩
    rw [HST.out]
    clear h n1 n2 hli hD hP hrow hgr HST hr
    go_enter Tryz.func186, Tryz.ntmps186
    go_wp2_with (first
      | (at_lookup; refine wpList_lookup_own_ok_int _ rfl _ _ 139 rfl 3 3 .i64 klaw Tryz.underlying139 Tryz.underlying3 (zeroI _) nb _ Dn rfl hmapN _ _ rfl hkey ?_; intro c hat hwc; (obtain rfl : c = (k : Int) := by rw [hatk] at hat; simpa using hat.symm); rw [hhas]))
    refine bodyPost_ret (results_none rfl _ _ _) rfl ?_
    exact ⟨rfl, HRR.out⟩
  | none =>
    have hhas : Maps.has Dn (.int .i64 s) = false := by rw [n1, hli]; rfl
    have c1 : w.cell? ⟨b, 1, none⟩ = some (.map (some mb)) := h.cell 1
    have hmapD := h.mapD
    obtain ⟨T, hT⟩ : ∃ T, T = lasting d.dur s := ⟨_, rfl⟩
    have hTs : T.size = 512 := by rw [hT]; exact lasting_size h.ok.dur s
    have hTz : Maps.has (durD d.dur) (.int .i64 s) = false → T = zsec := fun hz => by
      rw [durD_has, find_any] at hz
      rw [hT]; unfold lasting
      cases hf : d.dur.find? (fun x => decide (x.ix = s)) with
      | none => rfl
      | some x => rw [hf] at hz; cases hz
    have hV : ∀ v ps, secR v = some ((durD d.dur).atKey (.int .i64 s) (.lit (.string (bl zsec))), ps) → v = arr T := fun v ps hv => by
      obtain ⟨t, ht, rfl, he⟩ := secR_inv hv
      rw [durD_at] at he
      rw [hT]; unfold lasting
      cases hf : d.dur.find? (fun x => decide (x.ix = s)) with
      | none => rw [hf] at he; simp only [Prod.mk.injEq, DataW.lit.injEq, Lit.string.injEq] at he; rw [bl_inj he.1.symm]
      | some x => rw [hf] at he; simp only [Prod.mk.injEq, DataW.lit.injEq, Lit.string.injEq] at he; rw [bl_inj he.1.symm]
    have HST : Hid (standing d s = T) := by show standing d s = _; unfold standing; rw [hli, hT]
    rw [HST.out]
    have hlt := (Array.getElem?_eq_some_iff.1 hr).1
    have hb2 := below_new w (.cells (u8s (bl T)).toArray 144)
    have hr2 : RowB (w.alloc (.cells (u8s (bl T)).toArray 144)) g (pre ++ zeros 512 ++ post) := (hb2.block g hlt).trans hr
    have hst := zstore w T hTs
    have hnew := heap_alloc_new w (.cells (u8s (bl T)).toArray 144)
    obtain ⟨w2, hcp, hrow, hgr⟩ := copy_arr (w.alloc (.cells (u8s (bl T)).toArray 144)) g w.heap.size pre (zeros 512) post T L C hr2 hnew (zeros_len 512) hTs hL
    rw [← HOF.out] at hcp
    have HRR : Hid (RowB w2 g (pre ++ bl T ++ post) ∧ w.grownBy w2 (some g)) := ⟨hrow, (grown_of_below hb2).trans hgr⟩
    have HR0 : Hid (Maps.has (durD d.dur) (.int .i64 s) = false → RowB (w.alloc (.cells (u8s (bl T)).toArray 144)) g (pre ++ bl T ++ post) ∧ w.grownBy (w.alloc (.cells (u8s (bl T)).toArray 144)) (some g)) := fun hz => ⟨by rw [show pre ++ bl T ++ post = pre ++ zeros 512 ++ post by rw [hTz hz, zsec, bl_mkb]]; exact hr2, grown_of_below hb2⟩
    obtain ⟨cs, hcs⟩ : ∃ cs, cs = (u8s (bl T)).toArray := ⟨_, rfl⟩
    rw [← hcs] at hst hcp HR0
    obtain ⟨V, hVd⟩ : ∃ V, V = arr T := ⟨_, rfl⟩
    rw [← hVd] at hst
    have hV2 : Hid (∀ v ps, secR v = some ((durD d.dur).atKey (.int .i64 s) (.lit (.string (bl zsec))), ps) → v = V) := by rw [hVd]; exact hV
    have tok1 : True := trivial
    generalize hhD : Maps.has (durD d.dur) (.int .i64 s) = hb at HR0
    clear hTz hVd h n1 n2 hli hT hr hV hrow hgr HST hb2 hr2 hnew hTs hcs hlt
    go_enter Tryz.func186, Tryz.ntmps186
    cases hb
    · go_wp2_with (first
        | (at_lookup; have _t := tok1; refine wpList_lookup_own_ok_int _ rfl _ _ 139 rfl 3 3 .i64 klaw Tryz.underlying139 Tryz.underlying3 (zeroI _) nb _ Dn rfl hmapN _ _ rfl hkey ?_; intro c hat hwc; clear tok1 hat hwc; rw [hhas])
        | (at_lookup; refine wpList_lookup_own_ok _ rfl _ _ 138 rfl 3 144 klaw Tryz.underlying138 secR (zeroA _) (.lit (.string (bl zsec))) [] (secR_arr zsec_size) mb _ (durD d.dur) rfl hmapD _ _ rfl hkey ?_; intro v ps hv; (obtain rfl : v = V := hV2.out v ps hv); clear hv; rw [hhD])
        | (refine wpList_store_eq rfl 144 _ _ rfl _ _ rfl rfl hst ?_))
      go_end0
      refine ⟨rfl, ?_⟩
      have r := HR0.out (by first | trivial | rfl)
      rw [List.append_assoc] at r
      exact r
    · go_wp2_with (first
        | (at_lookup; have _t := tok1; refine wpList_lookup_own_ok_int _ rfl _ _ 139 rfl 3 3 .i64 klaw Tryz.underlying139 Tryz.underlying3 (zeroI _) nb _ Dn rfl hmapN _ _ rfl hkey ?_; intro c hat hwc; clear tok1 hat hwc; rw [hhas])
        | (at_lookup; refine wpList_lookup_own_ok _ rfl _ _ 138 rfl 3 144 klaw Tryz.underlying138 secR (zeroA _) (.lit (.string (bl zsec))) [] (secR_arr zsec_size) mb _ (durD d.dur) rfl hmapD _ _ rfl hkey ?_; intro v ps hv; (obtain rfl : v = V := hV2.out v ps hv); clear hv; rw [hhD])
        | (refine wpList_store_eq rfl 144 _ _ rfl _ _ rfl rfl hst ?_))
      go_end0
      exact ⟨rfl, HRR.out⟩

end Go.Proofs.YtnaedmmfiiebaaaGreatDoor.S.V

namespace Go.Proofs.YtnaedmmfiiebaaaGreatDoor.S.V
open Go.RowKit Go.Maps

theorem made_u8 (n : Nat) : (madeCells #[Value.int .u8 0] n).toList = u8s (zeros n) := by
  rw [u8s, zeros, List.map_replicate]
  simp [madeCells, Nat.mod_one, List.map_const']
theorem rowB_of {w : World} {base g n : Nat} {l : List UInt8} (h : w.ownsRow base 5 1 (.slice (some ⟨g, 0, none⟩) n n) n (u8s l)) : RowB w g l := by
  rcases h.2 with ⟨h', _⟩ | ⟨g', cap', cur, h', hb, hg, hn, hc, hs, ht⟩
  · cases h'
  · cases h'
    unfold RowB
    rw [hg, ← ht, List.take_of_length_le (by simpa using Nat.le_of_eq hs)]
theorem owns_of_rowB {w : World} {base g n : Nat} {l : List UInt8} (h : RowB w g l) (hl : l.length = n) (hb : base ≤ g) (hn : n ≤ maxLen) : w.ownsRow base 5 1 (.slice (some ⟨g, 0, none⟩) n n) n (u8s l) :=
  ⟨by rw [u8s_length]; omega, .inr ⟨g, n, _, rfl, hb, h, Nat.le_refl _, hn, by simp [u8s_length]; omega, by
    rw [List.take_of_length_le (by simp [u8s_length]; omega)]⟩⟩
/-- What Read leaves. -/
structure ReadPost (A : Nat → Addr) (w : World) (b : Nat) (F : Nat → Prop) (r : Dev × List UInt8 × Nat) (e : Ending) (w' : World) (v : Value) : Prop where
  ret : e = .returned (.tuple #[v, errV A r.2.2])
  row : w'.ownsRow w.heap.size 5 1 v r.2.1.length (u8s r.2.1)
  dev : DevAt w' b F r.1
  step : Step F F w w'
  one : Step (fun k => k = b) (fun k => k = b) w w'
/-- What Read's loop holds. -/
structure RdInv (w wr : World) (d : Dev) (s : Int) (m k : Nat) : Prop where
  row : RowB wr w.heap.size (readB d s k ++ zeros ((m - k) * 512))
  bel : Below w.heap.size w wr

set_option maxRecDepth 100000 in
set_option maxHeartbeats 800000 in
theorem read_any (base : Nat) (A : Nat → Addr) (b : Nat) (F : Nat → Prop) (d : Dev) (w : World) (h : DevAt w b F d) (hE : ErrsB base A w) (s n : Int) (hn : n < 9223372036854775808) :
    Calls Tryz.prog 151 #[.pointer (some ⟨b, 0, none⟩), .int .i64 s, .int .i64 n] w fun e w' => ∃ v, ReadPost A w b F (d.read s n) e w' v := by
  have HK : Hid (DevAt w b F d) := h
  have H0 := holds_any b F d s n w h hn
  generalize hf : d.fits s n = fb at H0
  have HFI : Hid (d.fits s n = fb) := hf
  have HH0 : Hid (Calls Tryz.prog 41 #[.pointer (some ⟨b, 0, none⟩), .int .i64 s, .int .i64 n] w fun e w' => e = .returned (.bool fb) ∧ w = w') := H0
  obtain ⟨mb, nb, pv, av, Dn, h⟩ := h
  have c5 : w.cell? ⟨b, 5, none⟩ = some (.bool d.dead) := h.cell 5
  have e7 := hE.dead
  have e0 := hE.arg
  have e2 := hE.many
  clear h hE H0 hf
  have HER : Hid (∀ m c, d.read s n = (d, [], c) → ∃ v, ReadPost A w b F (d.read s n) (.returned (.tuple #[.slice none 0 0, errV A c])) (w.drewN m) v) := fun m c hc => by
    rw [hc]
    exact ⟨_, rfl, World.ownsRow_nil _ _ _ _, HK.out.below (below_drewN (Below.refl _ _) m), Step.of_below (below_drewN (Below.refl _ _) m), Step.of_below (below_drewN (Below.refl _ _) m)⟩
  cases hd : d.dead
  · rw [hd] at c5
    cases fb
    · have HR : Hid (d.read s n = (d, [], 1)) := by show d.read s n = _; unfold Dev.read; rw [hd, HFI.out]; rfl
      go_enter Tryz.func151, Tryz.ntmps151
      go_wp2_with (go_at_call 41; refine HH0.out.mono ?_; rintro e w' ⟨rfl, rfl⟩)
      go_quiet (fail)
      go_wp2_with fail
      go_ret2
      exact HER.out _ 1 HR.out
    · have hfit := HFI.out
      simp only [Dev.fits, decide_eq_true_eq] at hfit
      have hs1 := HK.out.ok.s1
      by_cases hm : 1024 < n
      · have HR : Hid (d.read s n = (d, [], 3)) := by show d.read s n = _; unfold Dev.read; rw [hd, HFI.out]; simp [hm]
        go_enter Tryz.func151, Tryz.ntmps151
        go_wp2_with (go_at_call 41; refine HH0.out.mono ?_; rintro e w' ⟨rfl, rfl⟩)
        go_quiet (fail)
        go_wp2_with fail
        go_ret2
        exact HER.out _ 3 HR.out
      · obtain ⟨m, rfl⟩ : ∃ m : Nat, n = (m : Int) := ⟨n.toNat, by omega⟩
        have HR : Hid (d.read s (m : Int) = ({ d with nr := wrap64 (d.nr + (m : Int)) }, readB d s m, 0)) := by show d.read s _ = _; unfold Dev.read; rw [hd, HFI.out]; simp [hm]
        obtain ⟨i0, hi, hz0, hz1, hz2⟩ := info_parts Tryz.info5
        have i1 : IntKind.i64.wrap ((m : Int) * 512) = (m : Int) * 512 := wrap_i64 _ (by omega) (by omega)
        have hd1 : decide ((1024 : Int) < (m : Int)) = false := decide_eq_false (by omega)
        clear e7 e0 e2 HER
        go_enter Tryz.func151, Tryz.ntmps151
        go_wp2_with (first
          | (go_at_call 41; refine HH0.out.mono ?_; rintro e w' ⟨rfl, rfl⟩)
          | (at_make; refine wpList_make_full _ rfl _ _ 145 rfl 0 5 i0 (.int .u8 0) 1 Tryz.underlying145 hi hz0 hz1 .i64 .i64 _ _ (m * 512) rfl rfl ?c0 ?c0 ?c1 ?c2 (Nat.zero_le _) ?_))
        case c0 => omega
        case c1 => rw [hz2]; omega
        case c2 => unfold maxLen; omega
        intro w1 hrow1 hg1
        rw [made_u8] at hrow1
        have HI : Hid (RdInv w w1 d s m 0) := ⟨by simpa [readB] using rowB_of hrow1, ⟨hg1.os, hg1.tape, hg1.output, hg1.size, fun k hk => hg1.block k hk (by simp)⟩⟩
        clear hrow1 hg1
        go_wp2_with fail
        go_loopw [28] (fun i wr => ∃ k, k ≤ m ∧ i = .int .i64 (k : Int) ∧ RdInv w wr d s m k) (fun i _ => m - (intOf i).toNat)
        case atStart => exact ⟨0, Nat.zero_le _, rfl, HI.out⟩
        case round =>
          obtain ⟨k, hk, rfl, inv⟩ := hrel
          have INV : Hid (RdInv w wr d s m k) := inv
          clear inv HI
          by_cases hlt : k < m
          · have hz : zeros ((m - k) * 512) = zeros 512 ++ zeros ((m - (k + 1)) * 512) := by
              unfold zeros; rw [List.replicate_append_replicate]; congr 1; omega
            have hrow := INV.out.row
            rw [hz, ← List.append_assoc] at hrow
            have C := copys_any b F d wr (HK.out.below INV.out.bel) w.heap.size (readB d s k) (zeros ((m - (k + 1)) * 512)) (s + (k : Int)) (m * 512 - k * 512) (m * 512 - k * 512) hrow (by omega) (by omega) (by omega)
            rw [readB_len HK.out.ok, ← readB_succ] at C
            have HC : Hid (Calls Tryz.prog 186 #[.pointer (some ⟨b, 0, none⟩), .slice (some ⟨w.heap.size, k * 512, none⟩) (m * 512 - k * 512) (m * 512 - k * 512), .int .i64 (s + (k : Int))] wr fun e w' => e = .returned (.tuple #[]) ∧ RowB w' w.heap.size (readB d s (k + 1) ++ zeros ((m - (k + 1)) * 512)) ∧ wr.grownBy w' (some w.heap.size)) := C
            have j1 : IntKind.i64.wrap ((k : Int) * 512) = (k : Int) * 512 := wrap_i64 _ (by omega) (by omega)
            have j2 : IntKind.i64.wrap (s + (k : Int)) = s + (k : Int) := wrap_i64 _ (by omega) (by omega)
            have j3 : (k : Int) * 512 ≤ (m : Int) * 512 := by omega
            have j4 : (0 : Int) ≤ (k : Int) * 512 := by omega
            have j5 : m * 512 ≠ k * 512 := by omega
            clear C hz hrow
            go_wp2_with fail
            refine HC.out.mono ?_
            rintro e w4 ⟨rfl, r4, g4⟩
            have V : RdInv w w4 d s m (k + 1) := ⟨r4, INV.out.bel.trans ⟨g4.os, g4.tape, g4.output, g4.size, fun i hi => g4.block i (Nat.lt_of_lt_of_le hi INV.out.bel.size) (fun e => by have := Option.some.inj e; omega)⟩⟩
            clear HC r4 g4 INV
            go_wp2_with fail
            go_roundw
            case rel => exact ⟨k + 1, by omega, by go_num, V⟩
            case measure => simp [intOf]; omega
          · have hke : k = m := by omega
            subst hke
            have hrow := INV.out.row
            rw [Nat.sub_self, Nat.zero_mul, show zeros 0 = [] from rfl, List.append_nil] at hrow
            have hdev := HK.out.below INV.out.bel
            have hok := hdev.ok
            obtain ⟨mb4, nb4, pv4, av4, Dn4, h4⟩ := hdev
            have x6 : wr.cell? ⟨b, 6, none⟩ = some (.int .i64 d.nr) := h4.cell 6
            have f6 := h4.frozen 6
            obtain ⟨h5, s5⟩ := h4.set (d' := { d with nr := wrap64 (d.nr + (k : Int)) }) 6 (.int .i64 (wrap64 (d.nr + (k : Int)))) rfl rfl rfl rfl ⟨hok.s0, hok.s1, hok.dur, hok.rise, hok.pend, hok.arms⟩
            have hgb : w.heap.size ≠ b := by have := HK.out.lt b HK.out.fb; omega
            have HP : Hid (ReadPost A w b F (d.read s (k : Int)) (.returned (.tuple #[.slice (some ⟨w.heap.size, 0, none⟩) (k * 512) (k * 512), .nilIface])) (wr.setCell ⟨b, 6, none⟩ (.int .i64 (wrap64 (d.nr + (k : Int))))) (.slice (some ⟨w.heap.size, 0, none⟩) (k * 512) (k * 512))) := by
              rw [HR.out]
              refine ⟨rfl, ?_, ⟨_, _, _, _, _, h5⟩, (Step.of_below INV.out.bel).trans s5, (Step.of_below INV.out.bel).trans ⟨rfl, rfl, rfl, by simp, fun q _ hn => Below.heap_setCell wr ⟨b, 6, none⟩ _ _ hn, fun _ h => .inl h⟩⟩
              simp only [readB_len HK.out.ok]
              exact owns_of_rowB ((Below.heap_setCell wr ⟨b, 6, none⟩ _ _ hgb).trans hrow) (readB_len HK.out.ok s k) (Nat.le_refl _) (by unfold maxLen; omega)
            clear h4 h5 s5 hrow hok INV
            go_wp2_with fail
            go_ret2
            exact ⟨_, HP.out⟩
  · rw [hd] at c5
    have HR : Hid (d.read s n = (d, [], 8)) := by show d.read s n = _; unfold Dev.read; rw [hd]; rfl
    go_enter Tryz.func151, Tryz.ntmps151
    go_wp2_with fail
    go_quiet (fail)
    go_wp2_with fail
    go_ret2
    exact HER.out _ 8 HR.out

end Go.Proofs.YtnaedmmfiiebaaaGreatDoor.S.V

namespace Go.Proofs.YtnaedmmfiiebaaaGreatDoor.S.V
open Go.RowKit Go.Maps

/-- A list of fates that can be read, wherever it lies. -/
def FatesR (w : World) (v : Value) : Prop := ∃ a m c, v = .slice a m c ∧ m ≤ 9223372036854775807 ∧ ∀ k, k < m → ∃ g off fi fk fc fj, a = some ⟨g, off, none⟩ ∧ g < w.heap.size ∧
  w.cell? ⟨g, off + k * 4, none⟩ = some (.int .i64 fi) ∧ w.cell? ⟨g, off + k * 4 + 1, none⟩ = some (.int .i64 fk) ∧ w.cell? ⟨g, off + k * 4 + 2, none⟩ = some (.int .i64 fc) ∧ w.cell? ⟨g, off + k * 4 + 3, none⟩ = some (.string fj)
theorem FatesR.below {w w' : World} {v : Value} (h : FatesR w v) (hb : Below w.heap.size w w') : FatesR w' v := by
  obtain ⟨a, m, c, hv, hm, h⟩ := h
  refine ⟨a, m, c, hv, hm, fun k hk => ?_⟩
  obtain ⟨g, off, fi, fk, fc, fj, ha, hg, h0, h1, h2, h3⟩ := h k hk
  exact ⟨g, off, fi, fk, fc, fj, ha, Nat.lt_of_lt_of_le hg hb.size, (hb.cell hg).trans h0, (hb.cell hg).trans h1, (hb.cell hg).trans h2, (hb.cell hg).trans h3⟩

end Go.Proofs.YtnaedmmfiiebaaaGreatDoor.S.V
