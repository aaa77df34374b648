import Derived.Test.YtlopimdnjookeaaDoorVM2
namespace Go.Proofs.YtlopimdnjookeaaDoor.V
open Go.RowKit Go.Maps

def tornS (d : ByteArray) (f : Fate) : ByteArray := mkb ((bl d).take (cutOf f.cut) ++ (bl f.junk).take (512 - cutOf f.cut))
theorem tornS_size (d : ByteArray) (f : Fate) : (tornS d f).size ≤ 512 := by
  have := cutOf_le f.cut
  rw [tornS, mkb_size, List.length_append, List.length_take, List.length_take]
  omega
theorem join_take (A J : List UInt8) (c n : Nat) (hA : A.length = c) (hc : c ≤ n) : A ++ J.take (n - c) ++ zeros (n - (A ++ J.take (n - c)).length) = (A ++ J ++ zeros n).take n := by
  have h1 : (A ++ J ++ zeros n).take n = A ++ (J ++ zeros n).take (n - c) := by
    rw [List.append_assoc, List.take_append, hA, List.take_of_length_le (by omega)]
  rw [h1, List.append_assoc, List.take_append, List.length_append, List.length_take, hA]
  congr 2
  unfold zeros
  rw [List.take_replicate]
  congr 1
  omega
theorem pad_tornS (d : ByteArray) (f : Fate) (hd : d.size = 512) : pad (tornS d f) = tornB d f := by
  have hc := cutOf_le f.cut
  unfold pad tornS tornB
  rw [bl_mkb, mkb_size]
  exact congrArg mkb (join_take _ _ (cutOf f.cut) 512 (by rw [List.length_take, bl_len]; omega) hc)
theorem undrew {n : Nat} {w w' : World} (h : Below n w.drew w') : Below n w w' := ⟨h.os, h.tape, h.output, h.size, h.block⟩
theorem cell_below {w w' : World} {a : Addr} {v : Value} (hb : Below w.heap.size w w') (hc : w.cell? a = some v) : w'.cell? a = some v := (hb.cell (p := a) (World.block_lt_of_cell? w a hc)).trans hc

theorem wrap_i64 (n : Int) (h1 : -9223372036854775808 ≤ n) (h2 : n ≤ 9223372036854775807) : IntKind.i64.wrap n = n := by
  simp [IntKind.wrap, IntKind.bits, IntKind.signed]
  omega
theorem torn_join (D J : ByteArray) (c : Nat) : mkb ((bl D).take c) ++ mkb ((bl J).take (512 - c)) = mkb ((bl D).take c ++ (bl J).take (512 - c)) := bl_inj (by rw [bl_cat, bl_mkb, bl_mkb, bl_mkb])
set_option maxHeartbeats 400000 in
theorem torn_any (D : ByteArray) (f : Fate) (w : World) (hD : D.size = 512) : Calls Tryd.prog 57 #[.string D, .agg #[.int .i64 f.ix, .int .i64 f.kind, .int .i64 f.cut, .string f.junk]] w fun e w' => e = .returned (.string (tornS D f)) ∧ Below w.heap.size w w' := by
  obtain ⟨fi, fk, fc, J⟩ := f
  have hle := cutOf_le fc
  have HH : Hid (∀ w', Calls Tryd.prog 61 #[.string J, .int .i64 ((512 - cutOf fc : Nat) : Int)] w' fun e w'' => e = .returned (.string (mkb ((bl J).take (512 - cutOf fc)))) ∧ w' = w'') := fun w' => head_any J (512 - cutOf fc) w' (by omega)
  have HC : Hid (cutOf fc = (clampN fc 0 512).toNat) := (rfl : cutOf fc = _)
  have HT : Hid (tornS D ⟨fi, fk, fc, J⟩ = mkb ((bl D).take (cutOf fc)) ++ mkb ((bl J).take (512 - cutOf fc))) := (torn_join D J (cutOf fc)).symm
  have HE : Hid (∀ n, D.extract 0 n = mkb ((bl D).take n)) := fun n => ext_take D n
  have HA : Hid (D = mkb ((bl D).take 512)) := take_all D 512 (by omega)
  generalize hcc : cutOf fc = c at *
  clear hcc
  obtain ⟨q, hq⟩ : ∃ q, q = mkb ((bl J).take (512 - c)) := ⟨_, rfl⟩
  have hqs : q.size ≤ 512 := by rw [hq, mkb_size, List.length_take]; omega
  have hex : (D.extract 0 c).size = c := by rw [← bl_len, bl_head, List.length_take, bl_len]; omega
  have HR : Hid (∀ r q : ByteArray, r = mkb ((bl D).take c) → q = mkb ((bl J).take (512 - c)) → Ending.returned (.string (r ++ q)) = .returned (.string (tornS D ⟨fi, fk, fc, J⟩))) := fun r q h1 h2 => by rw [HT.out, h1, h2]
  have hw0 : IntKind.i64.wrap 512 = 512 := by decide
  have hw1 : IntKind.i64.wrap (512 - (c : Int)) = 512 - (c : Int) := wrap_i64 _ (by omega) (by omega)
  have hb := below_new w (.cells #[.int .i64 fi, .int .i64 fk, .int .i64 fc, .string J] 80)
  go_enter Tryd.func57, Tryd.ntmps57
  rcases (show fc < 0 ∨ 0 ≤ fc by omega) with h | h
  · have e0 : c = 0 := by rw [HC.out]; unfold clampN; rw [if_pos h]; rfl
    subst e0
    have H0 : Hid (∀ w', Calls Tryd.prog 61 #[.string J, .int .i64 512] w' fun e w'' => e = .returned (.string q) ∧ w' = w'') := by rw [hq]; exact HH.out
    have HQ : Hid (q = mkb ((bl J).take (512 - 0))) := hq
    clear HH HC HT hq
    go_wp2_with fail
    go_quiet ((go_at_call 61; refine Calls.quiet_of_same ((H0.out _).mono fun e w' h => ⟨h.1, h.2.symm⟩)))
    go_wp2_with fail
    go_ret
    have hr := HR.out (mkb []) q rfl HQ.out
    rw [show mkb [] ++ q = q from bl_inj (by rw [bl_cat, bl_mkb, List.nil_append])] at hr
    exact ⟨hr, below_drewN hb _⟩
  · rcases (show 512 < fc ∨ fc ≤ 512 by omega) with h' | h'
    · have e0 : c = 512 := by rw [HC.out]; unfold clampN; rw [if_neg (by omega), if_pos h']; rfl
      subst e0
      have H0 : Hid (∀ w', Calls Tryd.prog 61 #[.string J, .int .i64 0] w' fun e w'' => e = .returned (.string q) ∧ w' = w'') := by rw [hq]; exact HH.out
      have i1 : (512 : Int) ≤ (D.size : Int) := by omega
      have HQ : Hid (q = mkb ((bl J).take (512 - 512))) := hq
      clear HH HC HT hq
      go_wp2_with fail
      go_quiet ((go_at_call 61; refine Calls.quiet_of_same ((H0.out _).mono fun e w' h => ⟨h.1, h.2.symm⟩)))
      go_wp2_with fail
      go_ret
      exact ⟨HR.out _ _ (by first | exact HA.out | rw [HE.out]) HQ.out, below_drewN hb _⟩
    · have e0 : fc = (c : Int) := by rw [HC.out]; unfold clampN; rw [if_neg (by omega), if_neg (by omega)]; omega
      subst e0
      have H0 : Hid (∀ w', Calls Tryd.prog 61 #[.string J, .int .i64 (512 - (c : Int))] w' fun e w'' => e = .returned (.string q) ∧ w' = w'') := fun w' => by
        have := HH.out w'
        rw [← hq] at this
        rwa [show ((512 - c : Nat) : Int) = 512 - (c : Int) by omega] at this
      have i1 : (c : Int) ≤ (D.size : Int) := by omega
      have i2 : (0 : Int) ≤ (c : Int) := by omega
      have HQ : Hid (q = mkb ((bl J).take (512 - c))) := hq
      clear HH HC HT hq
      go_wp2_with fail
      all_goals go_quiet ((go_at_call 61; refine Calls.quiet_of_same ((H0.out _).mono fun e w' h => ⟨h.1, h.2.symm⟩)))
      all_goals go_wp2_with fail
      all_goals go_ret
      all_goals exact ⟨HR.out _ _ (by first | rw [HE.out] | exact HA.out) HQ.out, below_drewN hb _⟩

/-- What a fate makes of a pending write. -/
def meetX (dur : List Sec) (x : Sec) (f : Fate) : List Sec := if f.kind = 2 then setD dur x.ix x.dat else if f.kind = 3 then setD dur x.ix (tornB x.dat f) else dur
theorem DevBody.same {w : World} {b : Nat} {F : Nat → Prop} {d : Dev} {mb nb : Nat} {pv av : Value} {Dn : DataW Unit} (h : DevBody w b F d mb nb pv av Dn) {w' : World} (hk : ∀ k, F k → w'.heap[k]? = w.heap[k]?) (hs : w.heap.size ≤ w'.heap.size) : DevBody w' b F d mb nb pv av Dn :=
  ⟨(hk b h.fb).trans h.blk, h.fb, h.fm, h.fn, h.ne, ownsMap_block h.mapD (hk mb h.fm), ownsMap_block h.mapN (hk nb h.fn), h.new, owns_block h.pend (fun g hg => hk g (h.pf g hg)), h.pf,
    h.arms.block (fun k _ _ hf => hk k hf), h.ok, fun i hi => Nat.lt_of_lt_of_le (h.lt i hi) hs⟩
theorem DevBody.alloc {w : World} {b : Nat} {F : Nat → Prop} {d : Dev} {mb nb : Nat} {pv av : Value} {Dn : DataW Unit} (h : DevBody w b F d mb nb pv av Dn) {w' : World} (hb : Below w.heap.size w w') : DevBody w' b F d mb nb pv av Dn := by
  have hk : ∀ k, F k → w'.heap[k]? = w.heap[k]? := fun k hk => hb.block k (h.lt k hk)
  exact ⟨(hk b h.fb).trans h.blk, h.fb, h.fm, h.fn, h.ne, ownsMap_block h.mapD (hk mb h.fm), ownsMap_block h.mapN (hk nb h.fn), h.new, owns_block h.pend (fun g hg => hk g (h.pf g hg)), h.pf,
    h.arms.block (fun k _ _ hf => hk k hf), h.ok, fun i hi => Nat.lt_of_lt_of_le (h.lt i hi) hb.size⟩

set_option maxHeartbeats 800000 in
theorem meet_body {w : World} {b : Nat} {F : Nat → Prop} {d : Dev} {mb nb : Nat} {pv av : Value} {Dn : DataW Unit} (h : DevBody w b F d mb nb pv av Dn) (x : Sec) (f : Fate) (hx : SecOk d.size x) :
    Calls Tryd.prog 50 #[.pointer (some ⟨b, 0, none⟩), .agg #[.int .i64 x.ix, .string x.dat], .agg #[.int .i64 f.ix, .int .i64 f.kind, .int .i64 f.cut, .string f.junk]] w fun e w' => e = .returned (.tuple #[]) ∧ DevBody w' b F { d with dur := meetX d.dur x f } mb nb pv av Dn ∧ w.grownBy w' (some mb) := by
  obtain ⟨xi, xd⟩ := x
  obtain ⟨fi, fk, fc, fj⟩ := f
  obtain ⟨w2, hw2⟩ : ∃ w2, w2 = (w.alloc (.cells #[.int .i64 xi, .string xd] 74)).alloc (.cells #[.int .i64 fi, .int .i64 fk, .int .i64 fc, .string fj] 80) := ⟨_, rfl⟩
  have hb2 : Below w.heap.size w w2 := by rw [hw2]; exact (below_new w _).alloc (by simp) _
  have h2 := h.alloc hb2
  have s2 : w.grownBy w2 (some mb) := grown_of_below hb2
  have hlen := hx.len
  have M := maked_body h2 xi xd (by rw [show xd.size = 512 from hx.len]; omega) hx.lo hx.hi
  rw [pad_full xd hx.len] at M
  have HM : Hid (Calls Tryd.prog 32 #[.pointer (some ⟨b, 0, none⟩), .int .i64 xi, .string xd] w2 fun e w' => e = .returned (.tuple #[]) ∧ DevBody w' b F { d with dur := setD d.dur xi xd } mb nb pv av Dn ∧ w2.grownBy w' (some mb)) := M
  have HX : Hid (meetX d.dur ⟨xi, xd⟩ ⟨fi, fk, fc, fj⟩ = if fk = 2 then setD d.dur xi xd else if fk = 3 then setD d.dur xi (tornB xd ⟨fi, fk, fc, fj⟩) else d.dur) := (rfl : meetX _ _ _ = _)
  have HT : Hid (Calls Tryd.prog 57 #[.string xd, .agg #[.int .i64 fi, .int .i64 fk, .int .i64 fc, .string fj]] w2.drew fun e w' => e = .returned (.string (tornS xd ⟨fi, fk, fc, fj⟩)) ∧ Below w2.heap.size w2.drew w') := torn_any xd ⟨fi, fk, fc, fj⟩ w2.drew hx.len
  have HM2 : Hid (∀ w3, Below w2.heap.size w2 w3 → Calls Tryd.prog 32 #[.pointer (some ⟨b, 0, none⟩), .int .i64 xi, .string (tornS xd ⟨fi, fk, fc, fj⟩)] w3 fun e w' => e = .returned (.tuple #[]) ∧ DevBody w' b F { d with dur := setD d.dur xi (tornB xd ⟨fi, fk, fc, fj⟩) } mb nb pv av Dn ∧ w3.grownBy w' (some mb)) := fun w3 hb3 => by
    have := maked_body (h2.alloc hb3) xi (tornS xd ⟨fi, fk, fc, fj⟩) (tornS_size _ _) hx.lo hx.hi
    rwa [pad_tornS xd _ hx.len] at this
  generalize tornS xd ⟨fi, fk, fc, fj⟩ = T at *
  have c0 : w2.cell? ⟨w.heap.size, 0, none⟩ = some (.int .i64 xi) := by rw [hw2]; simp
  have c1 : w2.cell? ⟨w.heap.size, 1, none⟩ = some (.string xd) := by rw [hw2]; simp
  have d0 : w2.cell? ⟨w.heap.size + 1, 0, none⟩ = some (.int .i64 fi) := by rw [hw2]; simp
  have d1 : w2.cell? ⟨w.heap.size + 1, 1, none⟩ = some (.int .i64 fk) := by rw [hw2]; simp
  have d2 : w2.cell? ⟨w.heap.size + 1, 2, none⟩ = some (.int .i64 fc) := by rw [hw2]; simp
  have d3 : w2.cell? ⟨w.heap.size + 1, 3, none⟩ = some (.string fj) := by rw [hw2]; simp
  have hn0 : w.heap.size ≠ mb := by have := h.mapD.lt; omega
  have hn1 : w.heap.size + 1 ≠ mb := by have := h.mapD.lt; omega
  clear h hx M
  go_enter Tryd.func50, Tryd.ntmps50
  by_cases k2 : fk = 2
  · have e2 : (fk == 2) = true := by simp [k2]
    have K2 : Hid (fk = 2) := k2
    clear k2
    go_wp2_with fail
    rw [← hw2]
    clear hw2
    refine HM.out.mono ?_
    rintro e w3 ⟨rfl, h3, s3⟩
    clear HM HM2 HT c0 c1 d0 d1 d2 d3
    go_wp2_with fail
    go_end0
    rw [HX.out, if_pos K2.out]
    exact ⟨rfl, h3, s2.trans s3⟩
  · have e2 : (fk == 2) = false := by simp [k2]
    have K2 : Hid (¬ fk = 2) := k2
    clear k2
    by_cases k3 : fk = 3
    · have e3 : (fk == 3) = true := by simp [k3]
      have K3 : Hid (fk = 3) := k3
      clear k3
      clear HM
      go_wp2_with fail
      rw [← hw2]
      clear hw2
      go_region_held3 (fun w' => (w'.cell? ⟨w.heap.size, 0, none⟩ = some (.int .i64 xi) ∧ w'.cell? ⟨w.heap.size, 1, none⟩ = some (.string xd)) ∧ w'.cell? ⟨w.heap.size + 1, 0, none⟩ = some (.int .i64 fi) ∧ w'.cell? ⟨w.heap.size + 1, 1, none⟩ = some (.int .i64 fk) ∧ w'.cell? ⟨w.heap.size + 1, 2, none⟩ = some (.int .i64 fc) ∧ w'.cell? ⟨w.heap.size + 1, 3, none⟩ = some (.string fj)) (go_keep)
        (first
          | (go_at_call 32; refine (HM2.out w3 hb3).mono ?_; rintro e w4 ⟨rfl, h4, s4⟩; have z0 := grown_cell s4 a0 hn0; have z1 := grown_cell s4 a1 hn0; have y0 := grown_cell s4 b0 hn1; have y1 := grown_cell s4 b1 hn1; have y2 := grown_cell s4 b2 hn1; have y3 := grown_cell s4 b3 hn1)
          | (go_at_call 57; refine HT.out.mono ?_; rintro e w3 ⟨rfl, hbd⟩; have hb3 := undrew hbd; clear hbd; have a0 := cell_below hb3 c0; have a1 := cell_below hb3 c1; have b0 := cell_below hb3 d0; have b1 := cell_below hb3 d1; have b2 := cell_below hb3 d2; have b3 := cell_below hb3 d3))
      go_wp2_with fail
      go_end0
      rw [HX.out, if_neg K2.out, if_pos K3.out]
      exact ⟨rfl, h4, s2.trans ((grown_of_below hb3).trans s4)⟩
    · have e3 : (fk == 3) = false := by simp [k3]
      have K3 : Hid (¬ fk = 3) := k3
      clear k3
      clear HM HM2 HT
      go_wp2_with fail
      rw [← hw2]
      clear hw2
      go_end0
      rw [HX.out, if_neg K2.out, if_neg K3.out]
      exact ⟨rfl, h2, s2⟩

end Go.Proofs.YtlopimdnjookeaaDoor.V
