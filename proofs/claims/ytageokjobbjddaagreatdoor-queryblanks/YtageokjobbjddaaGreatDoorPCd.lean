import Derived.Test.YtageokjobbjddaaGreatDoorPIt3
namespace Go.Proofs.YtageokjobbjddaaGreatDoor
open Go.RowKit

/-! The reader's condition. -/
theorem Two.high {b g H : Nat} {w w1 w2 : World} (h : Two b g w w1) (k : Two H H w1 w2) (hH : w.heap.size ≤ H) : Two b g w w2 :=
  ⟨k.os.trans h.os, k.tape.trans h.tape, k.output.trans h.output, Nat.le_trans h.size k.size, fun i hi hn hm => (k.block i (Nat.lt_of_lt_of_le hi h.size) (by omega) (by omega)).trans (h.block i hi hn hm)⟩
theorem RdP.high {w0 w w' : World} {b g H : Nat} {t : Pt} {s : ByteArray} (h : RdP w0 w b g t s) (k : Two H H w w') (h0 : w0.heap.size ≤ H) (hb : H ≠ b) (hg : H ≠ g) : RdP w0 w' b g t s :=
  ⟨k.below h.bel h0 h0, k.row h.row (Ne.symm hb) (Ne.symm hb), k.row h.rst (Ne.symm hg) (Ne.symm hg), h.hb, h.hg, h.ne, h.sz⟩
theorem Two.cell1 (H o : Nat) (w : World) (u : Value) : Two H H w (w.setCell ⟨H, o, none⟩ u) := Two.set H o w u (.inl rfl)
theorem Two.row1 (H : Nat) (w : World) (cs : Array Value) : Two H H w (w.setRow H cs) := by
  have k := below_setRow (Below.refl H w) (Nat.le_refl H) cs
  exact ⟨k.os, k.tape, k.output, k.size, fun i _ hn _ => setRow_other w H i cs hn⟩
abbrev cdV (f : ByteArray) (n : Int) (x : It) (u : Value) : Array Value := #[.string f, .int .i64 n, .int .i64 x.kind, .int .i64 x.num, .string x.text, u]
theorem cd_set0 {w : World} {b : Nat} {x0 x1 x2 x3 x4 x5 : Value} {t : TypeId} (h : RowAt w b #[x0, x1, x2, x3, x4, x5] t) (y : Value) : RowAt (w.setCell ⟨b, 0, none⟩ y) b #[y, x1, x2, x3, x4, x5] t := by
  unfold RowAt at h ⊢
  rw [setCell_eq_setRow w b 0 _ t (0, 0) y h]
  exact setRow_heap w b _ _ t _ h
theorem cd_set1 {w : World} {b : Nat} {x0 x1 x2 x3 x4 x5 : Value} {t : TypeId} (h : RowAt w b #[x0, x1, x2, x3, x4, x5] t) (y : Value) : RowAt (w.setCell ⟨b, 1, none⟩ y) b #[x0, y, x2, x3, x4, x5] t := by
  unfold RowAt at h ⊢
  rw [setCell_eq_setRow w b 1 _ t (0, 0) y h]
  exact setRow_heap w b _ _ t _ h
theorem cd_set2 {w : World} {b : Nat} {x0 x1 x2 x3 x4 x5 : Value} {t : TypeId} (h : RowAt w b #[x0, x1, x2, x3, x4, x5] t) (y : Value) : RowAt (w.setCell ⟨b, 2, none⟩ y) b #[x0, x1, y, x3, x4, x5] t := by
  unfold RowAt at h ⊢
  rw [setCell_eq_setRow w b 2 _ t (0, 0) y h]
  exact setRow_heap w b _ _ t _ h
theorem cd_set3 {w : World} {b : Nat} {x0 x1 x2 x3 x4 x5 : Value} {t : TypeId} (h : RowAt w b #[x0, x1, x2, x3, x4, x5] t) (y : Value) : RowAt (w.setCell ⟨b, 3, none⟩ y) b #[x0, x1, x2, y, x4, x5] t := by
  unfold RowAt at h ⊢
  rw [setCell_eq_setRow w b 3 _ t (0, 0) y h]
  exact setRow_heap w b _ _ t _ h
theorem cd_set4 {w : World} {b : Nat} {x0 x1 x2 x3 x4 x5 : Value} {t : TypeId} (h : RowAt w b #[x0, x1, x2, x3, x4, x5] t) (y : Value) : RowAt (w.setCell ⟨b, 4, none⟩ y) b #[x0, x1, x2, x3, y, x5] t := by
  unfold RowAt at h ⊢
  rw [setCell_eq_setRow w b 4 _ t (0, 0) y h]
  exact setRow_heap w b _ _ t _ h
theorem cd_set5 {w : World} {b : Nat} {x0 x1 x2 x3 x4 x5 : Value} {t : TypeId} (h : RowAt w b #[x0, x1, x2, x3, x4, x5] t) (y : Value) : RowAt (w.setCell ⟨b, 5, none⟩ y) b #[x0, x1, x2, x3, x4, y] t := by
  unfold RowAt at h ⊢
  rw [setCell_eq_setRow w b 5 _ t (0, 0) y h]
  exact setRow_heap w b _ _ t _ h
theorem cd_put {w : World} {b : Nat} {x0 x1 x2 x3 x4 x5 : Value} {t : TypeId} (h : RowAt w b #[x0, x1, x2, x3, x4, x5] t) (y2 y3 y4 y5 : Value) : RowAt ((((w.setCell ⟨b, 2, none⟩ y2).setCell ⟨b, 3, none⟩ y3).setCell ⟨b, 4, none⟩ y4).setCell ⟨b, 5, none⟩ y5) b #[x0, x1, y2, y3, y4, y5] t := cd_set5 (cd_set4 (cd_set3 (cd_set2 h y2) y3) y4) y5
theorem store_cd (w : World) (H : Nat) (a0 a1 a2 a3 a4 a5 : Value) (f : ByteArray) (n : Int) (x : It) (la : Option Addr) (m k : Nat) (hr : RowAt w H #[a0, a1, a2, a3, a4, a5] 34) : (Instr.storeAt 34 (.pointer (some ⟨H, 0, none⟩)) (.agg (cdV f n x (.slice la m k)))).run Tryz.prog w = .ok () (w.setRow H (cdV f n x (.slice la m k))) := store_row w H 34 _ _ hr (by kernel_rfl) rfl (by simp [Value.oneCell'])
abbrev it0 : It := .mk 0 0 ⟨#[]⟩ []
def CondR (w0 w : World) (b g : Nat) (o : Option (Cd × St)) (e : Ending) (w' : World) : Prop :=
  match o with
  | none => (∃ f n x la m k, e = .returned (.tuple #[.agg (cdV f n x (.slice la m k)), .bool false])) ∧ (∃ u : St, RdP w0 w' b g u.1 u.2) ∧ Two b g w w'
  | some (c, u) => (∃ la k, e = .returned (.tuple #[.agg (cdV c.field c.sign c.item (.slice la c.item.list.length k)), .bool true]) ∧ ItsAt w' (fun k => w.heap.size ≤ k) (.slice la c.item.list.length k) c.item.list) ∧ c.Ok ∧ TokOk u.1 ∧ RdP w0 w' b g u.1 u.2 ∧ Two b g w w'
set_option maxHeartbeats 8000000 in
set_option maxRecDepth 100000 in
theorem pcond_any (w0 : World) (b g : Nat) (t : Pt) (s : ByteArray) (w : World) (h : RdP w0 w b g t s) (hok : TokOk t) (hv : TokEnv w0) :
    Calls Tryz.prog 49 #[.pointer (some ⟨b, 0, none⟩)] w fun e w' => CondR w0 w b g (condD (t, s)) e w' := by
  have hblt := h.row.lt
  have hglt := h.rst.lt
  have HH0 : Hid (w0.heap.size ≤ w.heap.size) := Nat.le_trans h.hb (Nat.le_of_lt hblt)
  have m1 : w.heap.size ≠ b := by omega
  have m3 : w.heap.size ≠ g := by omega
  have HM1 := hide m1
  have HM3 := hide m3
  have q1 := below_new w (.cells #[.string ⟨#[]⟩, .int .i64 0, .int .i64 0, .int .i64 0, .string ⟨#[]⟩, .slice none 0 0] 34)
  have x1 := RowAt.new w #[.string ⟨#[]⟩, .int .i64 0, .int .i64 0, .int .i64 0, .string ⟨#[]⟩, .slice none 0 0] 34
  obtain ⟨W1, hW1⟩ : ∃ W1, w.alloc (.cells #[.string ⟨#[]⟩, .int .i64 0, .int .i64 0, .int .i64 0, .string ⟨#[]⟩, .slice none 0 0] 34) = W1 := ⟨_, rfl⟩
  have h1 := h.below q1
  rw [hW1] at q1 x1 h1
  have hs1 : W1.heap.size = w.heap.size + 1 := by rw [← hW1]; simp
  have HW := hide hW1
  have HV := hide hv
  have HNM := hide (pname_any w0 b g t s W1 h1 hv)
  obtain ⟨o, ho⟩ : ∃ o, o = condD (t, s) := ⟨_, rfl⟩
  rw [← ho]
  unfold condD at ho
  simp only at ho
  have HX1 := hide x1
  have HQ1 := hide q1
  have HS1 := hide hs1
  have HOK := hide hok
  have HNO := hide (nxtD_ok s h.sz)
  clear h hok h1 hW1 hv q1 x1 m1 m3 hs1
  by_cases h3 : t.kind = 3
  · rw [if_pos h3] at ho
    have hkd : decide (t.kind = 3) = true := by simp [h3]
    have htk : takeT 3 t = t := by simp [takeT, h3]
    rw [hkd, htk] at HNM
    obtain ⟨⟨t1, s1⟩, hu⟩ : ∃ u, u = nxtD s := ⟨_, rfl⟩
    have HS2 : Hid (stepT true t s = (t1, s1)) := by show _ = _; rw [stepT, if_pos rfl, hu]
    rw [HS2.out] at HNM
    rw [← hu] at ho HNO
    simp only at ho HNO
    have HO := hide ho
    obtain ⟨tk, tt, tn⟩ := t
    simp only at HNM HO
    clear hu h3 hkd htk ho HS2
    go_enter Tryz.func49, Tryz.ntmps49
    go_wp2_with fail
    rw [HW.out]
    refine HNM.out.mono ?_
    rintro e W2 ⟨rfl, hR2, hT2⟩
    have x2 := hT2.row HX1.out HM1.out HM3.out
    obtain ⟨c0, _⟩ := x2.q6
    have f0 := x2.free 0
    have x3 := cd_set0 x2 (.string tt)
    have HT3 : Hid (Two b g w (W2.setCell ⟨w.heap.size, 0, none⟩ (.string tt))) := ((Two.of_below HQ1.out).trans hT2).high (Two.cell1 _ _ _ _) (Nat.le_refl _)
    have HR3 := hide (hR2.high (Two.cell1 w.heap.size 0 W2 (.string tt)) HH0.out HM1.out HM3.out)
    obtain ⟨W3, hW3⟩ : ∃ W3, W2.setCell ⟨w.heap.size, 0, none⟩ (.string tt) = W3 := ⟨_, rfl⟩
    rw [hW3] at x3 HT3 HR3
    have HW3 := hide hW3
    have HX3 := hide x3
    have HTK := hide (ptake_any w0 b g t1 s1 6 W3 HR3.out HV.out)
    clear HNM hR2 hT2 x2 x3 hW3 HX1 HQ1
    by_cases h6 : t1.kind = 6
    · rw [if_pos h6] at HO
      have hkd : decide (t1.kind = 6) = true := by simp [h6]
      have htk : takeT 6 t1 = t1 := by simp [takeT, h6]
      rw [hkd, htk] at HTK
      obtain ⟨⟨t2, s2⟩, hu⟩ : ∃ u, u = nxtD s1 := ⟨_, rfl⟩
      have HS2 : Hid (stepT true t1 s1 = (t2, s2)) := by show _ = _; rw [stepT, if_pos rfl, hu]
      rw [HS2.out] at HTK
      rw [← hu] at HO
      have HNO2 := hide (nxtD_ok s1 HR3.out.sz)
      rw [← hu] at HNO2
      simp only at HNO2
      obtain ⟨t1k, t1t, t1n⟩ := t1
      simp only at HTK HO
      clear hu h6 hkd htk HS2
      go_wp2_with fail
      rw [HW3.out]
      refine HTK.out.mono ?_
      rintro e W4 ⟨rfl, hR4⟩
      have x4 := RowAt.new W4 (ptV pt0) 67
      have HST := hide (store_pt _ W4.heap.size _ _ _ ⟨t1k, t1t, t1n⟩ x4)
      unfold ptV pt0 at HST
      simp only at HST
      obtain ⟨V, hV⟩ : ∃ V, (W4.alloc (.cells #[.int .i64 0, .string ⟨#[]⟩, .int .i64 0] 67)).setRow W4.heap.size #[.int .i64 t1k, .string t1t, .int .i64 t1n] = V := ⟨_, rfl⟩
      have hB : Below W4.heap.size W4 V := by rw [← hV]; exact below_setRow (below_new W4 _) (Nat.le_refl _) _
      have y2 : RowAt V W4.heap.size #[.int .i64 t1k, .string t1t, .int .i64 t1n] 67 := by rw [← hV]; exact row_set _ _ _ _ _ x4
      rw [hV] at HST
      obtain ⟨⟨d0, d1, d2⟩, _⟩ := pt_cells y2
      have xV := (hR4.2.row HX3.out HM1.out HM3.out).below hB
      have RV := hR4.1.below hB
      have TV : Two b g w V := (HT3.out.trans hR4.2).trans (.of_below hB)
      obtain ⟨_, e1, _⟩ := xV.q6
      have f1 := xV.free 1
      have x5 := cd_set1 xV (.int .i64 t1n)
      have HT5 := hide (TV.high (Two.cell1 w.heap.size 1 V (.int .i64 t1n)) (Nat.le_refl _))
      have HR5 := hide (RV.high (Two.cell1 w.heap.size 1 V (.int .i64 t1n)) HH0.out HM1.out HM3.out)
      obtain ⟨W5, hW5⟩ : ∃ W5, V.setCell ⟨w.heap.size, 1, none⟩ (.int .i64 t1n) = W5 := ⟨_, rfl⟩
      rw [hW5] at x5 HT5 HR5
      have HW5 := hide hW5
      have HX5 := hide x5
      have hsz5 : w.heap.size + 1 ≤ W5.heap.size := by
        have hx := x5.lt
        omega
      have HIT := hide (pitem_any w0 b g HV.out 4 (by omega) t2 s2 W5 HR5.out HNO2.out)
      obtain ⟨oi, hoi⟩ : ∃ oi, oi = itemD 4 (t2, s2) := ⟨_, rfl⟩
      rw [← hoi] at HIT HO
      clear HTK hR4 x4 hV hB y2 xV RV TV x5 hW5 hoi HX3 HR3 HT3
      go_wp2_with (first
        | (refine wpList_store_eq rfl 67 _ _ rfl _ _ rfl rfl HST.out ?_))
      rw [HW5.out]
      refine HIT.out.mono ?_
      rintro e W6 hIR
      clear HIT HST
      cases oi with
      | none =>
        obtain ⟨⟨x, la, n, k, rfl⟩, ⟨u, hRu⟩, hT6⟩ := hIR
        have x6 := hT6.row HX5.out HM1.out HM3.out
        obtain ⟨_, _, c2, c3, c4, c5⟩ := x6.q6
        have f2 := x6.free 2
        have f3 := x6.free 3
        have f4 := x6.free 4
        have f5 := x6.free 5
        have x7 := cd_put x6 (.int .i64 x.kind) (.int .i64 x.num) (.string x.text) (.slice la n k)
        have k7 : Two w.heap.size w.heap.size W6 ((((W6.setCell ⟨w.heap.size, 2, none⟩ (.int .i64 x.kind)).setCell ⟨w.heap.size, 3, none⟩ (.int .i64 x.num)).setCell ⟨w.heap.size, 4, none⟩ (.string x.text)).setCell ⟨w.heap.size, 5, none⟩ (.slice la n k)) := (((Two.cell1 _ _ _ _).trans (Two.cell1 _ _ _ _)).trans (Two.cell1 _ _ _ _)).trans (Two.cell1 _ _ _ _)
        obtain ⟨g0, g1, g2, g3, g4, g5⟩ := x7.q6
        have HSC := hide (store_cd _ w.heap.size _ _ _ _ _ _ tt t1n x la n k x7)
        have HX7 := hide x7
        have k8 := k7.trans (Two.row1 w.heap.size _ (cdV tt t1n x (.slice la n k)))
        have HF : Hid (RdP w0 _ b g u.1 u.2 ∧ Two b g w _) := ⟨hRu.high k8 HH0.out HM1.out HM3.out, (HT5.out.trans hT6).high k8 (Nat.le_refl _)⟩
        clear hRu hT6 x6 x7 k7 k8 HX5 HR5 HT5
        go_wp2_with (first
          | (refine wpList_store_eq rfl 34 _ _ rfl _ _ rfl rfl HSC.out ?_))
        refine bodyPost_ret (results_row_tmp rfl _ _ w.heap.size 34 _ (0, 0) _ rfl (row_set _ _ _ _ _ HX7.out) Tryz.underlying34 rfl (by kernel_rfl)) rfl ?_
        rw [HO.out]
        exact ⟨⟨tt, t1n, x, la, n, k, rfl⟩, ⟨u, HF.out.1⟩, HF.out.2⟩
      | some p =>
        obtain ⟨x, u⟩ := p
        obtain ⟨⟨la, k, rfl, hIT⟩, hxok, huok, hRu, hT6⟩ := hIR
        have x6 := hT6.row HX5.out HM1.out HM3.out
        obtain ⟨_, _, c2, c3, c4, c5⟩ := x6.q6
        have f2 := x6.free 2
        have f3 := x6.free 3
        have f4 := x6.free 4
        have f5 := x6.free 5
        have x7 := cd_put x6 (.int .i64 x.kind) (.int .i64 x.num) (.string x.text) (.slice la x.list.length k)
        have k7 : Two w.heap.size w.heap.size W6 ((((W6.setCell ⟨w.heap.size, 2, none⟩ (.int .i64 x.kind)).setCell ⟨w.heap.size, 3, none⟩ (.int .i64 x.num)).setCell ⟨w.heap.size, 4, none⟩ (.string x.text)).setCell ⟨w.heap.size, 5, none⟩ (.slice la x.list.length k)) := (((Two.cell1 _ _ _ _).trans (Two.cell1 _ _ _ _)).trans (Two.cell1 _ _ _ _)).trans (Two.cell1 _ _ _ _)
        obtain ⟨g0, g1, g2, g3, g4, g5⟩ := x7.q6
        have HSC := hide (store_cd _ w.heap.size _ _ _ _ _ _ tt t1n x la x.list.length k x7)
        have HX7 := hide x7
        have k8 := k7.trans (Two.row1 w.heap.size _ (cdV tt t1n x (.slice la x.list.length k)))
        have HF : Hid (RdP w0 _ b g u.1 u.2 ∧ Two b g w _) := ⟨hRu.high k8 HH0.out HM1.out HM3.out, (HT5.out.trans hT6).high k8 (Nat.le_refl _)⟩
        have HIT := hide ((hIT.two k8 (fun j hj => ⟨by omega, by omega⟩)).imp (G := fun j => w.heap.size ≤ j) (fun j hj => by omega))
        have HCO : Hid (Cd.Ok ⟨tt, t1n, x⟩ ∧ TokOk u.1) := ⟨⟨HOK.out.t, HNO.out.n1, HNO.out.n2, hxok⟩, huok⟩
        clear hRu hT6 x6 x7 k7 k8 HX5 HR5 HT5 hIT hxok huok
        go_wp2_with (first
          | (refine wpList_store_eq rfl 34 _ _ rfl _ _ rfl rfl HSC.out ?_))
        refine bodyPost_ret (results_row_tmp rfl _ _ w.heap.size 34 _ (0, 0) _ rfl (row_set _ _ _ _ _ HX7.out) Tryz.underlying34 rfl (by kernel_rfl)) rfl ?_
        rw [HO.out]
        exact ⟨⟨la, k, rfl, HIT.out⟩, HCO.out.1, HCO.out.2, HF.out.1, HF.out.2⟩
    · rw [if_neg h6] at HO
      have hkd : decide (t1.kind = 6) = false := by simp [h6]
      have htk : takeT 6 t1 = pt0 := by simp [takeT, h6]
      rw [hkd, htk] at HTK
      have HS2 : Hid (stepT false t1 s1 = (t1, s1)) := rfl
      rw [HS2.out] at HTK
      unfold pt0 at HTK
      clear h6 hkd htk HS2
      go_wp2_with fail
      rw [HW3.out]
      refine HTK.out.mono ?_
      rintro e W4 ⟨rfl, hR4⟩
      have x4 := RowAt.new W4 (ptV pt0) 67
      have HST := hide (store_pt _ W4.heap.size _ _ _ pt0 x4)
      unfold ptV pt0 at HST
      simp only at HST
      obtain ⟨V, hV⟩ : ∃ V, (W4.alloc (.cells #[.int .i64 0, .string ⟨#[]⟩, .int .i64 0] 67)).setRow W4.heap.size #[.int .i64 0, .string ⟨#[]⟩, .int .i64 0] = V := ⟨_, rfl⟩
      have hB : Below W4.heap.size W4 V := by rw [← hV]; exact below_setRow (below_new W4 _) (Nat.le_refl _) _
      rw [hV] at HST
      have xV := (hR4.2.row HX3.out HM1.out HM3.out).below hB
      have RV := hR4.1.below hB
      have TV : Two b g w V := (HT3.out.trans hR4.2).trans (.of_below hB)
      obtain ⟨g0, g1, g2, g3, g4, g5⟩ := xV.q6
      have HSC := hide (store_cd _ w.heap.size _ _ _ _ _ _ tt 0 it0 none 0 0 xV)
      have HXV := hide xV
      have k8 := Two.row1 w.heap.size V (cdV tt 0 it0 (.slice none 0 0))
      have HF : Hid (RdP w0 _ b g t1 s1 ∧ Two b g w _) := ⟨RV.high k8 HH0.out HM1.out HM3.out, TV.high k8 (Nat.le_refl _)⟩
      clear HTK hR4 x4 hV hB xV RV TV k8 HX3 HR3 HT3
      go_wp2_with (first
        | (refine wpList_store_eq rfl 67 _ _ rfl _ _ rfl rfl HST.out ?_)
        | (refine wpList_store_eq rfl 34 _ _ rfl _ _ rfl rfl HSC.out ?_))
      refine bodyPost_ret (results_row_tmp rfl _ _ w.heap.size 34 _ (0, 0) _ rfl (row_set _ _ _ _ _ HXV.out) Tryz.underlying34 rfl (by kernel_rfl)) rfl ?_
      rw [HO.out]
      exact ⟨⟨tt, 0, it0, none, 0, 0, rfl⟩, ⟨(t1, s1), HF.out.1⟩, HF.out.2⟩
  · rw [if_neg h3] at ho
    have HO := hide ho
    have hkd : decide (t.kind = 3) = false := by simp [h3]
    have htk : takeT 3 t = pt0 := by simp [takeT, h3]
    rw [hkd, htk] at HNM
    have HS2 : Hid (stepT false t s = (t, s)) := rfl
    rw [HS2.out] at HNM
    unfold pt0 at HNM
    clear h3 hkd htk ho HS2
    go_enter Tryz.func49, Tryz.ntmps49
    go_wp2_with fail
    rw [HW.out]
    refine HNM.out.mono ?_
    rintro e W2 ⟨rfl, hR2, hT2⟩
    have x2 := hT2.row HX1.out HM1.out HM3.out
    obtain ⟨c0, _⟩ := x2.q6
    have f0 := x2.free 0
    have x3 := cd_set0 x2 (.string ⟨#[]⟩)
    obtain ⟨g0, g1, g2, g3, g4, g5⟩ := x3.q6
    have HSC := hide (store_cd _ w.heap.size _ _ _ _ _ _ ⟨#[]⟩ 0 it0 none 0 0 x3)
    have HX3 := hide x3
    have k8 := (Two.cell1 w.heap.size 0 W2 (.string ⟨#[]⟩)).trans (Two.row1 w.heap.size _ (cdV ⟨#[]⟩ 0 it0 (.slice none 0 0)))
    have HF : Hid (RdP w0 _ b g t s ∧ Two b g w _) := ⟨hR2.high k8 HH0.out HM1.out HM3.out, ((Two.of_below HQ1.out).trans hT2).high k8 (Nat.le_refl _)⟩
    clear HNM hR2 hT2 x2 x3 k8
    go_wp2_with (first
      | (refine wpList_store_eq rfl 34 _ _ rfl _ _ rfl rfl HSC.out ?_))
    refine bodyPost_ret (results_row_tmp rfl _ _ w.heap.size 34 _ (0, 0) _ rfl (row_set _ _ _ _ _ HX3.out) Tryz.underlying34 rfl (by kernel_rfl)) rfl ?_
    rw [HO.out]
    exact ⟨⟨⟨#[]⟩, 0, it0, none, 0, 0, rfl⟩, ⟨(t, s), HF.out.1⟩, HF.out.2⟩
end Go.Proofs.YtageokjobbjddaaGreatDoor
