import Derived.Test.YtgljkgkophaefabDoorOver
namespace Go.Proofs.YtgljkgkophaefabDoor
open Go.RowKit

theorem OnlyB.below {cs : List Nat} {w w' : World} {b : Nat} (h : OnlyB cs w w') (hb : b ≤ w.heap.size) (hc : ∀ k ∈ cs, b ≤ k) : Below b w w' :=
  ⟨h.os, h.tape, h.output, h.size, fun k hk => h.block k (by omega) (fun hm => by have := hc k hm; omega)⟩
theorem below_then {b : Nat} {w w1 w2 : World} (h : Below b w w1) (hb : b ≤ w.heap.size) (k : Below w1.heap.size w1 w2) : Below b w w2 := h.trans (k.mono (Nat.le_trans hb h.size))

set_option maxHeartbeats 4000000 in
theorem anew_any (aA aM : Addr) (q : List It) (v : Value) (base : Nat) (w : World) (hv : ItsOwn w base v q) (he : Errs2 aA aM w) (hn : 2 ≤ q.length) (hn2 : q.length ≤ 16) (hq : VL 4 q) (hl : (encL q).length ≤ 60000)
    (hk : (q[q.length - 1]'(by omega)).kind = 5) (gA : 2 < base) : Calls Tryd.prog 22 #[v] w fun e w' => e = .returned (.bool true) ∧ Below base w w' := by
  have i0 := (hv.at' (by omega)).any
  have T1 := hide' (twins_any _ q v w (Nat.le_refl _) i0)
  have HV := hide' hv
  have HE := hide' he
  have HQ : Hid (VL 4 q ∧ (encL q).length ≤ 60000 ∧ overL q ≠ q) := ⟨hq, hl, overL_ne (by intro h; simp [h] at hn) hk⟩
  obtain ⟨g, c, rfl, hgb, hgl⟩ := (show ∃ g c, v = .slice (some ⟨g, 0, none⟩) q.length c ∧ base ≤ g ∧ g < w.heap.size from by
    obtain ⟨us, hus, how, -⟩ := hv
    obtain ⟨g, c, rfl, h1, h2⟩ := how.form (by omega)
    exact ⟨g, c, rfl, h1, h2⟩)
  clear i0 hv he hq hl hk
  go_enter Tryd.func22, Tryd.ntmps22
  go_wp2_with fail
  refine T1.out.mono ?_
  rintro e w1 ⟨v1, rfl, o1, hb1⟩
  have HB0 : Hid (base ≤ w.heap.size) := by show _ ≤ _; omega
  have HB1 : Hid (Below base w w1) := hb1.mono HB0.out
  have HV1 := hide' (HV.out.keep hb1)
  have HE1 := hide' (HE.out.keep hb1)
  have HO1 := hide' o1
  have C1 := hide' (compare_any aA aM q q _ v1 w1 (HV1.out.at' (by omega)).any (o1.at' (by omega)).any HE1.out (fun _ => by have := HQ.out.2.1; omega) (fun _ => by have := HQ.out.2.1; omega))
  rw [compF_VL HQ.out.1 (by have := HQ.out.2.1; omega) HQ.out.1 (by have := HQ.out.2.1; omega), (compV_VL HQ.out.1 (by have := HQ.out.2.1; omega) HQ.out.1 (by have := HQ.out.2.1; omega)).2 rfl] at C1
  obtain ⟨a1, c1, hf1⟩ := o1.form
  subst hf1
  have hgl1 : g < w1.heap.size := Nat.lt_of_lt_of_le hgl hb1.size
  clear T1 o1 hb1 HV HE
  go_wp2_with fail
  refine C1.out.mono ?_
  rintro e w2 ⟨rfl, hb2⟩
  have HB2 : Hid (Below base w w2) := below_then HB1.out HB0.out hb2
  have HV2 := hide' (HV1.out.keep hb2)
  have HE2 := hide' (HE1.out.keep hb2)
  have HO2 := hide' (HO1.out.keep hb2)
  have hgl2 : g < w2.heap.size := Nat.lt_of_lt_of_le hgl1 hb2.size
  have hsz : w1.heap.size ≤ w2.heap.size := hb2.size
  clear C1 hb2 HV1 HE1 HO1 hgl1
  obtain ⟨w3, hrun3, hv3, ho3⟩ := HV2.out.over 0 (by omega) itBig itBig_ok rfl
  obtain ⟨w4, hrun4, hv4, ho4⟩ := hv3.over (q.length - 1) (by simp; omega) itOver itOver_ok rfl
  have HV4 : Hid (ItsOwn w4 base (.slice (some ⟨g, 0, none⟩) q.length c) (overL q)) := hv4
  have ho := ho3.trans ho4
  have HB4 : Hid (Below base w w4) := HB2.out.trans (ho.below (Nat.le_trans HB0.out HB2.out.size) (fun k hk => by simp only [List.mem_singleton] at hk; omega))
  have HO4 : Hid (ItsAt w4 anyB (.slice a1 q.length c1) q) := ((HO2.out.at' (by omega)).but (row := some g) ⟨ho.size, fun k hk hn => ho.block k hk (fun hm => hn (by simp only [List.mem_singleton] at hm; rw [hm]))⟩ (fun k hk e => by have := Option.some.inj e; omega)).any
  have HE4 : Hid (Errs2 aA aM w4) := by
    have h1 := HE2.out.arg
    have h2 := HE2.out.many
    refine ⟨(World.cell?_of_block (a := ⟨2, 0, none⟩) (ho.block _ (World.block_lt_of_cell? _ _ h1) (fun hm => ?_))).trans h1, (World.cell?_of_block (a := ⟨0, 0, none⟩) (ho.block _ (World.block_lt_of_cell? _ _ h2) (fun hm => ?_))).trans h2⟩ <;> (simp only [List.mem_singleton] at hm; omega)
  have HQ2 : Hid (VL 4 (overL q) ∧ (encL (overL q)).length ≤ 61000 ∧ (overL q).length = q.length) := ⟨overL_VL HQ.out.1, by have := HQ.out.2.1; have := overL_len (q := q); omega, by simp [overL]⟩
  rw [show (0 : Nat) * 4 = 0 from rfl] at hrun3
  have hk3 : itBig.kind = 3 := rfl
  have hk4 : itOver.kind = 4 := rfl
  simp only [show itBig.kind = 3 from rfl, show itBig.num = 1099511627776 from rfl, show itBig.text = ⟨#[]⟩ from rfl] at hrun3
  simp only [show itOver.kind = 4 from rfl, show itOver.num = 0 from rfl, show itOver.text = ⟨#[111, 118, 101, 114]⟩ from rfl] at hrun4
  clear HV2 hv3 hv4 ho3 ho4 ho HO2 HE2 hk3 hk4 hsz gA hgb hgl
  obtain ⟨n, hnn⟩ : ∃ n, n = q.length := ⟨_, rfl⟩
  have HN := hide' hnn
  rw [← hnn] at hn hn2 hrun4 HV4 HO4 ⊢
  have HC : Hid (compV (overL q) q ≠ 0 ∧ compF (overL q) q = 0) := by
    have h1 := HQ.out.2.1
    have h2 := HQ2.out.2.1
    exact ⟨fun h => HQ.out.2.2 ((compV_VL HQ2.out.1 (by omega) HQ.out.1 (by omega)).1 h), compF_VL HQ2.out.1 (by omega) HQ.out.1 (by omega)⟩
  have HPK : Hid (packF (overL q) = 0) := packF_VL HQ2.out.1 (by have := HQ2.out.2.1; omega)
  have HSZ : Hid ((encL (overL q)).length ≤ 100000000000000 ∧ (encL q).length ≤ 100000000000000 ∧ (overL q).length ≤ 16) := ⟨by have := HQ2.out.2.1; omega, by have := HQ.out.2.1; omega, by have := HQ2.out.2.2; have := HN.out; omega⟩
  clear HQ HQ2
  generalize overL q = q2 at *
  have P5 := hide' (pack_any aA aM q2 _ w4 (HV4.out.at' (by have := HSZ.out.2.2; omega)).any HE4.out (fun _ => HSZ.out.1))
  rw [HPK.out] at P5
  simp only [errOf, if_true] at P5 ⊢
  obtain ⟨TX, hTX⟩ : ∃ TX, TX = packT q2 := ⟨_, rfl⟩
  have HTX := hide' hTX
  rw [← hTX] at P5
  clear hTX
  clear hnn
  go_wp2_with (first | (refine wpList_store_eq rfl 43 _ _ rfl _ _ rfl rfl hrun3 ?_) | (refine wpList_store_eq rfl 43 _ _ rfl _ _ rfl rfl hrun4 ?_))
  clear hrun3 hrun4
  refine P5.out.mono ?_
  rintro e w5 ⟨rfl, hb5⟩
  have HB5 : Hid (Below base w w5) := below_then HB4.out HB0.out hb5
  have HV5 := hide' (HV4.out.keep hb5)
  have HO5 := hide' (HO4.out.keep hb5)
  have HE5 := hide' (HE4.out.keep hb5)
  have T5 := hide' (twins_any _ q2 _ w5 (Nat.le_refl _) (HV5.out.at' (by have := HSZ.out.2.2; omega)).any)
  clear hb5 HV4 HO4 HE4 P5
  go_wp2_with fail
  refine T5.out.mono ?_
  rintro e w6 ⟨v6, rfl, o6, hb6⟩
  have HB6 : Hid (Below base w w6) := below_then HB5.out HB0.out hb6
  have HV6 := hide' (HV5.out.keep hb6)
  have HO6 := hide' (HO5.out.keep hb6)
  have HE6 := hide' (HE5.out.keep hb6)
  have P6 := hide' (pack_any aA aM q2 v6 w6 (o6.at' (by have := HSZ.out.2.2; omega)).any HE6.out (fun _ => HSZ.out.1))
  rw [HPK.out] at P6
  simp only [errOf, if_true] at P6
  rw [← HTX.out] at P6
  obtain ⟨a6, c6, hf6⟩ := o6.form
  subst hf6
  clear hb6 HV5 HO5 HE5 T5 o6
  go_wp2_with fail
  refine P6.out.mono ?_
  rintro e w7 ⟨rfl, hb7⟩
  have HB7 : Hid (Below base w w7) := below_then HB6.out HB0.out hb7
  have HV7 := hide' (HV6.out.keep hb7)
  have HO7 := hide' (HO6.out.keep hb7)
  have HE7 := hide' (HE6.out.keep hb7)
  have C7 := hide' (compare_any aA aM q2 q _ _ w7 (HV7.out.at' (by have := HSZ.out.2.2; omega)).any HO7.out HE7.out (fun _ => HSZ.out.1) (fun _ => HSZ.out.2.1))
  rw [HC.out.2] at C7
  simp only [errOf, if_true] at C7
  obtain ⟨C, hC⟩ : ∃ C, C = compV q2 q := ⟨_, rfl⟩
  have HCC := hide' hC
  rw [← hC] at C7
  clear hC hb7 HV6 HO6 HE6 P6
  go_wp2_with fail
  refine C7.out.mono ?_
  rintro e w8 ⟨rfl, hb8⟩
  have HB8 : Hid (Below base w w8) := below_then HB7.out HB0.out hb8
  have HV8 := hide' (HV7.out.keep hb8)
  have HO8 := hide' (HO7.out.keep hb8)
  have HE8 := hide' (HE7.out.keep hb8)
  have T8 := hide' (twins_any _ q2 _ w8 (Nat.le_refl _) (HV8.out.at' (by have := HSZ.out.2.2; omega)).any)
  clear hb8 HV7 HO7 HE7 C7
  go_wp2_with fail
  refine T8.out.mono ?_
  rintro e w9 ⟨v9, rfl, o9, hb9⟩
  have HB9 : Hid (Below base w w9) := below_then HB8.out HB0.out hb9
  have C9 := hide' (compare_any aA aM q2 q v9 _ w9 (o9.at' (by have := HSZ.out.2.2; omega)).any (HO8.out.keep hb9) (HE8.out.keep hb9) (fun _ => HSZ.out.1) (fun _ => HSZ.out.2.1))
  rw [HC.out.2] at C9
  simp only [errOf, if_true] at C9
  rw [← HCC.out] at C9
  obtain ⟨a9, c9, hf9⟩ := o9.form
  subst hf9
  have hC0 : ¬ C = 0 := by have := HC.out.1; have h := HCC.out; rw [h]; exact this
  clear hb9 HV8 HO8 HE8 T8 o9 HCC HC HTX HPK HSZ
  go_wp2_with fail
  refine C9.out.mono ?_
  rintro e w10 ⟨rfl, hb10⟩
  have HB10 : Hid (Below base w w10) := below_then HB9.out HB0.out hb10
  clear hb10
  clear C9
  go_wp2_with fail
  go_ret
  refine ⟨?_, HB10.out⟩
  show Ending.returned (.bool (C != 0)) = _
  rw [bne_iff_ne.2 hC0]
end Go.Proofs.YtgljkgkophaefabDoor
