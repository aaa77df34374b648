import Derived.Test.YtagldlchamlpdaaDoorBRet
import Derived.Test.YtagldlchamlpdaaDoorBSame
import Derived.Test.YtagldlchamlpdaaDoorBJoin
import Derived.Test.YtagldlchamlpdaaDoorRBJoin
import Derived.Test.YtagldlchamlpdaaDoorRBCut
import Derived.Test.YtagldlchamlpdaaDoorLErr13
namespace Go.Proofs.YtagldlchamlpdaaDoor
open Go.RowKit

theorem numOf_err13 {A : Nat → Addr} {ev : Value} {c : Nat} (W : World) (h : NumOf A ev c) (hE : ErrsG 13 gAll A W) : Calls Tryd.prog 19 #[ev] W fun e w' => e = .returned (.int .i64 (c : Int)) ∧ W = w' := num_of W h (hE.weak (by decide))
theorem RowAt.c5 {w : World} {b : Nat} {x0 x1 x2 x3 x4 : Value} {t : TypeId} (h : RowAt w b #[x0, x1, x2, x3, x4] t) : w.cell? ⟨b, 0, none⟩ = some x0 ∧ w.cell? ⟨b, 1, none⟩ = some x1 ∧ w.cell? ⟨b, 2, none⟩ = some x2 ∧ w.cell? ⟨b, 3, none⟩ = some x3 ∧ w.cell? ⟨b, 4, none⟩ = some x4 :=
  ⟨h.cell 0 (by simp), h.cell 1 (by simp), h.cell 2 (by simp), h.cell 3 (by simp), h.cell 4 (by simp)⟩

set_option maxRecDepth 20000 in
set_option maxHeartbeats 4000000 in
theorem cuts_any (A : Nat → Addr) (fa fb : Int) (la lb : List Lk) (a1 a2 : Option Addr) (c1 c2 : Nat) (key : ByteArray) (w : World) (hla : la.length ≤ 5864062014634) (hlb : lb.length ≤ 5864062014634) (hsum : la.length + lb.length + 1 ≤ 5864062014805) (hoka : OkK la) (hra : LkR w (.slice a1 la.length c1) la) (hrb : LkR w (.slice a2 lb.length c2) lb) (hE : ErrsG 13 gAll A w) :
    Calls Tryd.prog 4 #[.agg #[.int .i64 fa, .slice a1 la.length c1, .string key, .int .i64 fb, .slice a2 lb.length c2]] w fun e w' => e = .returned (.bool true) ∧ Below w.heap.size w w' := by
  obtain ⟨na, hna⟩ : ∃ n, n = la.length := ⟨_, rfl⟩
  obtain ⟨nb, hnb⟩ : ∃ n, n = lb.length := ⟨_, rfl⟩
  rw [← hna] at hra ⊢
  rw [← hnb] at hrb ⊢
  have q0 := below_new w (.cells #[.int .i64 fa, .slice a1 na c1, .string key, .int .i64 fb, .slice a2 nb c2] 43)
  have x0 := RowAt.new w #[.int .i64 fa, .slice a1 na c1, .string key, .int .i64 fb, .slice a2 nb c2] 43
  generalize hW0 : w.alloc (.cells #[.int .i64 fa, .slice a1 na c1, .string key, .int .i64 fb, .slice a2 nb c2] 43) = W0 at *
  have HX0 := hide x0
  have HQ0 := hide q0
  have HRA := hide (hra.below q0)
  have HRB := hide (hrb.below q0)
  have HE := hide (hE.keep q0)
  have HNA := hide hna
  have HNB := hide hnb
  have HLA := hide hla
  have HLB := hide hlb
  have HSUM := hide hsum
  have HOK := hide hoka
  obtain ⟨p0, p1, p2, p3, p4⟩ := x0.c5
  clear q0 x0 hra hrb hE hna hnb hla hlb hsum hoka
  go_enter Tryd.func4, Tryd.ntmps4
  go_wp2_with fail
  refine (lent_any fa _ la W0 (by have := HLA.out; omega) HRA.out).mono ?_
  rintro e w1 ⟨ua, uc, rfl, ho1, hb1⟩
  rw [← HNA.out] at ho1 ⊢
  have q1 := below_new w1 (.cells #[.int .i64 fa, .slice ua na uc] 27)
  have x1 := RowAt.new w1 #[.int .i64 fa, .slice ua na uc] 27
  generalize hW1 : w1.alloc (.cells #[.int .i64 fa, .slice ua na uc] 27) = W1 at *
  have HB1 := hide (Below.next hb1 q1)
  have HX1 := hide x1
  have HO1 := hide (ho1.below q1)
  clear ho1 hb1 q1 x1 p0 p1 p2 p3 p4
  obtain ⟨p0, p1, p2, p3, p4⟩ := (HX0.out.below HB1.out).c5
  go_wp2_with fail
  refine (lent_any fb _ lb W1 (by have := HLB.out; omega) (HRB.out.below HB1.out)).mono ?_
  rintro e w2 ⟨va, vc, rfl, ho2, hb2⟩
  rw [← HNB.out] at ho2 ⊢
  have q2 := below_new w2 (.cells #[.int .i64 fb, .slice va nb vc] 27)
  have x2 := RowAt.new w2 #[.int .i64 fb, .slice va nb vc] 27
  generalize hW2 : w2.alloc (.cells #[.int .i64 fb, .slice va nb vc] 27) = W2 at *
  have HB2 := hide (Below.next hb2 q2)
  have HX2 := hide x2
  have HO2 := hide (ho2.below q2)
  have HB02 := hide (Below.next HB1.out (Below.next hb2 q2))
  clear ho2 hb2 q2 x2 p0 p1 p2 p3 p4
  have y1 := HX1.out.below HB2.out
  have p0 := y1.c0
  have p1 := y1.c1
  have htka : (la ++ marksK 4).take na = la := by rw [HNA.out, List.take_left]
  have htkb : (lb ++ marksK 4).take nb = lb := by rw [HNB.out, List.take_left]
  have hlna : (la ++ marksK 4).length = na + 4 := by rw [List.length_append, marksK_len, ← HNA.out]
  have hlnb : (lb ++ marksK 4).length = nb + 4 := by rw [List.length_append, marksK_len, ← HNB.out]
  have r1 := (HO1.out.at.take (m := na) (by rw [HNA.out]; omega)).below HB2.out
  rw [htka] at r1
  have r2 := HO2.out.at.take (m := nb) (by rw [HNB.out]; omega)
  rw [htkb] at r2
  have HR1 := hide r1
  have HR2 := hide r2
  have HM1 := hide (HO1.out.at.below HB2.out)
  have HM2 := hide HO2.out.at
  clear htka htkb hlna hlnb r1 r2 y1
  go_wp2_with fail
  refine (bcut_any A fa _ la W2 HOK.out (by have := HLA.out; omega) HR1.out (errC_all (HE.out.keep HB02.out))).mono ?_
  rintro e w3 ⟨⟨i, cc, k1, f1, f2, u1, u2, ev, rfl, hcn, hno, hlists⟩, hb3⟩
  have HCN := hide hcn
  have HNO := hide hno
  have hli : ∃ s1 n1 d1 s2 n2 d2, u1 = .slice s1 n1 d1 ∧ u2 = .slice s2 n2 d2 ∧ LkR w3 u1 (if cc = 0 then la.take i else []) ∧ LkR w3 u2 (if cc = 0 then la.drop (i + 1) else []) := by
    rcases hlists with ⟨h0, _, h1, h2, _⟩ | ⟨h0, _, _, _, rfl, rfl⟩
    · obtain ⟨s1, d1, e1⟩ := h1.form
      obtain ⟨s2, d2, e2⟩ := h2.form
      rw [if_pos h0, if_pos h0]; exact ⟨s1, _, d1, s2, _, d2, e1, e2, h1.at, h2.at⟩
    · rw [if_neg h0, if_neg h0]; exact ⟨_, _, _, _, _, _, rfl, rfl, LkR.nil _, LkR.nil _⟩
  have hval : (cc = 0 ∧ ∃ h : i < la.length, f1 = fa ∧ k1 = la[i].1 ∧ f2 = la[i].2) ∨ (cc ≠ 0 ∧ f1 = 0 ∧ k1 = ⟨#[]⟩ ∧ f2 = 0) := by
    rcases hlists with ⟨h0, h1, _⟩ | ⟨h0, h1, h2, h3, _⟩
    · exact .inl ⟨h0, h1⟩
    · exact .inr ⟨h0, h1, h2, h3⟩
  obtain ⟨s1, n1, d1, s2, n2, d2, rfl, rfl, l1, l2⟩ := hli
  have q3 := below_new w3 (.cells #[.int .i64 f1, .slice s1 n1 d1] 27)
  have x3 := RowAt.new w3 #[.int .i64 f1, .slice s1 n1 d1] 27
  have t3 : (w3.alloc (.cells #[.int .i64 f1, .slice s1 n1 d1] 27)).heap.size = w3.heap.size + 1 := by simp
  have q4 := below_new (w3.alloc (.cells #[.int .i64 f1, .slice s1 n1 d1] 27)) (.cells #[.int .i64 f2, .slice s2 n2 d2] 27)
  have x4 := RowAt.new (w3.alloc (.cells #[.int .i64 f1, .slice s1 n1 d1] 27)) #[.int .i64 f2, .slice s2 n2 d2] 27
  rw [t3] at x4
  have HB4 := hide (Below.next HB02.out (Below.next hb3 (Below.next q3 q4)))
  have HB24 := hide (Below.next hb3 (Below.next q3 q4))
  have HX3 := hide (x3.below q4)
  have HX4 := hide x4
  have HL := hide (And.intro ((l1.below q3).below q4) ((l2.below q3).below q4))
  have HV := hide hval
  clear hcn hno hlists hval l1 l2 hb3 p0 p1 q3 q4 x3 x4 t3
  obtain ⟨p0, p1, p2, p3, p4⟩ := (HX0.out.below HB4.out).c5
  go_wp2_with fail
  generalize (w3.alloc (.cells #[.int .i64 f1, .slice s1 n1 d1] 27)).alloc (.cells #[.int .i64 f2, .slice s2 n2 d2] 27) = W4 at *
  refine (rbcut_any fa _ la W4 HOK.out (by have := HLA.out; omega) (HRA.out.below HB4.out)).mono ?_
  rintro e w5 ⟨⟨i', cc', k2, g1, g2, v1, v2, rfl, hcn', hlists⟩, hb5⟩
  obtain ⟨rfl, rfl⟩ := HCN.out.unique hcn'
  have hli : ∃ s1 n1 d1 s2 n2 d2, v1 = .slice s1 n1 d1 ∧ v2 = .slice s2 n2 d2 ∧ LkR w5 v1 (if cc = 0 then la.take i else []) ∧ LkR w5 v2 (if cc = 0 then la.drop (i + 1) else []) := by
    rcases hlists with ⟨h0, _, h1, h2⟩ | ⟨h0, _, _, _, rfl, rfl⟩
    · obtain ⟨s1, d1, e1⟩ := h1.form
      obtain ⟨s2, d2, e2⟩ := h2.form
      rw [if_pos h0, if_pos h0]; exact ⟨s1, _, d1, s2, _, d2, e1, e2, h1.at, h2.at⟩
    · rw [if_neg h0, if_neg h0]; exact ⟨_, _, _, _, _, _, rfl, rfl, LkR.nil _, LkR.nil _⟩
  have hval : g1 = f1 ∧ k2 = k1 ∧ g2 = f2 := by
    rcases hlists with ⟨h0, ⟨h1, h2, h3, h4⟩, _⟩ | ⟨h0, h1, h2, h3, _⟩
    · rcases HV.out with ⟨_, j1, j2, j3, j4⟩ | ⟨j0, _⟩
      · exact ⟨h2.trans j2.symm, h3.trans j3.symm, h4.trans j4.symm⟩
      · exact absurd h0 j0
    · rcases HV.out with ⟨j0, _⟩ | ⟨_, j2, j3, j4⟩
      · exact absurd j0 h0
      · exact ⟨h1.trans j2.symm, h2.trans j3.symm, h3.trans j4.symm⟩
  obtain ⟨rfl, rfl, rfl⟩ := hval
  obtain ⟨e1, m1, b1, e2, m2, b2, rfl, rfl, l1, l2⟩ := hli
  have q3 := below_new w5 (.cells #[.int .i64 g1, .slice e1 m1 b1] 27)
  have x3 := RowAt.new w5 #[.int .i64 g1, .slice e1 m1 b1] 27
  have t3 : (w5.alloc (.cells #[.int .i64 g1, .slice e1 m1 b1] 27)).heap.size = w5.heap.size + 1 := by simp
  have q4 := below_new (w5.alloc (.cells #[.int .i64 g1, .slice e1 m1 b1] 27)) (.cells #[.int .i64 g2, .slice e2 m2 b2] 27)
  have x4 := RowAt.new (w5.alloc (.cells #[.int .i64 g1, .slice e1 m1 b1] 27)) #[.int .i64 g2, .slice e2 m2 b2] 27
  rw [t3] at x4
  have HB46 := hide (Below.next hb5 (Below.next q3 q4))
  have HB6 := hide (Below.next HB4.out HB46.out)
  have HX5 := hide (x3.below q4)
  have HX6 := hide x4
  have HL2 := hide (And.intro ((l1.below q3).below q4) ((l2.below q3).below q4))
  have hlb : (if cc = 0 then la.take i else []).length ≤ 140737488355328 ∧ (if cc = 0 then la.drop (i + 1) else []).length ≤ 140737488355328 := by
    have := HLA.out
    split
    · rw [List.length_take, List.length_drop]; omega
    · simp
  have HLB2 := hide hlb
  clear hcn' hlists l1 l2 hb5 p0 p1 p2 p3 p4 q3 q4 x3 x4 t3 hlb
  have o0 := (HX3.out.below HB46.out).c0
  have o1 := (HX3.out.below HB46.out).c1
  have o2 := HX5.out.c0
  have o3 := HX5.out.c1
  go_wp2_with fail
  generalize (w5.alloc (.cells #[.int .i64 g1, .slice e1 m1 b1] 27)).alloc (.cells #[.int .i64 g2, .slice e2 m2 b2] 27) = W6 at *
  refine (sameb_same g1 _ _ _ W6 HLB2.out.1 (HL.out.1.below HB46.out) HL2.out.1).mono ?_
  rintro e w7 ⟨rfl, hb7⟩
  have HB7 := hide hb7
  clear hb7 o0 o1 o2 o3
  have o0 := ((HX4.out.below HB46.out).below HB7.out).c0
  have o1 := ((HX4.out.below HB46.out).below HB7.out).c1
  have o2 := (HX6.out.below HB7.out).c0
  have o3 := (HX6.out.below HB7.out).c1
  go_wp2_with fail
  refine (sameb_same g2 _ _ _ w7 HLB2.out.2 ((HL.out.2.below HB46.out).below HB7.out) (HL2.out.2.below HB7.out)).mono ?_
  rintro e w8 ⟨rfl, hb8⟩
  have HB8 := hide (Below.next HB6.out (Below.next HB7.out hb8))
  have HB28 := hide (Below.next HB24.out (Below.next HB46.out (Below.next HB7.out hb8)))
  clear hb8 o0 o1 o2 o3 HX3 HX4 HX5 HX6 HL HL2 HB7 HB46 HB24
  have HNM := hide (numOf_err13 w8 HNO.out (HE.out.keep HB8.out))
  have hk : (k2.toList != k2.toList) = false := by simp
  have hk2 : ((cc : Int) != (cc : Int)) = false := by simp
  go_wp2_with fail
  refine HNM.out.mono ?_
  rintro e w9 ⟨rfl, rfl⟩
  have y1 := (HX1.out.below HB2.out).below HB28.out
  have y2 := HX2.out.below HB28.out
  have o0 := y1.c0
  have o1 := y1.c1
  have o2 := y2.c0
  have o3 := y2.c1
  obtain ⟨p0, p1, p2, p3, p4⟩ := (HX0.out.below HB8.out).c5
  clear y1 y2 HNM
  go_wp2_with fail
  refine (bjoin_any fa fb key _ _ la lb w8 HSUM.out (HR1.out.below HB28.out) (HR2.out.below HB28.out)).mono ?_
  rintro e w10 ⟨u, rfl, ho, hb10⟩
  obtain ⟨ja, jc, hu⟩ := ho.form
  subst hu
  generalize hjn : (joinL la key fb lb).length = jn at *
  have q3 := below_new w10 (.cells #[.int .i64 fa, .slice ja jn jc] 27)
  have x3 := RowAt.new w10 #[.int .i64 fa, .slice ja jn jc] 27
  generalize hW10 : w10.alloc (.cells #[.int .i64 fa, .slice ja jn jc] 27) = W10 at *
  have HB10 := hide (Below.next HB8.out (Below.next hb10 q3))
  have HB210 := hide (Below.next HB28.out (Below.next hb10 q3))
  have HX10 := hide x3
  have HJ := hide (ho.at.below q3)
  clear o0 o1 o2 o3 p0 p1 p2 p3 p4 ho hb10 q3 x3
  obtain ⟨p0, p1, p2, p3, p4⟩ := (HX0.out.below HB10.out).c5
  go_wp2_with fail
  refine (rbjoin_any fa fb key _ _ la lb W10 HSUM.out (HRA.out.below HB10.out) (HRB.out.below HB10.out)).mono ?_
  rintro e w11 ⟨u, rfl, ho, hb11⟩
  obtain ⟨ra, rc, hu⟩ := ho.form
  subst hu
  rw [hjn] at *
  have q3 := below_new w11 (.cells #[.int .i64 fa, .slice ra jn rc] 27)
  have x3 := RowAt.new w11 #[.int .i64 fa, .slice ra jn rc] 27
  generalize hW11 : w11.alloc (.cells #[.int .i64 fa, .slice ra jn rc] 27) = W11 at *
  have HB1011 := hide (Below.next hb11 q3)
  have HB11 := hide (Below.next HB10.out (Below.next hb11 q3))
  have HB211 := hide (Below.next HB210.out (Below.next hb11 q3))
  have HX11 := hide x3
  have HJ2 := hide (ho.at.below q3)
  have HJN : Hid ((joinL la key fb lb).length ≤ 140737488355328) := by
    show _ ≤ _
    have := HSUM.out
    simp only [joinL, List.length_append, List.length_cons]; omega
  clear p0 p1 p2 p3 p4 ho hb11 q3 x3 hjn
  have o0 := (HX10.out.below HB1011.out).c0
  have o1 := (HX10.out.below HB1011.out).c1
  have o2 := HX11.out.c0
  have o3 := HX11.out.c1
  go_wp2_with fail
  refine (sameb_same fa _ _ _ W11 HJN.out (HJ.out.below HB1011.out) HJ2.out).mono ?_
  rintro e w12 ⟨rfl, hb12⟩
  have HB12 := hide (Below.next HB11.out hb12)
  have HB212 := hide (Below.next HB211.out hb12)
  clear o0 o1 o2 o3 hb12
  obtain ⟨p0, p1, p2, p3, p4⟩ := (HX0.out.below HB12.out).c5
  go_wp2_with fail
  refine (returned_true fa _ _ la w12 (by have := HLA.out; omega) (HM1.out.below HB212.out) (HRA.out.below HB12.out)).mono ?_
  rintro e w13 ⟨rfl, hb13⟩
  have HB13 := hide (Below.next HB12.out hb13)
  have HB213 := hide (Below.next HB212.out hb13)
  clear p0 p1 p2 p3 p4 hb13
  obtain ⟨p0, p1, p2, p3, p4⟩ := (HX0.out.below HB13.out).c5
  go_wp2_with fail
  refine (returned_true fb _ _ lb w13 (by have := HLB.out; omega) (HM2.out.below HB213.out) (HRB.out.below HB13.out)).mono ?_
  rintro e w14 ⟨rfl, hb14⟩
  have HB14 := hide (Below.next HQ0.out (Below.next HB13.out hb14))
  clear p0 p1 p2 p3 p4 hb14
  go_wp2
  go_ret
  exact ⟨rfl, HB14.out⟩

end Go.Proofs.YtagldlchamlpdaaDoor
