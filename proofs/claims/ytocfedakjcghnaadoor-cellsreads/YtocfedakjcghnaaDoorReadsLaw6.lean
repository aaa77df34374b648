import Derived.Test.YtocfedakjcghnaaDoorLone
import Derived.Test.YtocfedakjcghnaaDoorRRead6
namespace Go.Proofs.YtocfedakjcghnaaDoor
open Go.RowKit

/-- What a body of so many cells holds, and the refusal's number. -/
def RD (c : Int) (s : ByteArray) (us : List ByteArray) (num : Nat) : Prop := ((0 ≤ c ∧ OkR s.data.toList c.toNat) ∧ us = cellsB s.data.toList c.toNat ∧ num = 0) ∨ (¬ (0 ≤ c ∧ OkR s.data.toList c.toNat) ∧ us = [] ∧ num = 2)
theorem RD.unique {c : Int} {s : ByteArray} {us us' : List ByteArray} {num num' : Nat} (h : RD c s us num) (k : RD c s us' num') : us = us' ∧ num = num' := by
  rcases h with ⟨h1, rfl, rfl⟩ | ⟨h1, rfl, rfl⟩ <;> rcases k with ⟨k1, rfl, rfl⟩ | ⟨k1, rfl, rfl⟩
  · exact ⟨rfl, rfl⟩
  · exact absurd h1 k1
  · exact absurd k1 h1
  · exact ⟨rfl, rfl⟩
theorem read_data (A : Nat → Addr) (c : Int) (s : ByteArray) (w : World) (hE : ErrsG 4 gAll A w) :
    Calls Tryd.prog 9 #[.int .i64 c, .string s] w fun e w' => ∃ a n us ev num, e = .returned (.tuple #[.slice a n n, ev]) ∧ NumOf A ev num ∧ w'.ownsRow w.heap.size 9 1 (.slice a n n) n (strs us) ∧ RD c s us num ∧ n ≤ 2036 ∧ Below w.heap.size w w' := by
  refine (read_any A c s w hE).mono ?_
  rintro e w' ⟨⟨h0, hok, g, rfl, hown⟩ | ⟨hbad, rfl⟩, hb⟩
  · exact ⟨_, _, _, _, 0, rfl, .inl ⟨rfl, rfl⟩, hown, .inl ⟨⟨h0, hok⟩, rfl, rfl⟩, hok.1.1, hb⟩
  · exact ⟨none, 0, [], _, 2, rfl, .inr (.inr (.inl ⟨rfl, rfl⟩)), World.ownsRow_nil _ _ _ _, .inr ⟨hbad, rfl, rfl⟩, by omega, hb⟩
theorem rread_data (c : Int) (s : ByteArray) (w : World) :
    Calls Tryd.prog 10 #[.int .i64 c, .string s] w fun e w' => ∃ a n cp us num, e = .returned (.tuple #[.slice a n cp, .int .i64 ((num : Nat) : Int)]) ∧ w'.ownsRow w.heap.size 9 1 (.slice a n cp) n (strs us) ∧ RD c s us num ∧ Below w.heap.size w w' := by
  refine (rread_any c s w).mono ?_
  rintro e w' ⟨⟨h0, hok, a, cp, rfl, hown⟩ | ⟨hbad, rfl⟩, hb⟩
  · exact ⟨_, _, _, _, 0, rfl, hown, .inl ⟨⟨h0, hok⟩, rfl, rfl⟩, hb⟩
  · exact ⟨none, 0, 0, [], 2, rfl, World.ownsRow_nil _ _ _ _, .inr ⟨hbad, rfl, rfl⟩, hb⟩
/-- Where an owned row lies. -/
theorem owns_at {w : World} {base e n c g : Nat} {a : Option Addr} {us : List Value} (h : w.ownsRow base e 1 (.slice a n c) n us) (ha : a = some ⟨g, 0, none⟩) : base ≤ g ∧ g < w.heap.size := by
  rcases h.2 with ⟨h', _⟩ | ⟨g', cap, cur, h', hb, hg, _⟩
  · rw [ha] at h'; cases h'
  · rw [ha] at h'
    simp only [Value.slice.injEq, Option.some.injEq, Addr.mk.injEq] at h'
    obtain ⟨⟨rfl, _⟩, _⟩ := h'
    refine ⟨hb, ?_⟩
    rcases Nat.lt_or_ge g w.heap.size with hl | hl
    · exact hl
    · rw [Array.getElem?_eq_none hl] at hg; cases hg
theorem owns_zero {w : World} {base e n : Nat} {v : Value} {us : List Value} (h : w.ownsRow base e 1 v n us) : w.ownsRow 0 e 1 v n us := by
  refine ⟨h.1, ?_⟩
  rcases h.2 with h' | ⟨g', cap, cur, h', hb, rest⟩
  · exact .inl h'
  · exact .inr ⟨g', cap, cur, h', Nat.zero_le _, rest⟩
def sel {α : Type} (x y z : α) (i : Nat) : α := if i = 0 then x else if i = 1 then y else z
theorem owns_only {F : Nat → Prop} {w w' : World} {base e n c : Nat} {a : Option Addr} {us : List Value} (h : w.ownsRow base e 1 (.slice a n c) n us) (ho : Only F w w') (hn : ∀ g, a = some ⟨g, 0, none⟩ → ¬ F g) : w'.ownsRow base e 1 (.slice a n c) n us := by
  refine ⟨h.1, ?_⟩
  rcases h.2 with h' | ⟨g', cap, cur, h', hb, hg, rest⟩
  · exact .inl h'
  · have hl : g' < w.heap.size := by
      rcases Nat.lt_or_ge g' w.heap.size with hl | hl
      · exact hl
      · rw [Array.getElem?_eq_none hl] at hg; cases hg
    simp only [Value.slice.injEq] at h'
    exact .inr ⟨g', cap, cur, by rw [h'.1, h'.2.2], hb, (ho.block g' hl (hn g' h'.1)).trans hg, rest⟩

set_option maxRecDepth 100000 in
set_option maxHeartbeats 16000000 in
theorem reads_any (A : Nat → Addr) (c : Int) (s : ByteArray) (w : World) (hs : s.size ≤ 140737488351232) (hE : ErrsG 4 gAll A w) :
    Calls Tryd.prog 3 #[.agg #[.int .i64 c, .string s]] w fun e w' => e = .returned (.bool true) ∧ Below w.heap.size w w' := by
  have HE := hide hE
  have HX := hide (boxed_new w #[.int .i64 c, .string s] 23)
  have HB := hide (below_new w (.cells #[.int .i64 c, .string s] 23))
  have c0 := HX.out.2 0 (by simp)
  have c1 := HX.out.2 1 (by simp)
  simp only [List.getElem_cons_zero, List.getElem_cons_succ] at c0 c1
  clear hE
  go_enter Tryd.func3, Tryd.ntmps3
  go_wp2_with fail
  obtain ⟨bx, hbx⟩ : ∃ bx, bx = w.heap.size := ⟨_, rfl⟩
  have HBX := hide hbx
  rw [← hbx] at HX c0 c1 ⊢
  generalize w.alloc (.cells #[.int .i64 c, .string s] 23) = W0 at *
  clear hbx c0 c1
  refine (read_data A c s W0 (ErrsG.keep HE.out HB.out)).mono ?_
  rintro e w1 ⟨a1, n1, u1, e1, k1, rfl, hno1, ho1, hrd1, hn1, hb1⟩
  have HR1 : Hid (NumOf A e1 k1 ∧ RD c s u1 k1 ∧ n1 ≤ 2036) := ⟨hno1, hrd1, hn1⟩
  have HB1 := hide (Below.next HB.out hb1)
  have hx1 := HX.out.below hb1
  have c0 := hx1.2 0 (by simp)
  have c1 := hx1.2 1 (by simp)
  simp only [List.getElem_cons_zero, List.getElem_cons_succ] at c0 c1
  have HX1 := hide hx1
  have HP1 : Hid (∀ g, a1 = some ⟨g, 0, none⟩ → bx < g ∧ g < w1.heap.size) := fun g hg => by
    have := owns_at ho1 hg
    have := HX.out.1
    omega
  have HO1 := hide (owns_zero ho1)
  have HBX1 : Hid (bx < w1.heap.size) := Nat.lt_of_lt_of_le HX.out.1 hb1.size
  clear hno1 ho1 hrd1 hn1 hb1 HB HX hx1
  go_wp2_with fail
  clear c0 c1
  obtain ⟨ss, hss⟩ : ∃ ss, ss = s ++ s := ⟨_, rfl⟩
  rw [← hss]
  refine (read_data A c ss w1 (ErrsG.keep HE.out HB1.out)).mono ?_
  rintro e w2 ⟨a2, n2, u2, e2, k2, rfl, hno2, ho2, hrd2, hn2, hb2⟩
  have HR2 : Hid (NumOf A e2 k2 ∧ RD c ss u2 k2 ∧ n2 ≤ 2036) := ⟨hno2, hrd2, hn2⟩
  have HB2 := hide (Below.next HB1.out hb2)
  have hx2 := HX1.out.below hb2
  have c0 := hx2.2 0 (by simp)
  have c1 := hx2.2 1 (by simp)
  simp only [List.getElem_cons_zero, List.getElem_cons_succ] at c0 c1
  have HX2 := hide hx2
  have HP2 : Hid (∀ g, a2 = some ⟨g, 0, none⟩ → w1.heap.size ≤ g ∧ g < w2.heap.size) := fun g hg => owns_at ho2 hg
  have HO12 := hide (owns_below HO1.out hb2)
  have HZ2 := hide hb2.size
  have HO2 := hide (owns_zero ho2)
  clear hno2 ho2 hrd2 hn2 hb2 HB1 hx2 HX1 HO1
  go_wp2_with fail
  clear c0 c1
  refine (read_data A c s w2 (ErrsG.keep HE.out HB2.out)).mono ?_
  rintro e w3 ⟨a3, n3, u3, e3, k3, rfl, hno3, ho3, hrd3, hn3, hb3⟩
  obtain ⟨rfl, rfl⟩ := HR1.out.2.1.unique hrd3
  have HR3 : Hid (NumOf A e3 k1 ∧ n3 ≤ 2036) := ⟨hno3, hn3⟩
  have HB3 := hide (Below.next HB2.out hb3)
  have hx3 := HX2.out.below hb3
  have c0 := hx3.2 0 (by simp)
  have c1 := hx3.2 1 (by simp)
  simp only [List.getElem_cons_zero, List.getElem_cons_succ] at c0 c1
  have HX3 := hide hx3
  have HP3 : Hid (∀ g, a3 = some ⟨g, 0, none⟩ → w2.heap.size ≤ g ∧ g < w3.heap.size) := fun g hg => owns_at ho3 hg
  have HO13 := hide (owns_below HO12.out hb3)
  have HZ3 := hide hb3.size
  have HO23 := hide (owns_below HO2.out hb3)
  have HO3 := hide (owns_zero ho3)
  clear hno3 ho3 hrd3 hn3 hb3 HB2 hx3 HX2 HO12 HO2
  go_wp2_with fail
  clear c0 c1
  refine (rread_data c s w3).mono ?_
  rintro e w4 ⟨a4, n4, c4, u4, k4, rfl, ho4, hrd4, hb4⟩
  obtain ⟨rfl, rfl⟩ := HR1.out.2.1.unique hrd4
  have HB4 := hide (Below.next HB3.out hb4)
  have hx4 := HX3.out.below hb4
  have c0 := hx4.2 0 (by simp)
  have c1 := hx4.2 1 (by simp)
  simp only [List.getElem_cons_zero, List.getElem_cons_succ] at c0 c1
  have HX4 := hide hx4
  have HP4 : Hid (∀ g, a4 = some ⟨g, 0, none⟩ → w3.heap.size ≤ g ∧ g < w4.heap.size) := fun g hg => owns_at ho4 hg
  have HO14 := hide (owns_below HO13.out hb4)
  have HO24 := hide (owns_below HO23.out hb4)
  have HO34 := hide (owns_below HO3.out hb4)
  have HO4 := hide (owns_zero ho4)
  have HZ4 : Hid (w1.heap.size ≤ w2.heap.size ∧ w2.heap.size ≤ w3.heap.size ∧ w3.heap.size ≤ w4.heap.size) := ⟨HZ2.out, HZ3.out, hb4.size⟩
  clear ho4 hrd4 hb4 HB3 hx4 HX3 HO13 HO23 HO3
  go_wp2_with fail
  clear c0 c1
  rw [← hss]
  refine (rread_data c ss w4).mono ?_
  rintro e w5 ⟨a5, n5, c5, u5, k5, rfl, ho5, hrd5, hb5⟩
  obtain ⟨rfl, rfl⟩ := HR2.out.2.1.unique hrd5
  have HB5 := hide (Below.next HB4.out hb5)
  have HX5 := hide (HX4.out.below hb5)
  have HO15 := hide (owns_below HO14.out hb5)
  have HO25 := hide (owns_below HO24.out hb5)
  have HO35 := hide (owns_below HO34.out hb5)
  have HO45 := hide (owns_below HO4.out hb5)
  have HO5 := hide (owns_zero ho5)
  have HZ5 := hide hb5.size
  have HE5 := hide (ErrsG.keep HE.out HB5.out)
  have HL1 : Hid (u1.length = n1) := by show _ = _; have := HO15.out.1; rw [strs_length] at this; omega
  have HL2 : Hid (u2.length = n2) := by show _ = _; have := HO25.out.1; rw [strs_length] at this; omega
  have d1 : ((k1 : Int) != (k1 : Int)) = false := by simp
  have d2 : ((k2 : Int) != (k2 : Int)) = false := by simp
  clear ho5 hrd5 hb5 HB4 HX4 HO14 HO24 HO34 HO4
  go_wp2_with fail
  refine (num_of w5 HR1.out.1 HE5.out).mono ?_
  rintro e wq ⟨rfl, rfl⟩
  go_wp2_with fail
  refine (num_of w5 HR3.out.1 HE5.out).mono ?_
  rintro e wq ⟨rfl, rfl⟩
  go_wp2_with fail
  refine (num_of w5 HR2.out.1 HE5.out).mono ?_
  rintro e wq ⟨rfl, rfl⟩
  go_wp2_with fail
  refine (sames_same _ _ u1 w5 (by have := HL1.out; have := HR1.out.2.2; omega) (rowR_of_owns HO15.out).strs (rowR_of_owns HO45.out).strs).mono ?_
  rintro e w6 ⟨rfl, hb6⟩
  have HS6 := hide (sames_same _ _ u1 w6 (by have := HL1.out; have := HR1.out.2.2; omega) (rowR_of_owns (owns_below HO35.out hb6)).strs (rowR_of_owns (owns_below HO45.out hb6)).strs)
  have HB6 := hide hb6
  clear hb6
  go_wp2_with fail
  refine HS6.out.mono ?_
  rintro e w7 ⟨rfl, hb7⟩
  have HB7 := hide (Below.next HB6.out hb7)
  have HS7 := hide (sames_same _ _ u2 w7 (by have := HL2.out; have := HR2.out.2.2; omega) (rowR_of_owns (owns_below HO25.out HB7.out)).strs (rowR_of_owns (owns_below HO5.out HB7.out)).strs)
  clear hb7 HS6 HB6
  go_wp2_with fail
  refine HS7.out.mono ?_
  rintro e w8 ⟨rfl, hb8⟩
  have HB8 := hide (Below.next HB7.out hb8)
  clear hb8 HS7 HB7 d1 d2
  -- what lone is handed
  have hb9 := Below.next HB8.out (below_new w8 (.cells #[.slice a1 n1 n1, .slice a2 n2 n2, .slice a3 n3 n3] 24))
  have HZZ : Hid (w1.heap.size ≤ w2.heap.size ∧ w2.heap.size ≤ w3.heap.size ∧ w3.heap.size ≤ w4.heap.size ∧ w4.heap.size ≤ w5.heap.size ∧ w5.heap.size ≤ w8.heap.size) := ⟨HZ4.out.1, HZ4.out.2.1, HZ4.out.2.2, HZ5.out, HB8.out.size⟩
  have hrows : Rows3 (sel a1 a2 a3) (sel n1 n2 n3) (sel (strs u1) (strs u2) (strs u1)) (w8.alloc (.cells #[.slice a1 n1 n1, .slice a2 n2 n2, .slice a3 n3 n3] 24)) := fun i hi => by
    match i, hi with
    | 0, _ => exact owns_below HO15.out hb9
    | 1, _ => exact owns_below HO25.out hb9
    | 2, _ => exact owns_below HO35.out hb9
  have hrange : ∀ g, In3 (sel a1 a2 a3) g → bx < g ∧ g < w3.heap.size := fun g ⟨i, hi, hg⟩ => by
    have hz := HZZ.out
    match i, hi, hg with
    | 0, _, hg => have := HP1.out g hg; omega
    | 1, _, hg =>
      have h2 := HP2.out g hg
      refine ⟨?_, by omega⟩
      have := HX5.out.1
      have h1 : bx < w1.heap.size := HBX1.out
      omega
    | 2, _, hg =>
      have h2 := HP3.out g hg
      have h1 : bx < w1.heap.size := HBX1.out
      omega
  have hdist : ∀ i j g, i < 3 → j < 3 → sel a1 a2 a3 i = some ⟨g, 0, none⟩ → sel a1 a2 a3 j = some ⟨g, 0, none⟩ → i = j := fun i j g hi hj h1 h2 => by
    have hz := HZZ.out
    match i, hi, h1, j, hj, h2 with
    | 0, _, _, 0, _, _ => rfl
    | 1, _, _, 1, _, _ => rfl
    | 2, _, _, 2, _, _ => rfl
    | 0, _, h1, 1, _, h2 => have := HP1.out g h1; have := HP2.out g h2; omega
    | 0, _, h1, 2, _, h2 => have := HP1.out g h1; have := HP3.out g h2; omega
    | 1, _, h1, 0, _, h2 => have := HP2.out g h1; have := HP1.out g h2; omega
    | 1, _, h1, 2, _, h2 => have := HP2.out g h1; have := HP3.out g h2; omega
    | 2, _, h1, 0, _, h2 => have := HP3.out g h1; have := HP1.out g h2; omega
    | 2, _, h1, 1, _, h2 => have := HP3.out g h1; have := HP2.out g h2; omega
  have hlo := lone_any w8.heap.size (sel a1 a2 a3) (sel n1 n2 n3) (sel (strs u1) (strs u2) (strs u1)) (w8.alloc (.cells #[.slice a1 n1 n1, .slice a2 n2 n2, .slice a3 n3 n3] 24)) (fun i hi => by
    match i, hi with
    | 0, _ => exact HR1.out.2.2
    | 1, _ => exact HR2.out.2.2
    | 2, _ => exact HR3.out.2) hrows hdist (fun h => by have := hrange _ h; have := HZZ.out; omega) (fun i hi => by
    have hbx := boxed_new w8 #[.slice a1 n1 n1, .slice a2 n2 n2, .slice a3 n3 n3] 24
    match i, hi with
    | 0, _ => exact hbx.2 0 (by simp)
    | 1, _ => exact hbx.2 1 (by simp)
    | 2, _ => exact hbx.2 2 (by simp))
  have HLO := hide hlo
  have HRG := hide hrange
  have HX9 := hide (HX5.out.below hb9)
  have HO49 := hide (owns_below HO45.out hb9)
  have HB9 := hide (Below.next HB5.out hb9)
  clear hlo hrange hdist hrows hb9
  go_wp2_with fail
  refine HLO.out.mono ?_
  rintro e w10 ⟨rfl, hon⟩
  have hb10 : Below w.heap.size w w10 := ⟨hon.os.trans HB9.out.os, hon.tape.trans HB9.out.tape, hon.output.trans HB9.out.output, Nat.le_trans HB9.out.size hon.size, fun k hk => (hon.block k (Nat.lt_of_lt_of_le hk HB9.out.size) (fun h => by have := HRG.out k h; have := HBX.out; omega)).trans (HB9.out.block k hk)⟩
  have hnb : ¬ In3 (sel a1 a2 a3) bx := fun h => by have := HRG.out bx h; omega
  have c0 := hon.cell (HX9.out.2 0 (by simp)) hnb
  have c1 := hon.cell (HX9.out.2 1 (by simp)) hnb
  simp only [List.getElem_cons_zero, List.getElem_cons_succ] at c0 c1
  have HO10 := hide (owns_only HO49.out hon (fun g hg h => by have := HRG.out g h; have := HP4.out g hg; omega))
  have HB10 := hide hb10
  clear hon hb10 HLO HX9 HO49 HB9 hnb
  go_wp2_with fail
  refine (read_data A c s w10 (ErrsG.keep HE.out HB10.out)).mono ?_
  rintro e w11 ⟨a11, n11, u11, e11, k11, rfl, hno11, ho11, hrd11, hn11, hb11⟩
  obtain ⟨rfl, rfl⟩ := HR1.out.2.1.unique hrd11
  have HB11 := hide (Below.next HB10.out hb11)
  have HNM := hide (num_of w11 hno11 (ErrsG.keep HE.out HB11.out))
  have HSM := hide (sames_same _ _ u1 w11 (by have := HL1.out; have := HR1.out.2.2; omega) (rowR_of_owns ho11).strs (rowR_of_owns (owns_below HO10.out hb11)).strs)
  have d1 : ((k1 : Int) == (k1 : Int)) = true := by simp
  clear hno11 ho11 hrd11 hn11 hb11 HB10 HO10 c0 c1
  go_wp2_with fail
  refine HNM.out.mono ?_
  rintro e wq ⟨rfl, rfl⟩
  go_wp2_with fail
  refine HSM.out.mono ?_
  rintro e w12 ⟨rfl, hb12⟩
  have HB12 := hide (Below.next HB11.out hb12)
  clear hb12 HSM HNM
  go_wp2
  go_ret
  exact ⟨rfl, HB12.out⟩

end Go.Proofs.YtocfedakjcghnaaDoor
