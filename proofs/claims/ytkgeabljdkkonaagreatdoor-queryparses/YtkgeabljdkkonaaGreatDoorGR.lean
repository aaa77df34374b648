import Derived.Test.YtkgeabljdkkonaaGreatDoorGP
import Derived.Test.YtkgeabljdkkonaaGreatDoorPCd
namespace Go.Proofs.YtkgeabljdkkonaaGreatDoor
open Go.RowKit

/-! The document's condition. -/
theorem tws_le {l : List Tk} (hl : ∀ t ∈ l, TkFine t) (k : Nat) : tws l k ≤ k * 1000001 := by
  induction k with
  | zero => exact Nat.le_of_eq (by unfold tws; simp)
  | succ k ih =>
    rcases Nat.lt_or_ge k l.length with hk | hk
    · rw [tws_succ hk, Nat.succ_mul]
      have := (hl _ (List.getElem_mem hk)).sz
      omega
    · have e : tws l (k + 1) = tws l k := by unfold tws; rw [List.take_of_length_le hk, List.take_of_length_le (by omega)]
      rw [e]
      exact Nat.le_trans ih (Nat.mul_le_mul_right _ (by omega))
def RCondR (w : World) (b : Nat) (a : Option Addr) (c : Nat) (l : List Tk) (k : Nat) (lost : Bool) (u : St) (e : Ending) (w' : World) : Prop :=
  ∃ (x : Cd) (la : Option Addr) (cp k' : Nat) (lost' : Bool), e = .returned (.agg (cdV x.field x.sign x.item (.slice la x.item.list.length cp))) ∧ ItsAt w' (fun j => w.heap.size ≤ j) (.slice la x.item.list.length cp) x.item.list ∧ x.Ok ∧ RdS w' b a c l k' lost' ∧ Solo b w w' ∧ CdRel l k lost u x k' lost'
theorem RdS.high {w W V : World} {b c k k2 H : Nat} {a : Option Addr} {l : List Tk} {lost lost2 : Bool} (h0 : RdS w b a c l k lost) (h : RdS V b a c l k2 lost2) (hs : Solo b w V) (k1 : Two H H V W) (hH : w.heap.size ≤ H) : RdS W b a c l k2 lost2 ∧ Solo b w W :=
  have hb := h0.row.lt
  have hbV := h.row.lt
  have s2 : Solo b w W := ⟨k1.os.trans hs.os, k1.tape.trans hs.tape, k1.output.trans hs.output, Nat.le_trans hs.size k1.size, fun i hi hn => (k1.block i (Nat.lt_of_lt_of_le hi hs.size) (by omega) (by omega)).trans (hs.block i hi hn)⟩
  ⟨⟨(k1.block b hbV (by omega) (by omega)).trans h.row, h0.tk.solo s2, h.le, h.len⟩, s2⟩
theorem RowAt.two {w w' : World} {b g H : Nat} {cs : Array Value} {t : TypeId} (h : RowAt w H cs t) (hs : Two b g w w') (h1 : H ≠ b) (h2 : H ≠ g) : RowAt w' H cs t := by
  unfold RowAt; rw [hs.block H h.lt h1 h2]; exact h
set_option maxHeartbeats 16000000 in
set_option maxRecDepth 100000 in
theorem rcond_any (b : Nat) (a : Option Addr) (c : Nat) (l : List Tk) (k : Nat) (lost : Bool) (u : St) (w : World) (hl : ∀ t ∈ l, TkFine t) (h : RdS w b a c l k lost) (hrep : lost = false → Rep u (l.drop k)) :
    Calls Tryz.prog 30 #[.pointer (some ⟨b, 0, none⟩)] w (RCondR w b a c l k lost u) := by
  have hblt := h.row.lt
  have HM1 : Hid (w.heap.size ≠ b ∧ b < w.heap.size) := ⟨by omega, hblt⟩
  have q1 := below_new w (.cells #[.string ⟨#[]⟩, .int .i64 0, .int .i64 0, .int .i64 0, .string ⟨#[]⟩, .slice none 0 0] 51)
  have x1 := RowAt.new w #[.string ⟨#[]⟩, .int .i64 0, .int .i64 0, .int .i64 0, .string ⟨#[]⟩, .slice none 0 0] 51
  obtain ⟨W1, hW1⟩ : ∃ W1, w.alloc (.cells #[.string ⟨#[]⟩, .int .i64 0, .int .i64 0, .int .i64 0, .string ⟨#[]⟩, .slice none 0 0] 51) = W1 := ⟨_, rfl⟩
  have h1 := h.below q1
  rw [hW1] at q1 x1 h1
  have HW := hide hW1
  have HF0 := hide h
  have HLL : Hid (l.length ≤ 1000000) := h.len
  have HFL := hide hl
  have hsz : ∀ t ∈ l, t.text.size ≤ 1000000 := fun t ht => (hl t ht).sz
  have HNM := hide (rname_any b a c l k lost W1 h1 hsz)
  obtain ⟨k1, hk1⟩ : ∃ k1, k1 = goN l k := ⟨_, rfl⟩
  obtain ⟨lost1, hl1⟩ : ∃ x, x = (lost || !nameOkT (nxt l k)) := ⟨_, rfl⟩
  obtain ⟨f, hf⟩ : ∃ f, f = (nxt l k).text := ⟨_, rfl⟩
  rw [← hk1, ← hl1, ← hf] at HNM
  obtain ⟨k2, hk2⟩ : ∃ k2, k2 = goN l k1 := ⟨_, rfl⟩
  obtain ⟨t1, ht1⟩ : ∃ t1, t1 = nxt l k1 := ⟨_, rfl⟩
  obtain ⟨sg, hsg⟩ : ∃ sg, sg = sgT t1 := ⟨_, rfl⟩
  obtain ⟨lost2, hl2⟩ : ∃ x, x = (lost1 || decide (sg = 0)) := ⟨_, rfl⟩
  obtain ⟨u2, hu2⟩ : ∃ u2, u2 = nxtD (nxtD u.2).2 := ⟨_, rfl⟩
  have HFS : Hid (f.size ≤ 1000000) := by show _ ≤ _; rw [hf]; exact nxt_text hsz k
  have HREP : Hid (lost2 = false → Rep u2 (l.drop k2)) := fun e => by
    rw [hl2] at e
    obtain ⟨e1, es⟩ : lost1 = false ∧ ¬ sg = 0 := by simpa using e
    rw [hl1] at e1
    obtain ⟨e0, en⟩ : lost = false ∧ nameOkT (nxt l k) = true := by simpa using e1
    obtain ⟨_, _, hkl, hr1⟩ := (rep_name hl (hrep e0)).1 en
    rw [show k + 1 = k1 by rw [hk1, goN_at hkl]] at hr1
    rw [hsg, ht1] at es
    obtain ⟨_, _, hkl1, hr2⟩ := (rep_sign hl hr1).1 es
    rw [hu2, hk2, goN_at hkl1]; exact hr2
  have HREL : Hid (∀ x k3 lost3, ItRel l k2 lost2 u2 4 x k3 lost3 → CdRel l k lost u ⟨f, (sg : Int), x⟩ k3 (lost3 || decide (packF [x] ≠ 0))) := fun x k3 lost3 hi => by
    rw [hf, hsg, ht1]
    refine cond_rel (lost2 := lost2) hl hrep hl1 hk1 hk2 (by rw [hl2, hsg, ht1]) ?_
    rw [← hu2]; exact hi
  have HNX := hide (fun W (h : RdS W b a c l k1 lost1) => next_any b a c l k1 lost1 W h)
  rw [← ht1, ← hk2] at HNX
  have HSG : Hid (sg = if t1.kind = 5 then signI t1.text else 0) := hsg
  have HLS : Hid (lost2 = (lost1 || decide (sg = 0))) := hl2
  have HS5 : Hid (sg ≤ 5) := by
    show _ ≤ _
    rw [hsg]; unfold sgT
    split
    · rcases Nat.eq_zero_or_pos (signI t1.text) with h | h
      · omega
      · exact (sgn_signI h).2.1
    · omega
  obtain ⟨tk, tn, tt⟩ := t1
  simp only [tkV] at HNX HSG
  have HX1 := hide x1
  have HQ1 := hide q1
  have hs1 : W1.heap.size = w.heap.size + 1 := by rw [← hW1]; simp
  have HS1 := hide hs1
  clear hk1 hl1 hf hk2 ht1 hsg hl2 hu2 hW1 q1 x1 h1 h hrep hl hsz hs1 hblt
  go_enter Tryz.func30, Tryz.ntmps30
  go_wp2_with fail
  rw [HW.out]
  refine HNM.out.mono ?_
  rintro e W2 ⟨rfl, hR2, hS2⟩
  obtain ⟨H, hH⟩ : ∃ H, H = W2.heap.size := ⟨_, rfl⟩
  have hHw : w.heap.size < H := by have := hS2.size; have := HS1.out; omega
  have x2 := RowAt.new W2 #[.string ⟨#[]⟩, .int .i64 0, .int .i64 0, .int .i64 0, .string ⟨#[]⟩, .slice none 0 0] 51
  have HST1 := hide (store_cd _ W2.heap.size _ _ _ _ _ _ f 0 it0 none 0 0 x2)
  obtain ⟨V1, hV1⟩ : ∃ V1, (W2.alloc (.cells #[.string ⟨#[]⟩, .int .i64 0, .int .i64 0, .int .i64 0, .string ⟨#[]⟩, .slice none 0 0] 51)).setRow W2.heap.size (cdV f 0 it0 (.slice none 0 0)) = V1 := ⟨_, rfl⟩
  have hB1 : Below W2.heap.size W2 V1 := by rw [← hV1]; exact below_setRow (below_new W2 _) (Nat.le_refl _) _
  have y2 : RowAt V1 H (cdV f 0 it0 (.slice none 0 0)) 51 := by rw [hH, ← hV1]; exact row_set _ _ _ _ _ x2
  rw [hV1] at HST1
  have HRV1 := hide (hR2.below hB1)
  have HSV1 : Hid (Solo b w V1) := ((Solo.of_below HQ1.out).trans hS2).trans (.of_below hB1)
  have HXV1 : Hid (RowAt V1 w.heap.size #[.string ⟨#[]⟩, .int .i64 0, .int .i64 0, .int .i64 0, .string ⟨#[]⟩, .slice none 0 0] 51) := ((HX1.out.two hS2.two HM1.out.1 HM1.out.1).below hB1)
  have HYV1 := hide y2
  have HHW : Hid (w.heap.size < H ∧ H ≠ b) := ⟨hHw, by have := HM1.out.2; omega⟩
  rw [← hH] at HST1
  clear HNM hR2 hS2 x2 hV1 hB1 y2 hHw
  go_wp2_with (first
    | (refine wpList_store_eq rfl 51 _ _ rfl _ _ rfl rfl (by rw [← hH]; exact HST1.out) ?_)
    | fail)
  rw [← hH]
  clear hH
  refine (HNX.out _ HRV1.out).mono ?_
  rintro e W3 ⟨rfl, hR3, hS3⟩
  have x3 := RowAt.new W3 #[.int .i64 0, .int .i64 0, .string ⟨#[]⟩] 70
  have HST2 := hide (store_row _ W3.heap.size 70 _ #[.int .i64 tk, .int .i64 tn, .string tt] x3 (by kernel_rfl) rfl (by simp [Value.oneCell']))
  obtain ⟨V2, hV2⟩ : ∃ V2, (W3.alloc (.cells #[.int .i64 0, .int .i64 0, .string ⟨#[]⟩] 70)).setRow W3.heap.size #[.int .i64 tk, .int .i64 tn, .string tt] = V2 := ⟨_, rfl⟩
  have hB2 : Below W3.heap.size W3 V2 := by rw [← hV2]; exact below_setRow (below_new W3 _) (Nat.le_refl _) _
  have y3 : RowAt V2 W3.heap.size #[.int .i64 tk, .int .i64 tn, .string tt] 70 := by rw [← hV2]; exact row_set _ _ _ _ _ x3
  rw [hV2] at HST2
  have d0 := y3.cell 0 (by simp)
  have d1 := y3.cell 1 (by simp)
  have d2 := y3.cell 2 (by simp)
  simp only [List.getElem_toArray, List.getElem_cons_zero, List.getElem_cons_succ] at d0 d1 d2
  have HRV2 := hide (hR3.below hB2)
  have HSV2 : Hid (Solo b w V2) := (HSV1.out.trans hS3).trans (.of_below hB2)
  have HXV2 : Hid (RowAt V2 w.heap.size #[.string ⟨#[]⟩, .int .i64 0, .int .i64 0, .int .i64 0, .string ⟨#[]⟩, .slice none 0 0] 51) := ((HXV1.out.two hS3.two HM1.out.1 HM1.out.1).below hB2)
  have HYV2 : Hid (RowAt V2 H (cdV f 0 it0 (.slice none 0 0)) 51) := ((HYV1.out.two hS3.two HHW.out.2 HHW.out.2).below hB2)
  clear HNX hR3 hS3 x3 hV2 hB2 HRV1 HSV1 HXV1 HYV1 HST1
  by_cases e5 : tk = 5
  · have k5 : (tk == 5) = true := by simp [e5]
    rw [if_pos e5] at HSG
    have HSO := hide (signOf_any tt V2)
    rw [← HSG.out] at HSO
    clear e5
    go_wp2_with (first
      | (refine wpList_store_eq rfl 70 _ _ rfl _ _ rfl rfl HST2.out ?_)
      | fail)
    refine HSO.out.mono ?_
    rintro e W4 ⟨rfl, hb4⟩
    have hy4 := HYV2.out.below hb4
    have hr4 := HRV2.out.below hb4
    have hx4 := HXV2.out.below hb4
    have hs4 : Solo b w W4 := HSV2.out.trans (.of_below hb4)
    obtain ⟨_, a1, _⟩ := hy4.q6
    have af1 := hy4.free 1
    have HY3 := hide (cd_set1 hy4 (.int .i64 (sg : Int)))
    have HR3 := hide (HF0.out.high hr4 hs4 (Two.cell1 H 1 W4 (.int .i64 (sg : Int))) (Nat.le_of_lt HHW.out.1))
    have HX3 := hide (hx4.two (Two.cell1 H 1 W4 (.int .i64 (sg : Int))) (Nat.ne_of_lt HHW.out.1) (Nat.ne_of_lt HHW.out.1))
    clear hb4 hy4 hr4 hx4 hs4 HSO HYV2 HRV2 HXV2 HSV2 HST2 d0 d1 d2
    obtain ⟨V3, hV3⟩ : ∃ V3, W4.setCell ⟨H, 1, none⟩ (.int .i64 (sg : Int)) = V3 := ⟨_, rfl⟩
    rw [hV3] at HY3 HR3 HX3
    have HV3 := hide hV3
    clear hV3
    by_cases hs0 : sg = 0
    · have HS0 := hide hs0
      have HL2 : Hid (lost2 = true) := by show _ = _; rw [HLS.out, hs0]; simp
      subst hs0
      rw [show ((0 : Nat) : Int) = 0 from rfl] at HV3 HY3
      have p2 := HR3.out.1.row.cell 2 (by simp)
      have pf2 := HR3.out.1.row.free 2
      simp only [List.getElem_toArray, List.getElem_cons_zero, List.getElem_cons_succ] at p2
      rw [← HV3.out] at p2 pf2
      obtain ⟨V4, hV4⟩ : ∃ V4, V3.setCell ⟨b, 2, none⟩ (.bool true) = V4 := ⟨_, rfl⟩
      have HR4 : Hid (RdS V4 b a c l k2 lost2) := by show RdS _ _ _ _ _ _ _; rw [← hV4, HL2.out]; exact HR3.out.1.lose
      have HY4 : Hid (RowAt V4 H (cdV f 0 it0 (.slice none 0 0)) 51) := by show RowAt _ _ _ _; rw [← hV4]; exact HY3.out.other HHW.out.2 (.bool true) (j := 2)
      have HX4 : Hid (RowAt V4 w.heap.size #[.string ⟨#[]⟩, .int .i64 0, .int .i64 0, .int .i64 0, .string ⟨#[]⟩, .slice none 0 0] 51) := by show RowAt _ _ _ _; rw [← hV4]; exact HX3.out.other HM1.out.1 (.bool true) (j := 2)
      have HS4 : Hid (Solo b w V4) := by show Solo _ _ _; rw [← hV4]; exact HR3.out.2.trans (Solo.set b 2 _ _)
      have HV4 := hide hV4
      clear hV4
      have hHV : H < V4.heap.size := HY4.out.lt
      have hwV : w.heap.size < V4.heap.size := HX4.out.lt
      have hit := ritem_any b a c l HFL.out 4 0 k2 lost2 u2 V4 rfl HR4.out HREP.out
      rw [show ((0 : Nat) : Int) = 0 from rfl] at hit
      have HIT := hide hit
      have HHV : Hid (H < V4.heap.size ∧ w.heap.size < V4.heap.size) := ⟨hHV, hwV⟩
      clear hit hHV hwV
      go_wp2_with fail
      rw [HV3.out, HV4.out]
      go_wp2_with fail
      refine HIT.out.mono ?_
      rintro e W5 ⟨x, la, cp, k3, lost3, rfl, hits, hxok, hR5, hS5, hrel⟩
      have hc5 : RowAt W5 H (cdV f 0 it0 (.slice none 0 0)) 51 := HY4.out.two hS5.two HHW.out.2 HHW.out.2
      have hx5 : RowAt W5 w.heap.size #[.string ⟨#[]⟩, .int .i64 0, .int .i64 0, .int .i64 0, .string ⟨#[]⟩, .slice none 0 0] 51 := HX4.out.two hS5.two HM1.out.1 HM1.out.1
      have hs5 : Solo b w W5 := HS4.out.trans hS5
      obtain ⟨g0, g1, g2, g3, g4, g5⟩ := hc5.q6
      have f2 := hc5.free 2
      have f3 := hc5.free 3
      have f4 := hc5.free 4
      have f5 := hc5.free 5
      have hc6 := cd_put hc5 (.int .i64 x.kind) (.int .i64 x.num) (.string x.text) (.slice la x.list.length cp)
      obtain ⟨V6, hV6⟩ : ∃ V6, (((W5.setCell ⟨H, 2, none⟩ (.int .i64 x.kind)).setCell ⟨H, 3, none⟩ (.int .i64 x.num)).setCell ⟨H, 4, none⟩ (.string x.text)).setCell ⟨H, 5, none⟩ (.slice la x.list.length cp) = V6 := ⟨_, rfl⟩
      have k6 : Two H H W5 V6 := by rw [← hV6]; exact (((Two.cell1 H 2 W5 (.int .i64 x.kind)).trans (Two.cell1 H 3 _ (.int .i64 x.num))).trans (Two.cell1 H 4 _ (.string x.text))).trans (Two.cell1 H 5 _ (.slice la x.list.length cp))
      rw [hV6] at hc6
      have hR6 := HF0.out.high hR5 hs5 k6 (Nat.le_of_lt HHW.out.1)
      have hx6 := hx5.two k6 (Nat.ne_of_lt HHW.out.1) (Nat.ne_of_lt HHW.out.1)
      have hits6 := hits.two k6 (fun j hj => by have := HHV.out; omega)
      have n6 := below_new V6 (.cells #[.int .i64 x.kind, .int .i64 x.num, .string x.text, .slice la x.list.length cp] 49)
      have henc : (encL [x]).length ≤ 100000000000000 := by
        have h1 := enc_le _ [x] (Nat.le_refl _)
        rw [cnt_one] at h1
        have h2 := hrel.cnt
        have h3 := tws_le HFL.out k3
        have h4 := hR5.le
        have h5 := HLL.out
        omega
      obtain ⟨pf, hpf⟩ : ∃ pf, pf = packF [x] := ⟨_, rfl⟩
      obtain ⟨pt, hpt⟩ : ∃ pt, pt = packT [x] := ⟨_, rfl⟩
      have hpk := (rpack_any [x] (.slice (some ⟨V6.heap.size, 0, none⟩) 1 1) (V6.alloc (.cells #[.int .i64 x.kind, .int .i64 x.num, .string x.text, .slice la x.list.length cp] 49)) (its_one (RowAt.new V6 _ 49) trivial hxok (hits6.keep n6).any) (fun _ => henc))
      have hq2 := HREL.out x k3 lost3 hrel
      have hs65 : V6.heap.size = W5.heap.size := by rw [← hV6]; simp
      rw [← hpf, ← hpt, hs65] at hpk
      clear hs65
      rw [← hpf] at hq2
      have HPK := hide hpk
      have HQ2 := hide hq2
      have HV6 := hide hV6
      have HN6 := hide n6
      have HR6 := hide hR6
      have HX6 := hide hx6
      have HC6 := hide hc6
      have HI6 := hide hits6
      have HXO := hide hxok
      obtain ⟨j0, j1, j2, j3, j4, j5⟩ := hc6.q6
      clear hpk hq2 hpf hpt HIT hits hxok hR5 hS5 hrel hc5 hx5 hs5 hc6 hV6 k6 hR6 hx6 hits6 n6 henc HR4 HX4 HY4 HS4
      go_wp2_with fail
      rw [HV6.out]
      go_wp2_with fail
      refine HPK.out.mono ?_
      rintro e W7 ⟨rfl, hb7⟩
      have hb67 : Below V6.heap.size V6 W7 := Below.next HN6.out hb7
      have hR7 := HR6.out.1.below hb67
      have hS7 : Solo b w W7 := HR6.out.2.trans (.of_below hb67)
      have hx7 := HX6.out.below hb67
      have hc7 := HC6.out.below hb67
      have hi7 := (HI6.out.keep hb67).imp (G := fun j => V4.heap.size ≤ j) (fun j hj => hj)
      clear HPK hb7 hb67 HN6 HV6 HR6 HX6 HC6 HI6 g0 g1 g2 g3 g4 g5 f2 f3 f4 f5 j0 j1 j2 j3 j4 j5
      by_cases hp0 : pf = 0
      · subst hp0
        obtain ⟨g0, g1, g2, g3, g4, g5⟩ := hc7.q6
        have HSC := hide (store_cd _ w.heap.size _ _ _ _ _ _ f 0 x la x.list.length cp hx7)
        have HX7 := hide hx7
        have HF7 := hide (HF0.out.fin hR7 hS7 w.heap.size (Nat.le_refl _) (cdV f 0 x (.slice la x.list.length cp)))
        have HI7 : Hid (ItsAt (W7.setRow w.heap.size (cdV f 0 x (.slice la x.list.length cp))) (fun j => w.heap.size ≤ j) (.slice la x.list.length cp) x.list) := (hi7.but (but_row W7 w.heap.size _) (fun j hj e => by have := Option.some.inj e; have := HHV.out; omega)).imp fun j hj => by have := HHV.out; omega
        clear hR7 hS7 hx7 hc7 hi7
        go_wp2_with (first
          | (refine wpList_store_eq rfl 51 _ _ rfl _ _ rfl rfl HSC.out ?_))
        refine bodyPost_ret (results_cell_row rfl _ _ w.heap.size 51 _ (0, 0) _ rfl (row_set _ _ _ _ _ HX7.out) Tryz.underlying51 rfl (by kernel_rfl)) rfl ?_
        exact ⟨⟨f, 0, x⟩, la, cp, k3, lost3, rfl, HI7.out, ⟨by have := HFS.out; show f.size ≤ _; omega, by show _ ≤ (0 : Int); decide, by show (0 : Int) ≤ _; decide, HXO.out⟩, HF7.out.1, HF7.out.2, by have := HQ2.out; simpa [HS0.out] using this⟩
      · have hpI : ((pf : Int) == 0) = false := by simp [hp0]
        have hR8 := hR7.lose
        have hS8 : Solo b w (W7.setCell ⟨b, 2, none⟩ (.bool true)) := hS7.trans (Solo.set b 2 _ _)
        have p2 := hR7.row.cell 2 (by simp)
        have pf2 := hR7.row.free 2
        simp only [List.getElem_toArray, List.getElem_cons_zero, List.getElem_cons_succ] at p2
        have hx8 := hx7.other HM1.out.1 (.bool true) (j := 2)
        have hc8 := hc7.other HHW.out.2 (.bool true) (j := 2)
        have hi8 := hi7.two (Two.set b 2 W7 (.bool true) (.inl rfl)) (g := b) (fun j hj => by have := HHV.out; have := HM1.out; omega)
        obtain ⟨g0, g1, g2, g3, g4, g5⟩ := hc8.q6
        have HSC := hide (store_cd _ w.heap.size _ _ _ _ _ _ f 0 x la x.list.length cp hx8)
        have HX7 := hide hx8
        have HF7 := hide (HF0.out.fin hR8 hS8 w.heap.size (Nat.le_refl _) (cdV f 0 x (.slice la x.list.length cp)))
        have HI7 : Hid (ItsAt ((W7.setCell ⟨b, 2, none⟩ (.bool true)).setRow w.heap.size (cdV f 0 x (.slice la x.list.length cp))) (fun j => w.heap.size ≤ j) (.slice la x.list.length cp) x.list) := (hi8.but (but_row _ w.heap.size _) (fun j hj e => by have := Option.some.inj e; have := HHV.out; omega)).imp fun j hj => by have := HHV.out; omega
        clear hR7 hS7 hx7 hc7 hi7 hR8 hS8 hx8 hc8 hi8
        go_wp2_with (first
          | (refine wpList_store_eq rfl 51 _ _ rfl _ _ rfl rfl HSC.out ?_))
        refine bodyPost_ret (results_cell_row rfl _ _ w.heap.size 51 _ (0, 0) _ rfl (row_set _ _ _ _ _ HX7.out) Tryz.underlying51 rfl (by kernel_rfl)) rfl ?_
        exact ⟨⟨f, 0, x⟩, la, cp, k3, true, rfl, HI7.out, ⟨by have := HFS.out; show f.size ≤ _; omega, by show _ ≤ (0 : Int); decide, by show (0 : Int) ≤ _; decide, HXO.out⟩, HF7.out.1, HF7.out.2, by have := HQ2.out; simpa [HS0.out, hp0] using this⟩

    · have hsI : ((sg : Int) == 0) = false := by simp [hs0]
      have HL2 : Hid (lost2 = lost1) := by show _ = _; rw [HLS.out]; simp [hs0]
      generalize V3 = V4 at *
      have HR4 : Hid (RdS V4 b a c l k2 lost2) := by show RdS _ _ _ _ _ _ _; rw [HL2.out]; exact HR3.out.1
      have HY4 : Hid (RowAt V4 H (cdV f (sg : Int) it0 (.slice none 0 0)) 51) := HY3.out
      have HX4 : Hid (RowAt V4 w.heap.size #[.string ⟨#[]⟩, .int .i64 0, .int .i64 0, .int .i64 0, .string ⟨#[]⟩, .slice none 0 0] 51) := HX3.out
      have HS4 : Hid (Solo b w V4) := HR3.out.2
      have hHV : H < V4.heap.size := HY4.out.lt
      have hwV : w.heap.size < V4.heap.size := HX4.out.lt
      have hit := ritem_any b a c l HFL.out 4 0 k2 lost2 u2 V4 rfl HR4.out HREP.out
      rw [show ((0 : Nat) : Int) = 0 from rfl] at hit
      have HIT := hide hit
      have HHV : Hid (H < V4.heap.size ∧ w.heap.size < V4.heap.size) := ⟨hHV, hwV⟩
      clear hit hHV hwV
      go_wp2_with fail
      rw [HV3.out]
      refine HIT.out.mono ?_
      rintro e W5 ⟨x, la, cp, k3, lost3, rfl, hits, hxok, hR5, hS5, hrel⟩
      have hc5 : RowAt W5 H (cdV f (sg : Int) it0 (.slice none 0 0)) 51 := HY4.out.two hS5.two HHW.out.2 HHW.out.2
      have hx5 : RowAt W5 w.heap.size #[.string ⟨#[]⟩, .int .i64 0, .int .i64 0, .int .i64 0, .string ⟨#[]⟩, .slice none 0 0] 51 := HX4.out.two hS5.two HM1.out.1 HM1.out.1
      have hs5 : Solo b w W5 := HS4.out.trans hS5
      obtain ⟨g0, g1, g2, g3, g4, g5⟩ := hc5.q6
      have f2 := hc5.free 2
      have f3 := hc5.free 3
      have f4 := hc5.free 4
      have f5 := hc5.free 5
      have hc6 := cd_put hc5 (.int .i64 x.kind) (.int .i64 x.num) (.string x.text) (.slice la x.list.length cp)
      obtain ⟨V6, hV6⟩ : ∃ V6, (((W5.setCell ⟨H, 2, none⟩ (.int .i64 x.kind)).setCell ⟨H, 3, none⟩ (.int .i64 x.num)).setCell ⟨H, 4, none⟩ (.string x.text)).setCell ⟨H, 5, none⟩ (.slice la x.list.length cp) = V6 := ⟨_, rfl⟩
      have k6 : Two H H W5 V6 := by rw [← hV6]; exact (((Two.cell1 H 2 W5 (.int .i64 x.kind)).trans (Two.cell1 H 3 _ (.int .i64 x.num))).trans (Two.cell1 H 4 _ (.string x.text))).trans (Two.cell1 H 5 _ (.slice la x.list.length cp))
      rw [hV6] at hc6
      have hR6 := HF0.out.high hR5 hs5 k6 (Nat.le_of_lt HHW.out.1)
      have hx6 := hx5.two k6 (Nat.ne_of_lt HHW.out.1) (Nat.ne_of_lt HHW.out.1)
      have hits6 := hits.two k6 (fun j hj => by have := HHV.out; omega)
      have n6 := below_new V6 (.cells #[.int .i64 x.kind, .int .i64 x.num, .string x.text, .slice la x.list.length cp] 49)
      have henc : (encL [x]).length ≤ 100000000000000 := by
        have h1 := enc_le _ [x] (Nat.le_refl _)
        rw [cnt_one] at h1
        have h2 := hrel.cnt
        have h3 := tws_le HFL.out k3
        have h4 := hR5.le
        have h5 := HLL.out
        omega
      obtain ⟨pf, hpf⟩ : ∃ pf, pf = packF [x] := ⟨_, rfl⟩
      obtain ⟨pt, hpt⟩ : ∃ pt, pt = packT [x] := ⟨_, rfl⟩
      have hpk := (rpack_any [x] (.slice (some ⟨V6.heap.size, 0, none⟩) 1 1) (V6.alloc (.cells #[.int .i64 x.kind, .int .i64 x.num, .string x.text, .slice la x.list.length cp] 49)) (its_one (RowAt.new V6 _ 49) trivial hxok (hits6.keep n6).any) (fun _ => henc))
      have hq2 := HREL.out x k3 lost3 hrel
      have hs65 : V6.heap.size = W5.heap.size := by rw [← hV6]; simp
      rw [← hpf, ← hpt, hs65] at hpk
      clear hs65
      rw [← hpf] at hq2
      have HPK := hide hpk
      have HQ2 := hide hq2
      have HV6 := hide hV6
      have HN6 := hide n6
      have HR6 := hide hR6
      have HX6 := hide hx6
      have HC6 := hide hc6
      have HI6 := hide hits6
      have HXO := hide hxok
      obtain ⟨j0, j1, j2, j3, j4, j5⟩ := hc6.q6
      clear hpk hq2 hpf hpt HIT hits hxok hR5 hS5 hrel hc5 hx5 hs5 hc6 hV6 k6 hR6 hx6 hits6 n6 henc HR4 HX4 HY4 HS4
      go_wp2_with fail
      rw [HV6.out]
      go_wp2_with fail
      refine HPK.out.mono ?_
      rintro e W7 ⟨rfl, hb7⟩
      have hb67 : Below V6.heap.size V6 W7 := Below.next HN6.out hb7
      have hR7 := HR6.out.1.below hb67
      have hS7 : Solo b w W7 := HR6.out.2.trans (.of_below hb67)
      have hx7 := HX6.out.below hb67
      have hc7 := HC6.out.below hb67
      have hi7 := (HI6.out.keep hb67).imp (G := fun j => V4.heap.size ≤ j) (fun j hj => hj)
      clear HPK hb7 hb67 HN6 HV6 HR6 HX6 HC6 HI6 g0 g1 g2 g3 g4 g5 f2 f3 f4 f5 j0 j1 j2 j3 j4 j5
      by_cases hp0 : pf = 0
      · subst hp0
        obtain ⟨g0, g1, g2, g3, g4, g5⟩ := hc7.q6
        have HSC := hide (store_cd _ w.heap.size _ _ _ _ _ _ f (sg : Int) x la x.list.length cp hx7)
        have HX7 := hide hx7
        have HF7 := hide (HF0.out.fin hR7 hS7 w.heap.size (Nat.le_refl _) (cdV f (sg : Int) x (.slice la x.list.length cp)))
        have HI7 : Hid (ItsAt (W7.setRow w.heap.size (cdV f (sg : Int) x (.slice la x.list.length cp))) (fun j => w.heap.size ≤ j) (.slice la x.list.length cp) x.list) := (hi7.but (but_row W7 w.heap.size _) (fun j hj e => by have := Option.some.inj e; have := HHV.out; omega)).imp fun j hj => by have := HHV.out; omega
        clear hR7 hS7 hx7 hc7 hi7
        go_wp2_with (first
          | (refine wpList_store_eq rfl 51 _ _ rfl _ _ rfl rfl HSC.out ?_))
        refine bodyPost_ret (results_cell_row rfl _ _ w.heap.size 51 _ (0, 0) _ rfl (row_set _ _ _ _ _ HX7.out) Tryz.underlying51 rfl (by kernel_rfl)) rfl ?_
        exact ⟨⟨f, (sg : Int), x⟩, la, cp, k3, lost3, rfl, HI7.out, ⟨by have := HFS.out; show f.size ≤ _; omega, by have := HS5.out; show _ ≤ (sg : Int); omega, by have := HS5.out; show (sg : Int) ≤ _; omega, HXO.out⟩, HF7.out.1, HF7.out.2, by have := HQ2.out; simpa using this⟩
      · have hpI : ((pf : Int) == 0) = false := by simp [hp0]
        have hR8 := hR7.lose
        have hS8 : Solo b w (W7.setCell ⟨b, 2, none⟩ (.bool true)) := hS7.trans (Solo.set b 2 _ _)
        have p2 := hR7.row.cell 2 (by simp)
        have pf2 := hR7.row.free 2
        simp only [List.getElem_toArray, List.getElem_cons_zero, List.getElem_cons_succ] at p2
        have hx8 := hx7.other HM1.out.1 (.bool true) (j := 2)
        have hc8 := hc7.other HHW.out.2 (.bool true) (j := 2)
        have hi8 := hi7.two (Two.set b 2 W7 (.bool true) (.inl rfl)) (g := b) (fun j hj => by have := HHV.out; have := HM1.out; omega)
        obtain ⟨g0, g1, g2, g3, g4, g5⟩ := hc8.q6
        have HSC := hide (store_cd _ w.heap.size _ _ _ _ _ _ f (sg : Int) x la x.list.length cp hx8)
        have HX7 := hide hx8
        have HF7 := hide (HF0.out.fin hR8 hS8 w.heap.size (Nat.le_refl _) (cdV f (sg : Int) x (.slice la x.list.length cp)))
        have HI7 : Hid (ItsAt ((W7.setCell ⟨b, 2, none⟩ (.bool true)).setRow w.heap.size (cdV f (sg : Int) x (.slice la x.list.length cp))) (fun j => w.heap.size ≤ j) (.slice la x.list.length cp) x.list) := (hi8.but (but_row _ w.heap.size _) (fun j hj e => by have := Option.some.inj e; have := HHV.out; omega)).imp fun j hj => by have := HHV.out; omega
        clear hR7 hS7 hx7 hc7 hi7 hR8 hS8 hx8 hc8 hi8
        go_wp2_with (first
          | (refine wpList_store_eq rfl 51 _ _ rfl _ _ rfl rfl HSC.out ?_))
        refine bodyPost_ret (results_cell_row rfl _ _ w.heap.size 51 _ (0, 0) _ rfl (row_set _ _ _ _ _ HX7.out) Tryz.underlying51 rfl (by kernel_rfl)) rfl ?_
        exact ⟨⟨f, (sg : Int), x⟩, la, cp, k3, true, rfl, HI7.out, ⟨by have := HFS.out; show f.size ≤ _; omega, by have := HS5.out; show _ ≤ (sg : Int); omega, by have := HS5.out; show (sg : Int) ≤ _; omega, HXO.out⟩, HF7.out.1, HF7.out.2, by have := HQ2.out; simpa [hp0] using this⟩

  · have k5 : (tk == 5) = false := by simpa using e5
    rw [if_neg e5] at HSG
    have HS0 := hide HSG.out
    have HL2 : Hid (lost2 = true) := by show _ = _; rw [HLS.out, HS0.out]; simp
    have p2 := HRV2.out.row.cell 2 (by simp)
    have pf2 := HRV2.out.row.free 2
    simp only [List.getElem_toArray, List.getElem_cons_zero, List.getElem_cons_succ] at p2
    obtain ⟨_, a1, _⟩ := HYV2.out.q6
    obtain ⟨V4, hV4⟩ : ∃ V4, V2.setCell ⟨b, 2, none⟩ (.bool true) = V4 := ⟨_, rfl⟩
    have HR4 : Hid (RdS V4 b a c l k2 lost2) := by show RdS _ _ _ _ _ _ _; rw [← hV4, HL2.out]; exact HRV2.out.lose
    have HY4 : Hid (RowAt V4 H (cdV f 0 it0 (.slice none 0 0)) 51) := by show RowAt _ _ _ _; rw [← hV4]; exact HYV2.out.other HHW.out.2 (.bool true) (j := 2)
    have HX4 : Hid (RowAt V4 w.heap.size #[.string ⟨#[]⟩, .int .i64 0, .int .i64 0, .int .i64 0, .string ⟨#[]⟩, .slice none 0 0] 51) := by show RowAt _ _ _ _; rw [← hV4]; exact HXV2.out.other HM1.out.1 (.bool true) (j := 2)
    have HS4 : Hid (Solo b w V4) := by show Solo _ _ _; rw [← hV4]; exact HSV2.out.trans (Solo.set b 2 _ _)
    have HV4 := hide hV4
    clear hV4 e5
    have hHV : H < V4.heap.size := HY4.out.lt
    have hwV : w.heap.size < V4.heap.size := HX4.out.lt
    have hit := ritem_any b a c l HFL.out 4 0 k2 lost2 u2 V4 rfl HR4.out HREP.out
    rw [show ((0 : Nat) : Int) = 0 from rfl] at hit
    have HIT := hide hit
    have HHV : Hid (H < V4.heap.size ∧ w.heap.size < V4.heap.size) := ⟨hHV, hwV⟩
    clear hit hHV hwV
    go_wp2_with (first
      | (refine wpList_store_eq rfl 70 _ _ rfl _ _ rfl rfl HST2.out ?_)
      | fail)
    rw [HV4.out]
    refine HIT.out.mono ?_
    rintro e W5 ⟨x, la, cp, k3, lost3, rfl, hits, hxok, hR5, hS5, hrel⟩
    have hc5 : RowAt W5 H (cdV f 0 it0 (.slice none 0 0)) 51 := HY4.out.two hS5.two HHW.out.2 HHW.out.2
    have hx5 : RowAt W5 w.heap.size #[.string ⟨#[]⟩, .int .i64 0, .int .i64 0, .int .i64 0, .string ⟨#[]⟩, .slice none 0 0] 51 := HX4.out.two hS5.two HM1.out.1 HM1.out.1
    have hs5 : Solo b w W5 := HS4.out.trans hS5
    obtain ⟨g0, g1, g2, g3, g4, g5⟩ := hc5.q6
    have f2 := hc5.free 2
    have f3 := hc5.free 3
    have f4 := hc5.free 4
    have f5 := hc5.free 5
    have hc6 := cd_put hc5 (.int .i64 x.kind) (.int .i64 x.num) (.string x.text) (.slice la x.list.length cp)
    obtain ⟨V6, hV6⟩ : ∃ V6, (((W5.setCell ⟨H, 2, none⟩ (.int .i64 x.kind)).setCell ⟨H, 3, none⟩ (.int .i64 x.num)).setCell ⟨H, 4, none⟩ (.string x.text)).setCell ⟨H, 5, none⟩ (.slice la x.list.length cp) = V6 := ⟨_, rfl⟩
    have k6 : Two H H W5 V6 := by rw [← hV6]; exact (((Two.cell1 H 2 W5 (.int .i64 x.kind)).trans (Two.cell1 H 3 _ (.int .i64 x.num))).trans (Two.cell1 H 4 _ (.string x.text))).trans (Two.cell1 H 5 _ (.slice la x.list.length cp))
    rw [hV6] at hc6
    have hR6 := HF0.out.high hR5 hs5 k6 (Nat.le_of_lt HHW.out.1)
    have hx6 := hx5.two k6 (Nat.ne_of_lt HHW.out.1) (Nat.ne_of_lt HHW.out.1)
    have hits6 := hits.two k6 (fun j hj => by have := HHV.out; omega)
    have n6 := below_new V6 (.cells #[.int .i64 x.kind, .int .i64 x.num, .string x.text, .slice la x.list.length cp] 49)
    have henc : (encL [x]).length ≤ 100000000000000 := by
      have h1 := enc_le _ [x] (Nat.le_refl _)
      rw [cnt_one] at h1
      have h2 := hrel.cnt
      have h3 := tws_le HFL.out k3
      have h4 := hR5.le
      have h5 := HLL.out
      omega
    obtain ⟨pf, hpf⟩ : ∃ pf, pf = packF [x] := ⟨_, rfl⟩
    obtain ⟨pt, hpt⟩ : ∃ pt, pt = packT [x] := ⟨_, rfl⟩
    have hpk := (rpack_any [x] (.slice (some ⟨V6.heap.size, 0, none⟩) 1 1) (V6.alloc (.cells #[.int .i64 x.kind, .int .i64 x.num, .string x.text, .slice la x.list.length cp] 49)) (its_one (RowAt.new V6 _ 49) trivial hxok (hits6.keep n6).any) (fun _ => henc))
    have hq2 := HREL.out x k3 lost3 hrel
    have hs65 : V6.heap.size = W5.heap.size := by rw [← hV6]; simp
    rw [← hpf, ← hpt, hs65] at hpk
    clear hs65
    rw [← hpf] at hq2
    have HPK := hide hpk
    have HQ2 := hide hq2
    have HV6 := hide hV6
    have HN6 := hide n6
    have HR6 := hide hR6
    have HX6 := hide hx6
    have HC6 := hide hc6
    have HI6 := hide hits6
    have HXO := hide hxok
    obtain ⟨j0, j1, j2, j3, j4, j5⟩ := hc6.q6
    clear hpk hq2 hpf hpt HIT hits hxok hR5 hS5 hrel hc5 hx5 hs5 hc6 hV6 k6 hR6 hx6 hits6 n6 henc HR4 HX4 HY4 HS4
    go_wp2_with fail
    rw [HV6.out]
    go_wp2_with fail
    refine HPK.out.mono ?_
    rintro e W7 ⟨rfl, hb7⟩
    have hb67 : Below V6.heap.size V6 W7 := Below.next HN6.out hb7
    have hR7 := HR6.out.1.below hb67
    have hS7 : Solo b w W7 := HR6.out.2.trans (.of_below hb67)
    have hx7 := HX6.out.below hb67
    have hc7 := HC6.out.below hb67
    have hi7 := (HI6.out.keep hb67).imp (G := fun j => V4.heap.size ≤ j) (fun j hj => hj)
    clear HPK hb7 hb67 HN6 HV6 HR6 HX6 HC6 HI6 g0 g1 g2 g3 g4 g5 f2 f3 f4 f5 j0 j1 j2 j3 j4 j5
    by_cases hp0 : pf = 0
    · subst hp0
      obtain ⟨g0, g1, g2, g3, g4, g5⟩ := hc7.q6
      have HSC := hide (store_cd _ w.heap.size _ _ _ _ _ _ f 0 x la x.list.length cp hx7)
      have HX7 := hide hx7
      have HF7 := hide (HF0.out.fin hR7 hS7 w.heap.size (Nat.le_refl _) (cdV f 0 x (.slice la x.list.length cp)))
      have HI7 : Hid (ItsAt (W7.setRow w.heap.size (cdV f 0 x (.slice la x.list.length cp))) (fun j => w.heap.size ≤ j) (.slice la x.list.length cp) x.list) := (hi7.but (but_row W7 w.heap.size _) (fun j hj e => by have := Option.some.inj e; have := HHV.out; omega)).imp fun j hj => by have := HHV.out; omega
      clear hR7 hS7 hx7 hc7 hi7
      go_wp2_with (first
        | (refine wpList_store_eq rfl 51 _ _ rfl _ _ rfl rfl HSC.out ?_))
      refine bodyPost_ret (results_cell_row rfl _ _ w.heap.size 51 _ (0, 0) _ rfl (row_set _ _ _ _ _ HX7.out) Tryz.underlying51 rfl (by kernel_rfl)) rfl ?_
      exact ⟨⟨f, 0, x⟩, la, cp, k3, lost3, rfl, HI7.out, ⟨by have := HFS.out; show f.size ≤ _; omega, by show _ ≤ (0 : Int); decide, by show (0 : Int) ≤ _; decide, HXO.out⟩, HF7.out.1, HF7.out.2, by have := HQ2.out; simpa [HS0.out] using this⟩
    · have hpI : ((pf : Int) == 0) = false := by simp [hp0]
      have hR8 := hR7.lose
      have hS8 : Solo b w (W7.setCell ⟨b, 2, none⟩ (.bool true)) := hS7.trans (Solo.set b 2 _ _)
      have p2 := hR7.row.cell 2 (by simp)
      have pf2 := hR7.row.free 2
      simp only [List.getElem_toArray, List.getElem_cons_zero, List.getElem_cons_succ] at p2
      have hx8 := hx7.other HM1.out.1 (.bool true) (j := 2)
      have hc8 := hc7.other HHW.out.2 (.bool true) (j := 2)
      have hi8 := hi7.two (Two.set b 2 W7 (.bool true) (.inl rfl)) (g := b) (fun j hj => by have := HHV.out; have := HM1.out; omega)
      obtain ⟨g0, g1, g2, g3, g4, g5⟩ := hc8.q6
      have HSC := hide (store_cd _ w.heap.size _ _ _ _ _ _ f 0 x la x.list.length cp hx8)
      have HX7 := hide hx8
      have HF7 := hide (HF0.out.fin hR8 hS8 w.heap.size (Nat.le_refl _) (cdV f 0 x (.slice la x.list.length cp)))
      have HI7 : Hid (ItsAt ((W7.setCell ⟨b, 2, none⟩ (.bool true)).setRow w.heap.size (cdV f 0 x (.slice la x.list.length cp))) (fun j => w.heap.size ≤ j) (.slice la x.list.length cp) x.list) := (hi8.but (but_row _ w.heap.size _) (fun j hj e => by have := Option.some.inj e; have := HHV.out; omega)).imp fun j hj => by have := HHV.out; omega
      clear hR7 hS7 hx7 hc7 hi7 hR8 hS8 hx8 hc8 hi8
      go_wp2_with (first
        | (refine wpList_store_eq rfl 51 _ _ rfl _ _ rfl rfl HSC.out ?_))
      refine bodyPost_ret (results_cell_row rfl _ _ w.heap.size 51 _ (0, 0) _ rfl (row_set _ _ _ _ _ HX7.out) Tryz.underlying51 rfl (by kernel_rfl)) rfl ?_
      exact ⟨⟨f, 0, x⟩, la, cp, k3, true, rfl, HI7.out, ⟨by have := HFS.out; show f.size ≤ _; omega, by show _ ≤ (0 : Int); decide, by show (0 : Int) ≤ _; decide, HXO.out⟩, HF7.out.1, HF7.out.2, by have := HQ2.out; simpa [HS0.out, hp0] using this⟩

end Go.Proofs.YtkgeabljdkkonaaGreatDoor

namespace Go.Proofs.YtkgeabljdkkonaaGreatDoor
open Go.RowKit

/-! The document's query: its state. -/
structure QW (w W : World) (b : Nat) (a : Option Addr) (c : Nat) (l : List Tk) (k : Nat) (lost : Bool) (q : Qd) (la : Option Addr) (cc : Nat) : Prop where
  h0 : RdS w b a c l 0 false
  rd : RdS W b a c l k lost
  res : RowAt W w.heap.size #[.string ⟨#[]⟩, .slice none 0 0, .string ⟨#[]⟩, .bool false, .int .i64 0] 24
  row : RowAt W (w.heap.size + 1) (qV q (.slice la q.cs.length cc)) 24
  own : CsOwn W (w.heap.size + 2) (.slice la q.cs.length cc) q.cs
  solo : Solo b w W
  sz : w.heap.size + 2 ≤ W.heap.size
section
variable {w W W' : World} {b c k k' cc : Nat} {a la : Option Addr} {l : List Tk} {lost lost' : Bool} {q : Qd}
theorem QW.move (h : QW w W b a c l k lost q la cc) (hR : RdS W' b a c l k' lost') (hS : Solo b W W') : QW w W' b a c l k' lost' q la cc := by
  have hb := h.h0.row.lt
  refine ⟨h.h0, hR, ?_, ?_, h.own.two hS.two (by omega) (by omega), h.solo.trans hS, Nat.le_trans h.sz hS.size⟩
  · exact h.res.two hS.two (by omega) (by omega)
  · exact h.row.two hS.two (by omega) (by omega)
theorem QW.below (h : QW w W b a c l k lost q la cc) (hB : Below W.heap.size W W') : QW w W' b a c l k lost q la cc := h.move (h.rd.below hB) (.of_below hB)
theorem QW.lose (h : QW w W b a c l k lost q la cc) : QW w (W.setCell ⟨b, 2, none⟩ (.bool true)) b a c l k true q la cc := h.move h.rd.lose (Solo.set b 2 _ _)
theorem QW.put (h : QW w W b a c l k lost q la cc) (j : Nat) (y : Value) {q' : Qd} (hq : q'.cs = q.cs) (hr : RowAt (W.setCell ⟨w.heap.size + 1, j, none⟩ y) (w.heap.size + 1) (qV q' (.slice la q'.cs.length cc)) 24) : QW w (W.setCell ⟨w.heap.size + 1, j, none⟩ y) b a c l k lost q' la cc := by
  have hb := h.h0.row.lt
  have k1 := Two.cell1 (w.heap.size + 1) j W y
  have hh := h.h0.high h.rd h.solo k1 (by omega)
  refine ⟨h.h0, hh.1, h.res.two k1 (by omega) (by omega), hr, ?_, hh.2, Nat.le_trans h.sz k1.size⟩
  rw [hq]
  exact h.own.two k1 (by omega) (by omega)
theorem QW.set0 (h : QW w W b a c l k lost q la cc) (t : ByteArray) : QW w (W.setCell ⟨w.heap.size + 1, 0, none⟩ (.string t)) b a c l k lost ⟨t, q.cs, q.order, q.falling, q.limit⟩ la cc := h.put 0 _ rfl (q_set0 h.row _)
theorem QW.set2 (h : QW w W b a c l k lost q la cc) (t : ByteArray) : QW w (W.setCell ⟨w.heap.size + 1, 2, none⟩ (.string t)) b a c l k lost ⟨q.table, q.cs, t, q.falling, q.limit⟩ la cc := h.put 2 _ rfl (q_set2 h.row _)
theorem QW.set3 (h : QW w W b a c l k lost q la cc) (t : Bool) : QW w (W.setCell ⟨w.heap.size + 1, 3, none⟩ (.bool t)) b a c l k lost ⟨q.table, q.cs, q.order, t, q.limit⟩ la cc := h.put 3 _ rfl (q_set3 h.row _)
theorem QW.set4 (h : QW w W b a c l k lost q la cc) (t : Int) : QW w (W.setCell ⟨w.heap.size + 1, 4, none⟩ (.int .i64 t)) b a c l k lost ⟨q.table, q.cs, q.order, q.falling, t⟩ la cc := h.put 4 _ rfl (q_set4 h.row _)
end
/-- Where the reader stands, out of the world. -/
def posW (wr : World) (b : Nat) : Nat := match wr.cell? ⟨b, 1, none⟩ with | some (.int _ k) => k.toNat | _ => 0
def lostW (wr : World) (b : Nat) : Nat := match wr.cell? ⟨b, 2, none⟩ with | some (.bool true) => 0 | _ => 1
theorem posW_is {wr : World} {b c k : Nat} {a : Option Addr} {l : List Tk} {lost : Bool} (h : RdS wr b a c l k lost) : posW wr b = k ∧ lostW wr b = if lost then 0 else 1 := by
  have c1 := h.row.cell 1 (by simp)
  have c2 := h.row.cell 2 (by simp)
  simp only [List.getElem_toArray, List.getElem_cons_zero, List.getElem_cons_succ] at c1 c2
  unfold posW lostW
  rw [c1, c2]
  cases lost <;> simp
/-- What the document's query answers. -/
def RQryR (w : World) (b : Nat) (a : Option Addr) (c : Nat) (l : List Tk) (R0 : Option Qd) (e : Ending) (w' : World) : Prop :=
  ∃ (q : Qd) (la : Option Addr) (cc k' : Nat) (lost' : Bool), e = .returned (.agg (qV q (.slice la q.cs.length cc))) ∧ CsAt w' (fun j => w.heap.size ≤ j) (.slice la q.cs.length cc) q.cs ∧ RdS w' b a c l k' lost' ∧ Solo b w w' ∧ (lost' = false → R0 = some q ∧ qfaultD q = 0) ∧ (lost' = true → Dead R0)
/-- The end. -/
theorem QW.fin {w W : World} {b c k cc : Nat} {a la : Option Addr} {l : List Tk} {lost : Bool} {q : Qd} {R0 : Option Qd} (h : QW w W b a c l k lost q la cc) (hn : q.cs.length ≤ 1000002) (hf : (lost = false → R0 = some q ∧ qfaultD q = 0) ∧ (lost = true → Dead R0)) :
    RQryR w b a c l R0 (.returned (.agg (qV q (.slice la q.cs.length cc)))) (W.setRow w.heap.size (qV q (.slice la q.cs.length cc))) := by
  have hh := h.h0.fin h.rd h.solo w.heap.size (Nat.le_refl _) (qV q (.slice la q.cs.length cc))
  refine ⟨q, la, cc, k, lost, rfl, ?_, hh.1, hh.2, hf.1, hf.2⟩
  exact ((h.own.but (but_row W w.heap.size _) (by omega)).at' (by omega)).imp fun j hj => by omega
/-- One condition more. -/
theorem QW.push {w V w5 : World} {b c k cc g5 cap5 : Nat} {a la : Option Addr} {l : List Tk} {lost : Bool} {q : Qd} {x : Cd} (h : QW w V b a c l k lost q la cc) (hB : Below (w.heap.size + 2) V w5) (ho : CsOwn w5 (w.heap.size + 2) (.slice (some ⟨g5, 0, none⟩) (q.cs.length + 1) cap5) (q.cs ++ [x])) :
    RowAt w5 (w.heap.size + 1) (qV q (.slice la q.cs.length cc)) 24 ∧ QW w (w5.setCell ⟨w.heap.size + 1, 1, none⟩ (.slice (some ⟨g5, 0, none⟩) (q.cs.length + 1) cap5)) b a c l k lost ⟨q.table, q.cs ++ [x], q.order, q.falling, q.limit⟩ (some ⟨g5, 0, none⟩) cap5 := by
  have hb := h.h0.row.lt
  have hr5 : RowAt w5 (w.heap.size + 1) (qV q (.slice la q.cs.length cc)) 24 := by unfold RowAt; rw [hB.block _ (by omega)]; exact h.row
  have hx5 : RowAt w5 w.heap.size #[.string ⟨#[]⟩, .slice none 0 0, .string ⟨#[]⟩, .bool false, .int .i64 0] 24 := by unfold RowAt; rw [hB.block _ (by omega)]; exact h.res
  have hs5 : Solo b w w5 := h.solo.then hB (by omega)
  have hd5 : RdS w5 b a c l k lost := h.h0.move h.rd hs5 (hB.block b (by omega))
  have k1 := Two.cell1 (w.heap.size + 1) 1 w5 (.slice (some ⟨g5, 0, none⟩) (q.cs.length + 1) cap5)
  have hh := h.h0.high hd5 hs5 k1 (by omega)
  have hl : (q.cs ++ [x]).length = q.cs.length + 1 := by simp
  refine ⟨hr5, h.h0, hh.1, hx5.two k1 (by omega) (by omega), ?_, ?_, hh.2, Nat.le_trans (Nat.le_trans h.sz hB.size) k1.size⟩
  · simp only [hl]
    exact q_set1 hr5 _
  · simp only [hl]
    exact ho.two k1 (by omega) (by omega)
/-- A stage is over, out of the world alone. -/
def QC2 (w : World) (b : Nat) (a : Option Addr) (c : Nat) (l : List Tk) (R0 : Option Qd) (F : Qd → St → Option Qd) (la : Option Addr) (cc : Nat) (wx : World) : Prop :=
  ∃ (q : Qd) (k : Nat) (lost : Bool), Hid (QW w wx b a c l k lost q la cc) ∧ Hid (QI l R0 F q k lost) ∧ Hid (q.cs.length ≤ 1000002)
end Go.Proofs.YtkgeabljdkkonaaGreatDoor
