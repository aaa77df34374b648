import Derived.Test.YtlopimdnjookeaaDoorMAnew
import Derived.Test.YtlopimdnjookeaaDoorSame
namespace Go.Proofs.YtlopimdnjookeaaDoor
open Go.RowKit

theorem same_rda (v1 v2 : Value) (l : List UInt8) (w : World) (h1 : RdA w v1 l) (h2 : RdA w v2 l) (hm : l.length ≤ 140737488355328) :
    Calls Tryd.prog 22 #[v1, v2] w fun e w' => e = .returned (.bool true) ∧ Below w.heap.size w w' := by
  obtain ⟨a1, c1, rfl, k1⟩ := h1
  obtain ⟨a2, c2, rfl, k2⟩ := h2
  have := same_two a1 a2 c1 c2 l.length l l w hm rfl rfl k1 k2
  rw [decide_eq_true (rfl : l = l)] at this
  exact this
theorem owns_row {w : World} {g base : Nat} {l : List UInt8} (h : RowT 5 w g l) (hl : l.length = 512) (hb : base ≤ g) : w.ownsRow base 5 1 (.slice (some ⟨g, 0, none⟩) 512 512) 512 (u8s l) :=
  ⟨by rw [u8s_length, hl], .inr ⟨g, 512, (u8s l).toArray, rfl, hb, h, Nat.le_refl _, by decide, by simp [u8s_length, hl], by rw [List.take_of_length_le (by simp [u8s_length, hl])]⟩⟩
theorem Sole.grown {g : Nat} {w0 w w' : World} {row : Option Nat} (h : Sole g w0 w) (hg : w.grownBy w' row) (hr : ∀ k, row = some k → k = g ∨ w0.heap.size ≤ k) : Sole g w0 w' :=
  ⟨hg.os.trans h.os, hg.tape.trans h.tape, hg.output.trans h.output, Nat.le_trans h.size hg.size, fun k hk hn => (hg.block k (Nat.lt_of_lt_of_le hk h.size) (fun e => by rcases hr k e.symm with h1 | h1; exact hn h1; omega)).trans (h.block k hk hn)⟩
theorem RdA.sole {g : Nat} {w w' : World} {v : Value} {l : List UInt8} (h : RdA w v l) (hs : Sole g w w') (hn : v.ownBlock ≠ some g) : RdA w' v l := by
  obtain ⟨a, c, rfl, hc⟩ := h
  refine ⟨a, c, rfl, fun j hj => ?_⟩
  obtain ⟨b, o, rfl, hcell⟩ := hc j hj
  exact ⟨b, o, rfl, hs.cell hcell (fun e => hn (by rw [← e]; rfl))⟩

set_option maxRecDepth 100000 in
set_option maxHeartbeats 16000000 in
theorem memory_any (A : Nat → Addr) (p r : Int) (t : Nat) (w : World) (hn : (⟨p, r, t⟩ : Mt).num) (hE : ErrsAt A w) (hT : Tab w) :
    Calls Tryd.prog 8 #[.agg #[.int .i64 p, .int .i64 r, .int .u64 (t : Int)]] w fun e w' => e = .returned (.bool true) ∧ Below w.heap.size w w' := by
  obtain ⟨i0, hi, hz0, hz1, hz2⟩ := info_parts Tryd.info5
  have HN := hide hn
  have ht : t < 18446744073709551616 := hn.2.2.2.2
  have HE := hide hE
  have HTB := hide hT
  have HB := hide (below_new w (.cells #[.int .i64 p, .int .i64 r, .int .u64 (t : Int)] 31))
  clear hn hE hT
  go_enter Tryd.func8, Tryd.ntmps8
  go_wp2_with fail
  refine (tidy_any p r t _ HN.out.1 HN.out.2.1 HN.out.2.2.1 HN.out.2.2.2.1).mono ?_
  rintro e w1 ⟨P, R, rfl, hm, hb1⟩
  have HM := hide hm
  have HX1 := hide (boxed_new w1 #[.int .i64 P, .int .i64 R, .int .u64 (t : Int)] 31)
  have HB1 := hide (Below.next (Below.next HB.out hb1) (below_new w1 (.cells #[.int .i64 P, .int .i64 R, .int .u64 (t : Int)] 31)))
  have HEN : Hid (∀ w, Tab w → Calls Tryd.prog 18 #[.agg #[.int .i64 P, .int .i64 R, .int .u64 (t : Int)]] w fun e w' => ∃ g, e = .returned (.tuple #[.slice (some ⟨g, 0, none⟩) 512 512, .nilIface]) ∧ RowT 5 w' g (mpage ⟨P, R, t⟩) ∧ w.heap.size ≤ g ∧ Below w.heap.size w w') := fun w h => encode_ok ⟨P, R, t⟩ w HM.out ht h
  have HPL := hide (mpage_len ⟨P, R, t⟩)
  clear hm hb1 HB
  go_wp2_with fail
  generalize w1.alloc (.cells #[.int .i64 P, .int .i64 R, .int .u64 (t : Int)] 31) = W1 at *
  generalize w1.heap.size = qb at *
  refine (HEN.out _ (HTB.out.below HB1.out)).mono ?_
  rintro e w2 ⟨g1, rfl, hr2, hg2, hb2⟩
  have HR2 := hide hr2
  have HB2 := hide (Below.next HB1.out hb2)
  have HX2 := hide (HX1.out.below hb2)
  have HG1 : Hid (qb < g1 ∧ w.heap.size ≤ g1) := ⟨Nat.lt_of_lt_of_le HX1.out.1 hg2, Nat.le_trans HB1.out.size hg2⟩
  have c0 := HX2.out.2 0 (by simp)
  have c1 := HX2.out.2 1 (by simp)
  have c2 := HX2.out.2 2 (by simp)
  simp only [List.getElem_cons_zero, List.getElem_cons_succ] at c0 c1 c2
  clear hr2 hg2 hb2 HX1 HB1
  go_wp2_with fail
  refine (HEN.out _ (HTB.out.below HB2.out)).mono ?_
  rintro e w3 ⟨g2, rfl, hr3, hg3, hb3⟩
  have HS3 := hide hr3
  have HR3 := hide (HR2.out.below hb3)
  have HB3 := hide (Below.next HB2.out hb3)
  have HX3 := hide (HX2.out.below hb3)
  have HG2 : Hid (g1 < g2 ∧ w.heap.size ≤ g2) := ⟨Nat.lt_of_lt_of_le HR2.out.lt hg3, Nat.le_trans HB2.out.size hg3⟩
  clear hr3 hg3 hb3 HX2 HB2 HR2 c0 c1 c2
  go_wp2_with fail
  refine (copy_rd _ (mpage ⟨P, R, t⟩) w3 (by rw [HPL.out]; decide) (HR3.out.rd HPL.out (by decide))).mono ?_
  rintro e w4 ⟨vh, rfl, ho4, hb4⟩
  have HH4 : Hid (RdA w4 vh (mpage ⟨P, R, t⟩) ∧ vh.ownBlock ≠ some g1) := ⟨(rd_of_owns ho4).any, fun e => by
    rcases ho4.2 with ⟨h', _⟩ | ⟨g', cap', cur, h', hg', _⟩
    · rw [h'] at e; cases e
    · rw [h'] at e; cases e; have h9 : g' < w3.heap.size := HR3.out.lt; omega⟩
  have HS4 := hide (HS3.out.below hb4)
  have HR4 := hide (HR3.out.below hb4)
  have HB4 := hide (Below.next HB3.out hb4)
  have HX4 := hide (HX3.out.below hb4)
  clear ho4 hb4 HX3 HB3 HR3 HS3
  go_wp2_with fail
  go_loopw [9] (fun u9 wr => ∃ (j : Nat) (l : List UInt8), j ≤ 512 ∧ u9 = .int .i64 j ∧ RowT 5 wr g1 l ∧ l.length = 512 ∧ Sole g1 w4 wr) (fun u9 _ => 512 - (intOf u9).toNat)
  case atStart => exact ⟨0, mpage ⟨P, R, t⟩, by omega, rfl, HR4.out, HPL.out, Sole.refl _ _⟩
  case round =>
    obtain ⟨j, l, hj, rfl, hr, hl, hso⟩ := hrel
    by_cases hlt : j < 512
    · obtain ⟨cv, hcell⟩ : ∃ cv : Int, wr.cell? ⟨g1, j, none⟩ = some (.int .u8 cv) := ⟨_, hr.cell j (by omega)⟩
      have hfr := hr.frozen j
      have HRS : Hid (RowT 5 (wr.setCell ⟨g1, j, none⟩ (.int .u8 1)) g1 (l.set j 1)) := hr.set j 1
      have HSO : Hid (Sole g1 w4 (wr.setCell ⟨g1, j, none⟩ (.int .u8 1))) := hso.trans (Sole.set g1 j wr _)
      have HL : Hid ((l.set j 1).length = 512) := by show _ = _; rw [List.length_set]; exact hl
      clear hr hl hso
      go_wp2_with fail
      go_roundw
      case rel => exact ⟨j + 1, l.set j 1, by omega, by go_num, HRS.out, HL.out, HSO.out⟩
      case measure => simp [intOf]; omega
    · obtain rfl : j = 512 := by omega
      rw [show ((512 : Nat) : Int) = 512 from rfl]
      obtain ⟨W5, hW5⟩ : ∃ W5, W5 = wr := ⟨_, rfl⟩
      subst hW5
      have HB5 := hide (hso.below HB4.out HG1.out.2)
      have HX5 := hide (boxed_sole HX4.out hso (by have := HG1.out.1; omega))
      have HS5 := hide (HS4.out.sole hso (by have := HG2.out.1; omega))
      have HH5 := hide (HH4.out.1.sole hso HH4.out.2)
      have hown := owns_row hr hl HG1.out.2
      have HGL : Hid (g1 < W5.heap.size) := hr.lt
      have HSZ : Hid (w.heap.size ≤ W5.heap.size) := HB5.out.size
      clear hr hl hso hlt hj HX4 HS4 HR4 HB4
      go_wp2_with (first
        | (at_builtin; refine wpList_append_lies _ rfl _ _ 42 rfl w.heap.size 5 i0 (.int .u8 0) 1 1 Tryd.underlying42 hi hz0 hz1 hz2 rfl (by decide) _ _ _ rfl (hown.alloc _) ⟨W5.heap.size, 0, none⟩ 1 1 [.int .u8 1] rfl rfl ?c1 ?c2 ?c3 ?c4 ?c5 ?c6 (W5.heap.size + 1) ?c7 ?_))
      case c1 =>
        intro j u hj
        match j, hj with
        | 0, hj => simp at hj; subst hj; simp [Addr.add]
      case c2 => intro u hu; simp at hu; subst hu; rfl
      case c3 => decide
      case c4 => decide
      case c5 => decide
      case c6 => have := HSZ.out; simp; omega
      case c7 => simp
      intro g' cap' w6 hown' hgrow hat hlg
      have HSO6 : Hid (Sole g1 W5 w6) := (Sole.of_below (below_new W5 (.cells #[.int .u8 1] 5))).grown hgrow (fun k hk => .inl (by cases hk; rfl))
      have HAT : Hid (g' = g1 ∨ W5.heap.size ≤ g') := by
        rcases hat with h | h
        · exact .inl (by cases h; rfl)
        · exact .inr (by omega)
      have HOW := hide hown'
      clear hown' hgrow hat hlg hown
      go_wp2_with fail
      go_loopw [10, 11] (fun u10 u11 wr => ∃ (j m g cap : Nat) (xs : List Value), 1 ≤ j ∧ j ≤ 64 ∧ m = 512 + j ∧ u11 = .int .i64 j ∧ u10 = .slice (some ⟨g, 0, none⟩) m cap ∧ wr.ownsRow w.heap.size 5 1 (.slice (some ⟨g, 0, none⟩) m cap) m xs ∧ (g = g1 ∨ W5.heap.size ≤ g) ∧ Sole g1 W5 wr) (fun _ u11 _ => 64 - (intOf u11).toNat)
      case atStart => exact ⟨1, 513, g', cap', _, by omega, by omega, rfl, rfl, rfl, HOW.out, HAT.out, HSO6.out⟩
      case round =>
        obtain ⟨j, m, g, cap, xs, hj1, hj2, hmj, rfl, rfl, hown, hgg, hso⟩ := hrel
        by_cases hlt : j < 64
        · have HMJ := hide hmj
          have hm576 : m < 600 := by omega
          have HSZ6 : Hid (w.heap.size ≤ wr.heap.size) := Nat.le_trans HSZ.out hso.size
          clear hmj
          go_wp2_with (first
            | (at_builtin; refine wpList_append_lies _ rfl _ _ 42 rfl w.heap.size 5 i0 (.int .u8 0) 1 1 Tryd.underlying42 hi hz0 hz1 hz2 rfl (by decide) _ _ _ rfl (hown.alloc _) ⟨wr.heap.size, 0, none⟩ 1 1 [.int .u8 1] rfl rfl ?c1 ?c2 ?c3 ?c4 ?c5 ?c6 (wr.heap.size + 1) ?c7 ?_))
          case c1 =>
            intro j u hj
            match j, hj with
            | 0, hj => simp at hj; subst hj; simp [Addr.add]
          case c2 => intro u hu; simp at hu; subst hu; rfl
          case c3 => decide
          case c4 => unfold maxLen; omega
          case c5 => omega
          case c6 => have := HSZ6.out; simp; omega
          case c7 => simp
          intro g3 cap3 w7 hown3 hgrow3 hat3 hlg3
          have HSO7 : Hid (Sole g1 W5 w7) := (hso.trans (Sole.of_below (below_new wr (.cells #[.int .u8 1] 5)))).grown hgrow3 (fun k hk => by cases hk; exact hgg)
          have HAT3 : Hid (g3 = g1 ∨ W5.heap.size ≤ g3) := by
            rcases hat3 with h | h
            · cases h; exact hgg
            · exact .inr (by have := hso.size; omega)
          have HOW3 := hide hown3
          clear hown3 hgrow3 hat3 hlg3 hown hgg hso
          go_wp2_with fail
          go_roundw
          case rel => exact ⟨j + 1, m + 1, g3, cap3, _, by omega, by omega, by have := HMJ.out; omega, by go_num, rfl, HOW3.out, HAT3.out, HSO7.out⟩
          case measure => simp [intOf]; omega
        · obtain rfl : j = 64 := by omega
          obtain rfl : m = 576 := by omega
          rw [show ((64 : Nat) : Int) = 64 from rfl]
          have HB6 := hide (hso.below HB5.out HG1.out.2)
          have HX6 := hide (boxed_sole HX5.out hso (by have := HG1.out.1; omega))
          have HS6 := hide (HS5.out.sole hso (by have := HG2.out.1; omega))
          have HH6 := hide (HH5.out.sole hso HH4.out.2)
          clear hown hgg hso hlt hj1 hj2 hmj HX5 HS5 HH5 HB5 HOW HAT HSO6
          go_wp2_with fail
          refine (same_rda _ _ (mpage ⟨P, R, t⟩) _ (rda_row HS6.out HPL.out 512) HH6.out (by rw [HPL.out]; decide)).mono ?_
          rintro e w7 ⟨rfl, hb7⟩
          have HB7 := hide (Below.next HB6.out hb7)
          have HX7 := hide (HX6.out.below hb7)
          have HS7 := hide (HS6.out.below hb7)
          have HH7 := hide (HH6.out.below hb7)
          have c0 := HX7.out.2 0 (by simp)
          have c1 := HX7.out.2 1 (by simp)
          have c2 := HX7.out.2 2 (by simp)
          simp only [List.getElem_cons_zero, List.getElem_cons_succ] at c0 c1 c2
          clear hb7 HB6 HX6 HS6 HH6
          go_wp2_with fail
          refine (HEN.out _ (HTB.out.below HB7.out)).mono ?_
          rintro e w8 ⟨g3, rfl, hr8, _, hb8⟩
          have HR8 := hide hr8
          have HB8 := hide (Below.next HB7.out hb8)
          have HX8 := hide (HX7.out.below hb8)
          have HS8 := hide (HS7.out.below hb8)
          have HH8 := hide (HH7.out.below hb8)
          clear hr8 hb8 HB7 HX7 HS7 HH7 c0 c1 c2
          go_wp2_with fail
          refine (same_rda _ _ (mpage ⟨P, R, t⟩) _ (rda_row HR8.out HPL.out 512) HH8.out (by rw [HPL.out]; decide)).mono ?_
          rintro e w9 ⟨rfl, hb9⟩
          have HB9 := hide (Below.next HB8.out hb9)
          have HX9 := hide (HX8.out.below hb9)
          have HS9 := hide (HS8.out.below hb9)
          have c0 := HX9.out.2 0 (by simp)
          have c1 := HX9.out.2 1 (by simp)
          have c2 := HX9.out.2 2 (by simp)
          simp only [List.getElem_cons_zero, List.getElem_cons_succ] at c0 c1 c2
          clear hb9 HB8 HX8 HS8 HH8
          go_wp2_with fail
          refine (anew_any A g2 P R t w w9 HM.out ht HS9.out HB9.out HG2.out.2 HE.out HTB.out).mono ?_
          rintro e w10 ⟨rfl, hb10⟩
          have HB10 := hide hb10
          clear hb10 c0 c1 c2
          go_wp2_with fail
          go_ret
          exact ⟨rfl, HB10.out⟩

end Go.Proofs.YtlopimdnjookeaaDoor
