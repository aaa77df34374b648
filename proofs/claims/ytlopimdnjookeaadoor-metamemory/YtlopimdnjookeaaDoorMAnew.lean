import Derived.Test.YtlopimdnjookeaaDoorMBMath
import Derived.Test.YtlopimdnjookeaaDoorNumC
import Derived.Test.YtlopimdnjookeaaDoorMtChoose
import Derived.Deep.DeepCutAuto
import Derived.Deep.CutBlock
import Derived.BigQuiet
namespace Go.Proofs.YtlopimdnjookeaaDoor
open Go.RowKit

theorem three_keep {w : World} {b b' o : Nat} {v u0 u1 u2 : Value} (hne : ¬ b' = b) (h : w.cell? ⟨b', o, none⟩ = some v) :
    (((w.setCell ⟨b, 0, none⟩ u0).setCell ⟨b, 1, none⟩ u1).setCell ⟨b, 2, none⟩ u2).cell? ⟨b', o, none⟩ = some v := by
  have hs := ((Sole.set b 0 w u0).trans (Sole.set b 1 _ u1)).trans (Sole.set b 2 _ u2)
  exact hs.cell h hne

theorem choV_own (a0 ac : Addr) (m : Mt) (hm : MayM m) (hx : m.txid < 18446744073709551616) : choV a0 ac (mpage m) (mpage m) m.pages = #[.agg m.cells.toArray, .nilIface] := by
  unfold choV
  have e0 := okM_mpage m hm hx m.pages 0
  have e1 := okM_mpage m hm hx m.pages 1
  rw [if_neg (by simpa using hm.1), parse_mpage m hm hx]
  by_cases h : m.txid % 2 = 0
  · rw [if_pos ⟨e0.2 ⟨rfl, by rw [h]; rfl⟩, .inl (fun h1 => by have := (e1.1 h1).2; omega)⟩]
  · rw [if_neg (fun h1 => by have := (e0.1 h1.1).2; omega), if_pos (e1.2 ⟨rfl, by omega⟩)]
theorem choV_none (a0 ac : Addr) (l : List UInt8) (pages : Int) (hp : PagesOk pages) (h : ∀ slot, ¬ okM l pages slot) : choV a0 ac l l pages = #[.agg #[.int .i64 0, .int .i64 0, .int .u64 0], .iface 108 (.pointer (some ac))] := by
  unfold choV
  rw [if_neg (by simpa using hp), if_neg (fun h1 => h 0 h1.1), if_neg (h 1)]

set_option exponentiation.threshold 5000 in
set_option maxRecDepth 100000 in
set_option maxHeartbeats 16000000 in
theorem anew_any (A : Nat → Addr) (gp : Nat) (P R : Int) (t : Nat) (w0 w : World) (hm : MayM ⟨P, R, t⟩) (ht : t < 18446744073709551616) (hr : RowT 5 w gp (mpage ⟨P, R, t⟩)) (hz : Below w0.heap.size w0 w) (hgp : w0.heap.size ≤ gp) (hE : ErrsAt A w0) (hT : Tab w0) :
    Calls Tryd.prog 26 #[.slice (some ⟨gp, 0, none⟩) 512 512, .agg #[.int .i64 P, .int .i64 R, .int .u64 (t : Int)]] w fun e w' => e = .returned (.bool true) ∧ Below w0.heap.size w0 w' := by
  have HZW := hide hz
  have HGP := hide hgp
  have HM := hide hm
  have HE := hide hE
  have HTB := hide hT
  have HR := hide hr
  obtain ⟨S, hS⟩ : ∃ S, (t : Int) % 2 = S := ⟨_, rfl⟩
  have hS0 : 0 ≤ S := by omega
  have hS1 : S < 2 := by omega
  have HS : Hid (S = ((t % 2 : Nat) : Int)) := by show _ = _; omega
  have HPL := hide (mpage_len ⟨P, R, t⟩)
  have HX : Hid (Boxed w.heap.size [.int .i64 P, .int .i64 R, .int .u64 (t : Int)] (w.alloc (.cells #[.int .i64 P, .int .i64 R, .int .u64 (t : Int)] 31))) := boxed_new w _ _
  have HB := hide (below_new w (.cells #[.int .i64 P, .int .i64 R, .int .u64 (t : Int)] 31))
  have c0 := HX.out.2 0 (by simp)
  have c2 := HX.out.2 2 (by simp)
  simp only [List.getElem_cons_zero, List.getElem_cons_succ] at c0 c2
  have HD1 : Hid (∀ w v, RdA w v (mpage ⟨P, R, t⟩) → EnvM (A 0) (A 1) w → Calls Tryd.prog 19 #[v, .int .i64 P, .int .i64 S] w fun e w' => e = .returned (.tuple #[.agg #[.int .i64 P, .int .i64 R, .int .u64 (t : Int)], .nilIface]) ∧ Below w.heap.size w w') := fun w v h hE => by
    have h1 := decode_any (A 0) (A 1) v _ P S w h (by rw [HPL.out]; decide) hE.tab hE.arg hE.text
    rw [HS.out, decV_own _ _ ⟨P, R, t⟩ HM.out ht] at h1
    rw [HS.out]; exact h1
  have HC1 : Hid (∀ w v, RdA w v (mpage ⟨P, R, t⟩) → ErrsAt A w → Tab w → Calls Tryd.prog 37 #[v, v, .int .i64 P] w fun e w' => e = .returned (.tuple #[.agg #[.int .i64 P, .int .i64 R, .int .u64 (t : Int)], .nilIface]) ∧ Below w.heap.size w w') := fun w v h hE hT => by
    have h1 := choose_any (A 0) (A 8) v v _ _ P w h h (by rw [HPL.out]; decide) (by rw [HPL.out]; decide) hT (hE.1 0 (by decide)).1 (hE.1 8 (by decide)).1
    rw [choV_own _ _ ⟨P, R, t⟩ HM.out ht] at h1
    exact h1
  have HEV : Hid (EnvM (A 0) (A 1) w0) := ⟨(HE.out.1 0 (by decide)).1, (HE.out.1 1 (by decide)).1, HTB.out⟩
  have mne : ∀ w, (binOp .neq 31 (.agg #[.int .i64 P, .int .i64 R, .int .u64 (t : Int)]) (.agg #[.int .i64 P, .int .i64 R, .int .u64 (t : Int)])).run Tryd.prog w = .ok (.bool false) w := fun w => mt_neq w _ _ true (mt_self w _ _ _)
  have meq := mt_self
  clear hm hE hT hr hz hgp
  go_enter Tryd.func26, Tryd.ntmps26
  go_wp2_with fail
  generalize w.alloc (.cells #[.int .i64 P, .int .i64 R, .int .u64 (t : Int)] 31) = W0 at *
  refine (HD1.out _ _ (rda_row (HR.out.below HB.out) HPL.out 512) (HEV.out.below (Below.next HZW.out HB.out))).mono ?_
  rintro e w1 ⟨rfl, hb1⟩
  have hbn := Below.next hb1 (below_new w1 (.cells #[.int .i64 P, .int .i64 R, .int .u64 (t : Int)] 31))
  have HY1 := hide (boxed_new w1 #[.int .i64 P, .int .i64 R, .int .u64 (t : Int)] 31)
  have HX1 := hide (HX.out.below hbn)
  have HB1 := hide (Below.next HB.out hbn)
  have d0 := HX1.out.2 0 (by simp)
  simp only [List.getElem_cons_zero] at d0
  clear c0 c2 hb1 hbn HX HB
  go_wp2_with fail
  generalize w1.alloc (.cells #[.int .i64 P, .int .i64 R, .int .u64 (t : Int)] 31) = W1 at *
  generalize w1.heap.size = ab at *
  refine (HC1.out _ _ (rda_row (HR.out.below HB1.out) HPL.out 512) (HE.out.below (Below.next HZW.out HB1.out)) (HTB.out.below (Below.next HZW.out HB1.out))).mono ?_
  rintro e w2 ⟨rfl, hb2⟩
  have hbn := Below.next hb2 (below_new w2 (.cells #[.int .i64 P, .int .i64 R, .int .u64 (t : Int)] 31))
  have hZ2 := boxed_new w2 #[.int .i64 P, .int .i64 R, .int .u64 (t : Int)] 31
  have hY2 := HY1.out.below hbn
  have hX2 := HX1.out.below hbn
  have HX2 := hide hX2
  have HB2 := hide (Below.next HB1.out hbn)
  have x0 := hX2.2 0 (by simp)
  have x1 := hX2.2 1 (by simp)
  have x2 := hX2.2 2 (by simp)
  have y0 := hY2.2 0 (by simp)
  have y1 := hY2.2 1 (by simp)
  have y2 := hY2.2 2 (by simp)
  have z0 := hZ2.2 0 (by simp)
  have z1 := hZ2.2 1 (by simp)
  have z2 := hZ2.2 2 (by simp)
  simp only [List.getElem_cons_zero, List.getElem_cons_succ] at x0 x1 x2 y0 y1 y2 z0 z1 z2
  have HR2 := hide (HR.out.below HB2.out)
  clear d0 hb2 hbn hZ2 hY2 hX2 HX1 HB1 HY1
  have hl511 : 511 < (mpage ⟨P, R, t⟩).length := by rw [HPL.out]; decide
  obtain ⟨q, hq⟩ : ∃ q, q = (mpage ⟨P, R, t⟩).set 511 ((mpage ⟨P, R, t⟩)[511] ^^^ 1) := ⟨_, rfl⟩
  have hql : q.length = 512 := by rw [hq, List.length_set]; exact HPL.out
  have HNO : Hid (∀ slot, ¬ okM q P slot) := fun slot => burst_meta ⟨P, R, t⟩ q (8 * 511) 1 P slot hql (by rw [hq, leNat_setx _ 511 hl511]; rfl) (by decide) (by decide) (.inr ⟨by decide, by decide⟩)
  have hcell := HR2.out.cell 511 hl511
  have hfr := HR2.out.frozen 511
  have e1 := xor_u8c (mpage ⟨P, R, t⟩)[511] 1
  have HR3 := hide (HR2.out.set 511 ((mpage ⟨P, R, t⟩)[511] ^^^ 1))
  rw [← hq] at HR3
  obtain ⟨d, hd⟩ : ∃ d : UInt8, d = (mpage ⟨P, R, t⟩)[511] ^^^ 1 := ⟨_, rfl⟩
  rw [← hd] at e1 HR3
  obtain ⟨c1, hc1⟩ : ∃ c1 : Nat, c1 = (mpage ⟨P, R, t⟩)[511].toNat := ⟨_, rfl⟩
  rw [← hc1] at e1 hcell
  have e2 : bits BinOp.xor IntKind.u8 (c1 : Int) 1 = (d.toNat : Int) := e1
  have HGW : Hid (gp < w.heap.size) := HR.out.lt
  have HQL := hide hql
  have HDQ : Hid (∀ w v, RdA w v q → EnvM (A 0) (A 1) w → Calls Tryd.prog 19 #[v, .int .i64 P, .int .i64 S] w fun e w' => e = .returned (.tuple #[.agg #[.int .i64 0, .int .i64 0, .int .u64 0], .iface 108 (.pointer (some (A 1)))]) ∧ Below w.heap.size w w') := fun w v h hE => by
    have h1 := decode_any (A 0) (A 1) v _ P S w h (by rw [HQL.out]; decide) hE.tab hE.arg hE.text
    rw [decV_no _ _ q P S HM.out.1 ⟨hS0, hS1⟩ (HNO.out S)] at h1
    exact h1
  have HCQ : Hid (∀ w v v', RdA w v q → RdA w v' q → ErrsAt A w → Tab w → Calls Tryd.prog 37 #[v, v', .int .i64 P] w fun e w' => e = .returned (.tuple #[.agg #[.int .i64 0, .int .i64 0, .int .u64 0], .iface 108 (.pointer (some (A 8)))]) ∧ Below w.heap.size w w') := fun w v v' h h' hE hT => by
    have h1 := choose_any (A 0) (A 8) v v' _ _ P w h h' (by rw [HQL.out]; decide) (by rw [HQL.out]; decide) hT (hE.1 0 (by decide)).1 (hE.1 8 (by decide)).1
    rw [choV_none _ _ q P HM.out.1 HNO.out] at h1
    exact h1
  have HCP : Hid (∀ w v, Rd w v q → Calls Tryd.prog 25 #[v] w fun e w' => ∃ v, e = .returned v ∧ RdA w' v q ∧ Below w.heap.size w w') := fun w v h => by
    refine (copy_rd v q w (by rw [HQL.out]; decide) h).mono ?_
    rintro e w' ⟨v, rfl, ho, hb⟩
    exact ⟨v, rfl, (rd_of_owns ho).any, hb⟩
  clear hq hql hd hc1 e1 hl511
  go_upto_region 7 with fail
  have HS3 := hide (Sole.set gp 511 (w2.alloc (.cells #[.int .i64 P, .int .i64 R, .int .u64 (t : Int)] 31)) (.int .u8 (d.toNat : Int)))
  have HB3 := hide (HS3.out.below (Below.next HZW.out HB2.out) HGP.out)
  have HX3 := hide (boxed_sole HX2.out HS3.out (by have := HGW.out; omega))
  clear hcell hfr e2 x0 x1 x2 y0 y1 y2 z0 z1 z2 HS3 HX2 HR2 HB2 mne
  have x0 := HX3.out.2 0 (by simp)
  simp only [List.getElem_cons_zero] at x0
  generalize (w2.alloc (.cells #[.int .i64 P, .int .i64 R, .int .u64 (t : Int)] 31)).setCell ⟨gp, 511, none⟩ (.int .u8 (d.toNat : Int)) = W3 at *
  go_wp2_with fail
  refine (HDQ.out _ _ (rda_row HR3.out HQL.out 512) (HEV.out.below HB3.out)).mono ?_
  rintro e w4 ⟨rfl, hb4⟩
  have hbn := Below.next hb4 (below_new w4 (.cells #[.int .i64 0, .int .i64 0, .int .u64 0] 31))
  have HC4 := hide (boxed_new w4 #[.int .i64 0, .int .i64 0, .int .u64 0] 31)
  have HX4 := hide (HX3.out.below hbn)
  have HR4 := hide (HR3.out.below hbn)
  have HB4 := hide (Below.next HB3.out hbn)
  clear hb4 hbn x0 HX3 HR3 HB3
  have x0 := HX4.out.2 0 (by simp)
  simp only [List.getElem_cons_zero] at x0
  go_upto_region 8 with fail
  generalize w4.alloc (.cells #[.int .i64 0, .int .i64 0, .int .u64 0] 31) = W4 at *
  generalize w4.heap.size = cb at *
  have hxw : w.heap.size < W4.heap.size := HX4.out.1
  have nW : ¬ w.heap.size = W4.heap.size := by omega
  have HRQ : Hid (∀ W, Below W4.heap.size W4 W → Rd W (.slice (some ⟨gp, 0, none⟩) 512 512) q) := fun W hb => (HR4.out.below hb).rd HQL.out (by decide)
  go_cut [12, 13] (fun u12 u13 wx => ∃ nb : Nat, u12 = .pointer (some ⟨nb, 0, none⟩) ∧ u13 = .iface 108 (.pointer (some (A 1))) ∧ wx.heap[nb]? = some (.cells #[.int .i64 0, .int .i64 0, .int .u64 0] 31 (0, 0)) ∧ W4.heap.size ≤ nb ∧ Below W4.heap.size W4 wx)
  case first =>
    go_region_held3 (fun w' => w'.cell? ⟨w.heap.size, 0, none⟩ = some (.int .i64 P)) (go_keep)
      (first
        | (go_at_call 25; refine (HCP.out _ _ ?_).mono ?_; (exact HRQ.out _ ((below_new W4 _).drew)); rintro e w7 ⟨v7, rfl, hr7, hb7d⟩; have hz7 := (hb7d.block W4.heap.size (by simp)).trans (drew_heap (heap_alloc_new W4 (.cells #[.int .i64 0, .int .i64 0, .int .u64 0] 31))); have hb7 : Below W4.heap.size W4 w7 := Below.next ((below_new W4 _).drew) hb7d; have HB7 := hide hb7; have HZ7 := hide hz7; have HR7 := hide hr7; have q0 : w7.cell? ⟨w.heap.size, 0, none⟩ = some (.int .i64 P) := (hb7.cell hxw).trans x0; clear hb7 hb7d hz7 hr7)
        | (go_at_call 25; refine (HCP.out _ _ ?_).mono ?_; (exact HRQ.out _ ((Below.refl _ _).drew)); rintro e w7 ⟨v7, rfl, hr7, hb7d⟩; have hb7 : Below W4.heap.size W4 w7 := ⟨hb7d.os, hb7d.tape, hb7d.output, hb7d.size, hb7d.block⟩; have HB7 := hide hb7; have HR7 := hide hr7; have q0 : w7.cell? ⟨w.heap.size, 0, none⟩ = some (.int .i64 P) := (hb7.cell hxw).trans x0; have hsz7 := hb7.size; have m1 : ¬ w.heap.size = w7.heap.size := (by omega); clear hb7 hb7d hr7 hsz7)
        | (go_at_call 19; refine (HDQ.out _ _ HR7.out (HEV.out.below (Below.next HB4.out HB7.out))).mono ?_; rintro e w8 ⟨rfl, hb8⟩; have hz8 := (hb8.block W4.heap.size (Array.getElem?_eq_some_iff.1 HZ7.out).1).trans HZ7.out; have HZ8 := hide hz8; have HB8 := hide (Below.next HB7.out hb8); have r0 : w8.cell? ⟨w.heap.size, 0, none⟩ = some (.int .i64 P) := ((Below.next HB7.out hb8).cell hxw).trans x0; obtain ⟨z0, z1, z2, f0', f1, f2⟩ := zero_cells hz8; have k0' := three_keep (u0 := .int .i64 0) (u1 := .int .i64 0) (u2 := .int .u64 0) nW r0; clear hb8 hz8)
        | (go_at_call 19; refine (HDQ.out _ _ (HR7.out.below (below_new w7 _)) (HEV.out.below (Below.next HB4.out (Below.next HB7.out (below_new w7 _))))).mono ?_; rintro e w8 ⟨rfl, hb8⟩; have hz8 := (hb8.block w7.heap.size (by simp)).trans (heap_alloc_new w7 (.cells #[.int .i64 0, .int .i64 0, .int .u64 0] 31)); have HZ8 := hide hz8; have hb9 := Below.next HB7.out (Below.next (below_new w7 (.cells #[.int .i64 0, .int .i64 0, .int .u64 0] 31)) hb8); have HB8 := hide hb9; have r0 : w8.cell? ⟨w.heap.size, 0, none⟩ = some (.int .i64 P) := (hb9.cell hxw).trans x0; obtain ⟨z0, z1, z2, f0', f1, f2⟩ := zero_cells hz8; have k0' := three_keep (u0 := .int .i64 0) (u1 := .int .i64 0) (u2 := .int .u64 0) m1 r0; clear hb8 hz8 hb9)
        | (go_at_call 19; refine (HDQ.out _ _ HR7.out (HEV.out.below (Below.next HB4.out HB7.out))).mono ?_; rintro e w8 ⟨rfl, hb8⟩; have hb9 := Below.next HB7.out hb8; have HB8 := hide hb9; have r0 : w8.cell? ⟨w.heap.size, 0, none⟩ = some (.int .i64 P) := (hb9.cell hxw).trans x0; have hsz8 := hb9.size; have m8 : ¬ w.heap.size = w8.heap.size := (by omega); clear hb8 hb9 hsz8))
    · go_wp2_with fail
      go_meet
      case rel => exact ⟨w8.heap.size, rfl, rfl, heap_alloc_new w8 _, HB8.out.size, Below.next HB8.out (below_new w8 _)⟩
    · go_wp2_with fail
      go_meet
      case rel => exact ⟨w7.heap.size, rfl, rfl, set_three HZ8.out, HB7.out.size, below_three HB8.out HB7.out.size⟩
    · go_wp2_with fail
      go_meet
      case rel => exact ⟨W4.heap.size, rfl, rfl, set_three HZ8.out, Nat.le_refl _, below_three HB8.out (Nat.le_refl _)⟩
  case rest =>
    obtain ⟨nb, rfl, rfl, hrow, hnb, hbc⟩ := hcut
    have HROW := hide hrow
    have HX5 := hide (HX4.out.below hbc)
    have HC5 := hide (HC4.out.below hbc)
    have HR5 := hide (HR4.out.below hbc)
    have HB5 := hide (Below.next HB4.out hbc)
    clear x0 hrow hnb hbc HX4 HC4 HR4 HB4 HRQ hxw nW
    have x0 := HX5.out.2 0 (by simp)
    simp only [List.getElem_cons_zero] at x0
    go_wp2_with fail
    refine (HCQ.out _ _ _ (rda_row HR5.out HQL.out 512) (rda_row HR5.out HQL.out 512) (HE.out.below HB5.out) (HTB.out.below HB5.out)).mono ?_
    rintro e w6 ⟨rfl, hb6⟩
    have hbn := Below.next hb6 (below_new w6 (.cells #[.int .i64 0, .int .i64 0, .int .u64 0] 31))
    have HU6 := hide (boxed_new w6 #[.int .i64 0, .int .i64 0, .int .u64 0] 31)
    have HX6 := hide (HX5.out.below hbn)
    have HC6 := hide (HC5.out.below hbn)
    have HR6 := hide (HR5.out.below hbn)
    have HROW6 := hide ((hbn.block _ (Array.getElem?_eq_some_iff.1 HROW.out).1).trans HROW.out)
    have HB6 := hide (Below.next HB5.out hbn)
    clear hb6 hbn x0 HX5 HC5 HR5 HB5 HROW
    have s0 := HX6.out.2 0 (by simp)
    simp only [List.getElem_cons_zero] at s0
    go_upto_region 10 with fail
    generalize w6.alloc (.cells #[.int .i64 0, .int .i64 0, .int .u64 0] 31) = W6 at *
    generalize w6.heap.size = ub at *
    have hxw6 : w.heap.size < W6.heap.size := HX6.out.1
    have nW6 : ¬ w.heap.size = W6.heap.size := by omega
    have HRQ6 : Hid (∀ W, Below W6.heap.size W6 W → Rd W (.slice (some ⟨gp, 0, none⟩) 512 512) q) := fun W hb => (HR6.out.below hb).rd HQL.out (by decide)
    go_cut [16, 17] (fun u16 u17 wx => ∃ nb : Nat, u16 = .pointer (some ⟨nb, 0, none⟩) ∧ u17 = .iface 108 (.pointer (some (A 8))) ∧ wx.heap[nb]? = some (.cells #[.int .i64 0, .int .i64 0, .int .u64 0] 31 (0, 0)) ∧ Below W6.heap.size W6 wx)
    case first =>
      go_region_held3 (fun w' => w'.cell? ⟨w.heap.size, 0, none⟩ = some (.int .i64 P)) (go_keep)
        (first
        | (go_at_call 25; refine (HCP.out _ _ ?_).mono ?_; (exact HRQ6.out _ ((below_new W6 _).drew)); rintro e w7 ⟨v7, rfl, hr7, hb7d⟩; have hz7 := (hb7d.block W6.heap.size (by simp)).trans (drew_heap (heap_alloc_new W6 (.cells #[.int .i64 0, .int .i64 0, .int .u64 0] 31))); have hb7 : Below W6.heap.size W6 w7 := Below.next ((below_new W6 _).drew) hb7d; have HB7 := hide hb7; have HZ7 := hide hz7; have HR7 := hide hr7; have q0 : w7.cell? ⟨w.heap.size, 0, none⟩ = some (.int .i64 P) := (hb7.cell hxw6).trans s0; clear hb7 hb7d hz7 hr7)
        | (go_at_call 25; refine (HCP.out _ _ ?_).mono ?_; (exact HRQ6.out _ ((Below.refl _ _).drew)); rintro e w7 ⟨v7, rfl, hr7, hb7d⟩; have hb7 : Below W6.heap.size W6 w7 := ⟨hb7d.os, hb7d.tape, hb7d.output, hb7d.size, hb7d.block⟩; have HB7 := hide hb7; have HR7 := hide hr7; have q0 : w7.cell? ⟨w.heap.size, 0, none⟩ = some (.int .i64 P) := (hb7.cell hxw6).trans s0; have hsz7 := hb7.size; have m1 : ¬ w.heap.size = w7.heap.size := (by omega); clear hb7 hb7d hr7 hsz7)
        | (go_at_call 25; refine (HCP.out _ _ (HRQ6.out _ HB7.out)).mono ?_; rintro e w8 ⟨v8, rfl, hr8, hb8⟩; have hz8 := (hb8.block W6.heap.size (Array.getElem?_eq_some_iff.1 HZ7.out).1).trans HZ7.out; have HZ8 := hide hz8; have HR8 := hide hr8; have HR78 := hide (HR7.out.below hb8); have HB8 := hide (Below.next HB7.out hb8); have nZ8 := nW6; have r0 : w8.cell? ⟨w.heap.size, 0, none⟩ = some (.int .i64 P) := ((Below.next HB7.out hb8).cell hxw6).trans s0; clear hb8 hz8 hr8)
        | (go_at_call 25; refine (HCP.out _ _ (HRQ6.out _ (Below.next HB7.out (below_new w7 _)))).mono ?_; rintro e w8 ⟨v8, rfl, hr8, hb8⟩; have hz8 := (hb8.block w7.heap.size (by simp)).trans (heap_alloc_new w7 (.cells #[.int .i64 0, .int .i64 0, .int .u64 0] 31)); have hb9 := Below.next (below_new w7 (.cells #[.int .i64 0, .int .i64 0, .int .u64 0] 31)) hb8; have HZ8 := hide hz8; have HR8 := hide hr8; have HR78 := hide (HR7.out.below hb9); have HB8 := hide (Below.next HB7.out hb9); have nZ8 := m1; have r0 : w8.cell? ⟨w.heap.size, 0, none⟩ = some (.int .i64 P) := ((Below.next HB7.out hb9).cell hxw6).trans s0; clear hb8 hz8 hr8 hb9)
        | (go_at_call 25; refine (HCP.out _ _ (HRQ6.out _ HB7.out)).mono ?_; rintro e w8 ⟨v8, rfl, hr8, hb8⟩; have HR8 := hide hr8; have HR78 := hide (HR7.out.below hb8); have hb9 := Below.next HB7.out hb8; have HB8 := hide hb9; have r0 : w8.cell? ⟨w.heap.size, 0, none⟩ = some (.int .i64 P) := (hb9.cell hxw6).trans s0; have hsz8 := hb9.size; have m8 : ¬ w.heap.size = w8.heap.size := (by omega); clear hb8 hr8 hb9 hsz8)
        | (go_at_call 37; refine (HCQ.out _ _ _ HR78.out HR8.out (HE.out.below (Below.next HB6.out HB8.out)) (HTB.out.below (Below.next HB6.out HB8.out))).mono ?_; rintro e w9 ⟨rfl, hb9⟩; have hz9 := (hb9.block _ (Array.getElem?_eq_some_iff.1 HZ8.out).1).trans HZ8.out; have HZ9 := hide hz9; have hb10 := Below.next HB8.out hb9; have HB9 := hide hb10; have t0 : w9.cell? ⟨w.heap.size, 0, none⟩ = some (.int .i64 P) := (hb10.cell hxw6).trans s0; obtain ⟨z0, z1, z2, f0', f1, f2⟩ := zero_cells hz9; have k0' := three_keep (u0 := .int .i64 0) (u1 := .int .i64 0) (u2 := .int .u64 0) nZ8 t0; clear hb9 hz9 hb10)
        | (go_at_call 37; refine (HCQ.out _ _ _ (HR78.out.below (below_new w8 _)) (HR8.out.below (below_new w8 _)) (HE.out.below (Below.next HB6.out (Below.next HB8.out (below_new w8 _)))) (HTB.out.below (Below.next HB6.out (Below.next HB8.out (below_new w8 _))))).mono ?_; rintro e w9 ⟨rfl, hb9⟩; have hz9 := (hb9.block w8.heap.size (by simp)).trans (heap_alloc_new w8 (.cells #[.int .i64 0, .int .i64 0, .int .u64 0] 31)); have HZ9 := hide hz9; have hb10 := Below.next HB8.out (Below.next (below_new w8 (.cells #[.int .i64 0, .int .i64 0, .int .u64 0] 31)) hb9); have HB9 := hide hb10; have t0 : w9.cell? ⟨w.heap.size, 0, none⟩ = some (.int .i64 P) := (hb10.cell hxw6).trans s0; obtain ⟨z0, z1, z2, f0', f1, f2⟩ := zero_cells hz9; have k0' := three_keep (u0 := .int .i64 0) (u1 := .int .i64 0) (u2 := .int .u64 0) m8 t0; clear hb9 hz9 hb10)
        | (go_at_call 37; refine (HCQ.out _ _ _ HR78.out HR8.out (HE.out.below (Below.next HB6.out HB8.out)) (HTB.out.below (Below.next HB6.out HB8.out))).mono ?_; rintro e w9 ⟨rfl, hb9⟩; have hb10 := Below.next HB8.out hb9; have HB9 := hide hb10; have t0 : w9.cell? ⟨w.heap.size, 0, none⟩ = some (.int .i64 P) := (hb10.cell hxw6).trans s0; have hsz9 := hb10.size; have m9 : ¬ w.heap.size = w9.heap.size := (by omega); clear hb9 hb10 hsz9))
      · go_wp2_with fail
        go_meet
        case rel => exact ⟨w9.heap.size, rfl, rfl, heap_alloc_new w9 _, Below.next HB9.out (below_new w9 _)⟩
      · go_wp2_with fail
        go_meet
        case rel => exact ⟨w8.heap.size, rfl, rfl, set_three HZ9.out, below_three HB9.out HB8.out.size⟩
      · go_wp2_with fail
        go_meet
        case rel => exact ⟨w7.heap.size, rfl, rfl, set_three HZ9.out, below_three HB9.out HB7.out.size⟩
      · go_wp2_with fail
        go_meet
        case rel => exact ⟨W6.heap.size, rfl, rfl, set_three HZ9.out, below_three HB9.out (Nat.le_refl _)⟩
    case rest =>
      obtain ⟨nb2, rfl, rfl, hrow, hbc⟩ := hcut
      have hC := HC6.out.below hbc
      have hU := HU6.out.below hbc
      have hD := (hbc.block _ (Array.getElem?_eq_some_iff.1 HROW6.out).1).trans HROW6.out
      have HB7 := hide (Below.next HB6.out hbc)
      have a0 := hC.2 0 (by simp)
      have a1 := hC.2 1 (by simp)
      have a2 := hC.2 2 (by simp)
      have b0 := hU.2 0 (by simp)
      have b1 := hU.2 1 (by simp)
      have b2 := hU.2 2 (by simp)
      simp only [List.getElem_cons_zero, List.getElem_cons_succ] at a0 a1 a2 b0 b1 b2
      obtain ⟨p0, p1, p2, _, _, _⟩ := zero_cells hD
      obtain ⟨q0, q1, q2, _, _, _⟩ := zero_cells hrow
      have HNT : Hid (∀ w, ErrsAt A w → Calls Tryd.prog 21 #[.iface 108 (.pointer (some (A 1)))] w fun e w' => e = .returned (.int .i64 2) ∧ w = w') := fun w h => num_text A w h
      have HNC : Hid (∀ w, ErrsAt A w → Calls Tryd.prog 21 #[.iface 108 (.pointer (some (A 8)))] w fun e w' => e = .returned (.int .i64 9) ∧ w = w') := fun w h => num_corrupt A w h
      clear s0 hrow hbc hC hU hD
      go_wp2_with fail
      refine (HNT.out _ (HE.out.below HB7.out)).mono ?_
      rintro e w' ⟨rfl, rfl⟩
      go_wp2_with fail
      refine (HNT.out _ (HE.out.below HB7.out)).mono ?_
      rintro e w' ⟨rfl, rfl⟩
      go_wp2_with fail
      refine (HNC.out _ (HE.out.below HB7.out)).mono ?_
      rintro e w' ⟨rfl, rfl⟩
      go_wp2_with fail
      refine (HNC.out _ (HE.out.below HB7.out)).mono ?_
      rintro e w' ⟨rfl, rfl⟩
      go_wp2_with fail
      go_ret
      exact ⟨rfl, HB7.out⟩

end Go.Proofs.YtlopimdnjookeaaDoor
