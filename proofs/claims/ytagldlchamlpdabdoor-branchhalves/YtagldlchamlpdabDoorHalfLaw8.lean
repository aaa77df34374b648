import Derived.Test.YtagldlchamlpdabDoorBHalfM
import Derived.Test.YtagldlchamlpdabDoorBSzOf
import Derived.Test.YtagldlchamlpdabDoorBCheck
import Derived.Test.YtagldlchamlpdabDoorBSame
import Derived.Test.YtagldlchamlpdabDoorLErrB
import Derived.Test.YtagldlchamlpdabDoorBMade2
import Derived.Test.YtagldlchamlpdabDoorBJoin
namespace Go.Proofs.YtagldlchamlpdabDoor
open Go.RowKit

theorem szB_linksTo_ge (T : List ByteArray) : ∀ k, 6 + 10 * k ≤ szB (linksTo T k)
  | 0 => by simp [linksTo, szB]
  | k + 1 => by have := szB_linksTo_ge T k; have := szB_linksTo T k; have := (keyAt_size T k).1; omega
theorem made_big {T : List ByteArray} {k : Nat} (hk : k ≤ 1000) (h1 : szB (linksTo T k) ≤ 4335) (h : k = 1000 ∨ (4335 : Int) < (szB (linksTo T (k + 1)) : Int)) : 4072 < szB (linksTo T k) := by
  have a := szB_linksTo_ge T k
  have b := szB_linksTo T k
  have c := (keyAt_size T k).2
  omega

theorem RowAt.c4 {w : World} {b : Nat} {x0 x1 x2 x3 : Value} {t : TypeId} (h : RowAt w b #[x0, x1, x2, x3] t) : w.cell? ⟨b, 0, none⟩ = some x0 ∧ w.cell? ⟨b, 1, none⟩ = some x1 ∧ w.cell? ⟨b, 2, none⟩ = some x2 ∧ w.cell? ⟨b, 3, none⟩ = some x3 :=
  ⟨h.cell 0 (by simp), h.cell 1 (by simp), h.cell 2 (by simp), h.cell 3 (by simp)⟩
theorem StrR.form {w : World} {v : Value} {T : List ByteArray} (h : StrR w v T) : ∃ a c, v = .slice a T.length c := by
  obtain ⟨a, c, rfl, _⟩ := h; exact ⟨a, c, rfl⟩
theorem geK (a b : ByteArray) : (!Op.bytesLess a.toList b.toList) = leK b a := by
  unfold leK
  cases h : Op.bytesLess a.toList b.toList with
  | true =>
    cases h2 : Op.bytesLess b.toList a.toList with
    | true => have := bless_trans _ _ _ h h2; rw [bless_irrefl] at this; cases this
    | false =>
      by_cases he : b.toList = a.toList
      · rw [he, bless_irrefl] at h; cases h
      · simp [he]
  | false =>
    cases h2 : Op.bytesLess b.toList a.toList with
    | true => rfl
    | false => simp [bless_total _ _ h2 h]
theorem OkK.take {l : List Lk} (h : OkK l) (i : Nat) : OkK (l.take i) := fun p hp => h p (List.mem_of_mem_take hp)
theorem OkK.drop {l : List Lk} (h : OkK l) (i : Nat) : OkK (l.drop i) := fun p hp => h p (List.mem_of_mem_drop hp)
theorem joinL_cut (l : List Lk) (i : Nat) (hi : i < l.length) : joinL (l.take i) l[i].1 l[i].2 (l.drop (i + 1)) = l := by
  unfold joinL
  conv => rhs; rw [← List.take_append_drop i l, List.drop_eq_getElem_cons hi]
theorem childV_pick {A : Nat → Addr} {f : Int} {l : List Lk} {key : ByteArray} {p : Nat} (h : PickAt l key p) : ChildV A f l (p : Int) = .tuple #[.int .i64 (childN f l (p : Int)), .nilIface] := by
  unfold ChildV
  rw [if_pos]
  have := h.1
  simp only [hasC, Bool.and_eq_true, decide_eq_true_eq]
  omega

set_option maxRecDepth 20000 in
set_option maxHeartbeats 40000000 in
theorem halves_any (A : Nat → Addr) (v : Value) (T : List ByteArray) (li ki : Int) (key : ByteArray) (w : World) (hT : T.length ≤ 8796093022207) (hr : StrR w v T) (hli : -9223372036854775808 ≤ li ∧ li ≤ 9223372036854775807) (hE : ErrsG 13 gAll A w) :
    Calls Tryd.prog 5 #[.agg #[v, .int .i64 li, .string key, .int .i64 ki]] w fun e w' => e = .returned (.bool true) ∧ Below w.heap.size w w' := by
  obtain ⟨a, cap, hv⟩ := hr.form
  subst hv
  obtain ⟨nT, hnT⟩ : ∃ n, n = T.length := ⟨_, rfl⟩
  rw [← hnT] at hr ⊢
  have q0 := below_new w (.cells #[.slice a nT cap, .int .i64 li, .string key, .int .i64 ki] 27)
  have x0 := RowAt.new w #[.slice a nT cap, .int .i64 li, .string key, .int .i64 ki] 27
  generalize hW0 : w.alloc (.cells #[.slice a nT cap, .int .i64 li, .string key, .int .i64 ki] 27) = W0 at *
  have HX := hide x0
  have HQ := hide q0
  have HE := hide (hE.keep q0)
  have HR := hide (hr.below q0)
  obtain ⟨p0, p1, _, _⟩ := x0.c4
  have q5 := below_new W0 (.cells #[.int .i64 0, .slice none 0 0] 30)
  have x5 := RowAt.new W0 #[.int .i64 0, .slice none 0 0] 30
  have s5 : (W0.alloc (.cells #[.int .i64 0, .slice none 0 0] 30)).heap.size = W0.heap.size + 1 := by simp
  generalize hW5 : W0.alloc (.cells #[.int .i64 0, .slice none 0 0] 30) = W5 at *
  have HX5 := hide x5
  have HQ5 := hide q5
  obtain ⟨z0, z1, _, _⟩ := (x0.below q5).c4
  have HS5 : Hid (W5.heap.size = W0.heap.size + 1 ∧ w.heap.size < W0.heap.size) := ⟨s5, x0.lt⟩
  have b1 : ¬ w.heap.size = W0.heap.size := by have := HS5.out; omega
  have b2 : ¬ W0.heap.size = w.heap.size := by have := HS5.out; omega
  have HPK : Hid (∀ W, Calls Tryd.prog 15 #[.int .i64 li, .int .i64 3812] W fun e w' => ∃ k : Nat, k < 3812 ∧ e = .returned (.int .i64 (k : Int)) ∧ W = w') := fun W => kpick_any li 3812 W (by decide) (by decide) hli
  have HMD : Hid (∀ (m : Int) W, 4073 ≤ m ∧ m ≤ 7884 → Below W0.heap.size W0 W → Calls Tryd.prog 14 #[.slice a nT cap, .int .i64 1000, .int .i64 m] W fun e w' => ∃ (k : Nat) (ua : Option Addr) (uc : Nat), e = .returned (.agg #[.int .i64 2, .slice ua k uc]) ∧ LkO w' W.heap.size (.slice ua k uc) (linksTo T k) ∧ (k ≤ 1000 ∧ szB (linksTo T k) ≤ 7884 ∧ (m = 4335 → 4072 < szB (linksTo T k))) ∧ Below W.heap.size W w') := fun m W hm h => by
    refine (made_any _ T 1000 m W (by omega) (by omega) ⟨by omega, by omega⟩ (HR.out.below h)).mono ?_
    rintro e w' ⟨k, u, rfl, ho, hk1, hk2, hk3, hb⟩
    obtain ⟨ua, uc, hu⟩ := ho.form
    rw [linksTo_len] at hu
    subst hu
    exact ⟨k, ua, uc, rfl, ho, ⟨hk1, by omega, fun hm => by subst hm; exact made_big hk1 (by omega) hk3⟩, hb⟩
  have HNT := hide hnT
  clear hr hE q0 x0 q5 x5 s5 hT hli hnT
  go_enter Tryd.func5, Tryd.ntmps5
  go_wp2_with fail
  go_region_held3 (fun w' => w'.cell? ⟨w.heap.size, 0, none⟩ = some (.slice a nT cap) ∧ w'.cell? ⟨w.heap.size, 1, none⟩ = some (.int .i64 li)) (go_keep)
    (first
      | (go_at_call 15; refine (HPK.out _).mono ?_; rintro e wp ⟨kp, hkp, rfl, rfl⟩; obtain ⟨kq, hkq⟩ : ∃ kq : Int, kq = 4073 + (kp : Int) := ⟨_, rfl⟩; have hwk : IntKind.i64.wrap (4073 + (kp : Int)) = kq := (by rw [IntKind.wrap_i64]; omega); have HKQ : Hid (4073 ≤ kq ∧ kq ≤ 7884) := (by show _ ∧ _; omega); clear hkp hkq)
      | (go_at_call 14; refine (HMD.out kq _ HKQ.out ?_).mono ?_; (first | exact (Below.refl _ _).drew | exact HQ5.out.drew); rintro e w5 ⟨k, ua, uc, rfl, ho, hkk, hb⟩; have HO5 := hide ho; have HB5 := hide hb; have HKK := hide hkk; have m0 : w5.cell? ⟨w.heap.size, 0, none⟩ = some (.slice a nT cap) := (by first | exact ((HX.out.below HQ5.out).drew.below hb).c4.1 | exact (HX.out.drew.below hb).c4.1); have m1 : w5.cell? ⟨w.heap.size, 1, none⟩ = some (.int .i64 li) := (by first | exact ((HX.out.below HQ5.out).drew.below hb).c4.2.1 | exact (HX.out.drew.below hb).c4.2.1); try (have m2 := (HX5.out.drew.below hb).c0; have m3 := (HX5.out.drew.below hb).c1; have m4 := (HX5.out.drew.below hb).free 0; have m5 := (HX5.out.drew.below hb).free 1); have m6 := World.new_ne w5 _ m0; clear ho hb hkk))
  all_goals first
    | (have hx := RowAt.new w5 #[.int .i64 2, .slice ua k uc] 30
       have hq := below_new w5 (.cells #[.int .i64 2, .slice ua k uc] 30)
       have hb7 : Below W0.heap.size W0 (w5.alloc (.cells #[.int .i64 2, .slice ua k uc] 30)) := Below.next (undrewB HB5.out) hq
       have ho7 : LkO (w5.alloc (.cells #[.int .i64 2, .slice ua k uc] 30)) W0.heap.size (.slice ua k uc) (linksTo T k) := HO5.out.below hq
       generalize w5.alloc (.cells #[.int .i64 2, .slice ua k uc] 30) = W7 at *
       obtain ⟨B3, hB9⟩ : ∃ B, B = w5.heap.size := ⟨_, rfl⟩
       rw [← hB9] at hx ⊢
       have HBB : Hid (W0.heap.size ≤ B3 ∧ w.heap.size < W0.heap.size) := ⟨by rw [hB9]; exact (undrewB HB5.out).size, HS5.out.2⟩
       clear hq)
    | (have hx := ((HX5.out.drew.below HB5.out).two (.int .i64 2) (.slice ua k uc))
       have hb7 : Below W0.heap.size W0 ((w5.setCell ⟨W0.heap.size, 0, none⟩ (.int .i64 2)).setCell ⟨W0.heap.size, 1, none⟩ (.slice ua k uc)) := below_two (Below.next HQ5.out (undrewB HB5.out)) (Nat.le_refl _)
       have ho7 : LkO ((w5.setCell ⟨W0.heap.size, 0, none⟩ (.int .i64 2)).setCell ⟨W0.heap.size, 1, none⟩ (.slice ua k uc)) W0.heap.size (.slice ua k uc) (linksTo T k) := (HO5.out.put2 (g := W0.heap.size) (by have := HS5.out; show W0.heap.size < W5.heap.size; omega) (.int .i64 2) (.slice ua k uc)).mono (by have := HS5.out; show W0.heap.size ≤ W5.heap.size; omega)
       generalize (w5.setCell ⟨W0.heap.size, 0, none⟩ (.int .i64 2)).setCell ⟨W0.heap.size, 1, none⟩ (.slice ua k uc) = W7 at *
       obtain ⟨B3, hB9⟩ : ∃ B, B = W0.heap.size := ⟨_, rfl⟩
       rw [← hB9] at hx ⊢
       have HBB : Hid (W0.heap.size ≤ B3 ∧ w.heap.size < W0.heap.size) := ⟨by rw [hB9]; exact Nat.le_refl _, HS5.out.2⟩)
  all_goals
    have HX7 := hide hx
    have HB7 := hide hb7
    have HO7 := hide ho7
    clear hx hb7 ho7 hB9
    try clear m2 m3 m4 m5
    try clear m6
    clear m0 m1 HPK b1 b2 z0 z1 p0 p1 HO5 HB5 HX5 HQ5 hW5 HS5 hwk HKQ
    have HSO := hide (lszof_any 2 (.slice ua k uc) (linksTo T k) W7 (by rw [linksTo_len]; have := HKK.out; omega) (by have := HKK.out; omega) HO7.out.at)
    have g0 := HX7.out.c0
    have g1 := HX7.out.c1
    go_wp2_with fail
    refine HSO.out.mono ?_
    rintro e w8 ⟨rfl, hb8⟩
    have HB8 := hide hb8
    have HX8 := hide (HX7.out.below hb8)
    have HO8 := hide (HO7.out.below hb8)
    obtain ⟨sz, hsz⟩ : ∃ s, s = szB (linksTo T k) := ⟨_, rfl⟩
    rw [← hsz]
    have HSZ := hide hsz
    clear hb8 HSO g0 g1 hsz HO7
    by_cases hbig : sz ≤ 4072
    · have hbI : (sz : Int) ≤ 4072 := by omega
      have y0 := (HX.out.below (Below.next HB7.out HB8.out)).c4.1
      have HM2 := hide (HMD.out 4335 w8 ⟨by decide, by decide⟩ (Below.next HB7.out HB8.out))
      clear HSZ HO8
      go_wp2_with fail
      clear hbig hbI y0
      refine HM2.out.mono ?_
      rintro e w9 ⟨k9, ua9, uc9, rfl, ho, hkk, hb⟩
      have hx9 := HX8.out.below hb
      have t0 := hx9.c0
      have t1 := hx9.c1
      have t2 := hx9.free 0
      have t3 := hx9.free 1
      have HB9 := hide hb
      have HO9 := hide ho
      have HXW := hide hx9
      have HK9 := hide hkk
      clear hx9 ho hkk hb HM2
      go_wp2_with fail
      have hx := HXW.out.two (.int .i64 2) (.slice ua9 k9 uc9)
      have hbv : Below W0.heap.size W0 ((w9.setCell ⟨B3, 0, none⟩ (.int .i64 2)).setCell ⟨B3, 1, none⟩ (.slice ua9 k9 uc9)) := below_two (Below.next (Below.next HB7.out HB8.out) HB9.out) HBB.out.1
      have hrv : LkR ((w9.setCell ⟨B3, 0, none⟩ (.int .i64 2)).setCell ⟨B3, 1, none⟩ (.slice ua9 k9 uc9)) (.slice ua9 k9 uc9) (linksTo T k9) := (HO9.out.put2 (g := B3) HX8.out.lt (.int .i64 2) (.slice ua9 k9 uc9)).at
      generalize (w9.setCell ⟨B3, 0, none⟩ (.int .i64 2)).setCell ⟨B3, 1, none⟩ (.slice ua9 k9 uc9) = V at *
      have HKV : Hid (k9 ≤ 1000 ∧ 4072 < szB (linksTo T k9) ∧ szB (linksTo T k9) ≤ 7884) := ⟨HK9.out.1, HK9.out.2.2 (by first | trivial | rfl), HK9.out.2.1⟩
      have HXV := hide hx
      have HBV := hide hbv
      have HRV := hide hrv
      clear hx hbv hrv t0 t1 t2 t3 HK9 HXW HO9 HB9 HX8 HB8 HX7 HB7 HKK HMD
      obtain ⟨l, hl⟩ : ∃ l, l = linksTo T k9 := ⟨_, rfl⟩
      have hk1 : 1 ≤ k9 := by have := szB_linksTo_le T k9; have := HKV.out; omega
      have hc2 : chkB 2 l false = some 2 := by rw [hl, chkB_made T k9 false hk1 HKV.out.1, if_pos HKV.out.2.1]
      have HRI : Hid (RiseK l) := by rw [hl]; exact linksTo_rise T k9 HKV.out.1
      have HMAY : Hid (∀ p ∈ l, mayK p = true) := by rw [hl]; exact linksTo_may T k9 HKV.out.1
      have HKID : Hid ((kids 2 l).Nodup) := by rw [hl]; exact linksTo_kids T k9
      have hok : OkK l := by rw [hl]; exact linksTo_ok T k9
      have hll : l.length = k9 := by rw [hl]; exact linksTo_len T k9
      rw [← hl] at HRV HKV
      have hlm : l.length ≤ 1000 := by rw [hll]; exact HKV.out.1
      have HCK : Hid (Calls Tryd.prog 11 #[.agg #[.int .i64 2, .slice ua9 k9 uc9], .bool false] V fun e w' => e = .returned (.iface 167 (.pointer (some (A 2)))) ∧ Below V.heap.size V w') := by
        have h := bcheck_any A 2 (.slice ua9 k9 uc9) l false V hok (by omega) HRV.out (errK_all (HE.out.keep HBV.out))
        rw [hc2] at h
        exact h
      have HCU : Hid (∀ W, Below V.heap.size V W → Calls Tryd.prog 17 #[.agg #[.int .i64 2, .slice ua9 k9 uc9]] W fun e w' => ∃ (i : Nat) (hi : i < l.length) (xa ya : Option Addr) (xc yc n1 n2 : Nat), e = .returned (.tuple #[.agg #[.int .i64 2, .slice xa n1 xc], .string l[i].1, .agg #[.int .i64 l[i].2, .slice ya n2 yc], .nilIface]) ∧ LkR w' (.slice xa n1 xc) (l.take i) ∧ LkR w' (.slice ya n2 yc) (l.drop (i + 1)) ∧ chkB 2 (l.take i) false = none ∧ chkB l[i].2 (l.drop (i + 1)) false = none ∧ Below W.heap.size W w') := fun W h => by
        refine (bcut_any A 2 _ l W hok (by omega) (HRV.out.below h) (errC_all (HE.out.keep (Below.next HBV.out h)))).mono ?_
        rintro e w' ⟨⟨i, c, ky, f1, f2, u1, u2, ev, rfl, hcn, hno, hcs⟩, hb⟩
        obtain ⟨hc0, hi, k1, k2⟩ := halves_check (by decide) HMAY.out HRI.out HKID.out HKV.out.2.1 HKV.out.2.2 hcn
        subst hc0
        have hev := numOf_nil hno
        subst hev
        rcases hcs with ⟨_, ⟨hi', rfl, rfl, rfl⟩, o1, o2, _⟩ | ⟨h, _⟩
        · obtain ⟨xa, xc, hu⟩ := o1.form
          obtain ⟨ya, yc, hu2⟩ := o2.form
          subst hu hu2
          exact ⟨i, hi, xa, ya, xc, yc, _, _, rfl, o1.at, o2.at, k1, k2, hb⟩
        · exact absurd rfl h
      clear hk1 hc2 hl
      refine HCK.out.mono ?_
      rintro e v1 ⟨rfl, hb1⟩
      have hx1 := HXV.out.below hb1
      have c0 := hx1.c0
      have c1 := hx1.c1
      have HB1 := hide hb1
      clear hb1 hx1 HCK
      go_wp2_with fail
      refine (HCU.out v1 HB1.out).mono ?_
      rintro e v2 ⟨i, hi, xa, ya, xc, yc, n1, n2, rfl, r1, r2, k1, k2, hb2⟩
      have HB2 := hide (Below.next HB1.out hb2)
      have HR1 := hide r1
      have HR2 := hide r2
      have HK1 := hide k1
      have HK2 := hide k2
      obtain ⟨ky, hky⟩ : ∃ x, x = l[i].1 := ⟨_, rfl⟩
      obtain ⟨fr, hfr⟩ : ∃ x, x = l[i].2 := ⟨_, rfl⟩
      rw [← hky, ← hfr]
      rw [← hfr] at HK2
      have HKY := hide hky
      have HFR := hide hfr
      clear r1 r2 k1 k2 hb2 c0 c1 HB1 HCU hky hfr
      go_wp2_with fail
      have q1 := below_new v2 (.cells #[.int .i64 2, .slice xa n1 xc] 30)
      have x1 := RowAt.new v2 #[.int .i64 2, .slice xa n1 xc] 30
      have q2 := below_new (v2.alloc (.cells #[.int .i64 2, .slice xa n1 xc] 30)) (.cells #[.int .i64 fr, .slice ya n2 yc] 30)
      have x2 := RowAt.new (v2.alloc (.cells #[.int .i64 2, .slice xa n1 xc] 30)) #[.int .i64 fr, .slice ya n2 yc] 30
      have s2 : (v2.alloc (.cells #[.int .i64 2, .slice xa n1 xc] 30)).heap.size = v2.heap.size + 1 := by simp
      rw [s2] at x2
      have x3 := x1.below q2
      have hbn := Below.next q1 q2
      generalize (v2.alloc (.cells #[.int .i64 2, .slice xa n1 xc] 30)).alloc (.cells #[.int .i64 fr, .slice ya n2 yc] 30) = V3 at *
      have HB3 := hide (Below.next HB2.out hbn)
      have HR1' := hide (HR1.out.below hbn)
      have HR2' := hide (HR2.out.below hbn)
      obtain ⟨by', hby⟩ : ∃ b, b = v2.heap.size + 1 := ⟨_, rfl⟩
      obtain ⟨bx, hbx⟩ : ∃ b, b = v2.heap.size := ⟨_, rfl⟩
      rw [← hby] at x2 ⊢
      rw [← hbx] at x3 ⊢
      have HX1 := hide x3
      have HX2 := hide x2
      have HXB := hide (HXV.out.below HB3.out)
      have HBW := hide (Below.next HBV.out HB3.out)
      have HXK := hide (HX.out.below HBW.out)
      have HRB := hide (HRV.out.below HB3.out)
      have HLT : Hid (i ≤ 1000 ∧ l.length ≤ 1000) := ⟨by omega, hlm⟩
      have HC1 : Hid (∀ W, Below V3.heap.size V3 W → Calls Tryd.prog 11 #[.agg #[.int .i64 2, .slice xa n1 xc], .bool false] W fun e w' => e = .returned .nilIface ∧ Below W.heap.size W w') := fun W h => by
        have := bcheck_any A 2 (.slice xa n1 xc) (l.take i) false W (hok.take i) (by rw [List.length_take]; omega) (HR1'.out.below h) (errK_all (HE.out.keep (Below.next HBW.out h)))
        rw [HK1.out] at this
        exact this
      have HC2 : Hid (∀ W, Below V3.heap.size V3 W → Calls Tryd.prog 11 #[.agg #[.int .i64 fr, .slice ya n2 yc], .bool false] W fun e w' => e = .returned .nilIface ∧ Below W.heap.size W w') := fun W h => by
        have := bcheck_any A fr (.slice ya n2 yc) (l.drop (i + 1)) false W (hok.drop (i + 1)) (by rw [List.length_drop]; omega) (HR2'.out.below h) (errK_all (HE.out.keep (Below.next HBW.out h)))
        rw [HK2.out] at this
        exact this
      have HJN : Hid (∀ W, Below V3.heap.size V3 W → Calls Tryd.prog 18 #[.agg #[.int .i64 2, .slice xa n1 xc], .string ky, .agg #[.int .i64 fr, .slice ya n2 yc]] W fun e w' => ∃ ja jc, e = .returned (.agg #[.int .i64 2, .slice ja k9 jc]) ∧ LkR w' (.slice ja k9 jc) l ∧ Below W.heap.size W w') := fun W h => by
        refine (bjoin_any 2 fr ky (.slice xa n1 xc) (.slice ya n2 yc) (l.take i) (l.drop (i + 1)) W (by rw [List.length_take, List.length_drop]; omega) (HR1'.out.below h) (HR2'.out.below h)).mono ?_
        rintro e w' ⟨u, rfl, ho, hb⟩
        rw [HKY.out, HFR.out, joinL_cut l i hi] at ho
        obtain ⟨ja, jc, hu⟩ := ho.form
        rw [hll] at hu
        subst hu
        exact ⟨ja, jc, rfl, ho.at, hb⟩
      have HSM : Hid (∀ W (ja : Option Addr) (jc : Nat), LkR W (.slice ja k9 jc) l → Below V3.heap.size V3 W → Calls Tryd.prog 9 #[.agg #[.int .i64 2, .slice ja k9 jc], .agg #[.int .i64 2, .slice ua9 k9 uc9]] W fun e w' => e = .returned (.bool true) ∧ Below W.heap.size W w') := fun W ja jc hj h => sameb_same 2 _ _ l W (by omega) hj (HRB.out.below h)
      have HNM : Hid (∀ W, Below V3.heap.size V3 W → Calls Tryd.prog 10 #[.iface 167 (.pointer (some (A 2)))] W fun e w' => e = .returned (.int .i64 3) ∧ W = w') := fun W h => num_errK A (some 2) W (HE.out.keep (Below.next HBW.out h)) (.inr (.inr (.inl rfl)))
      have HPI : Hid (∀ W, Below V3.heap.size V3 W → Calls Tryd.prog 19 #[.agg #[.int .i64 2, .slice ua9 k9 uc9], .string key] W fun e w' => ∃ p : Nat, e = .returned (.int .i64 (p : Int)) ∧ PickAt l key p ∧ Below W.heap.size W w') := fun W h => by
        refine (bpick_any 2 (.slice ua9 k9 uc9) l key W (by omega) (HRB.out.below h)).mono ?_
        rintro e w' ⟨⟨p, rfl, hp⟩, hb⟩
        exact ⟨p, rfl, hp, hb⟩
      have HCH : Hid (∀ W (p : Nat), PickAt l key p → Below V3.heap.size V3 W → Calls Tryd.prog 20 #[.agg #[.int .i64 2, .slice ua9 k9 uc9], .int .i64 (p : Int)] W fun e w' => e = .returned (.tuple #[.int .i64 (childN 2 l (p : Int)), .nilIface]) ∧ Below W.heap.size W w') := fun W p hp h => by
        have := bchild_any A 2 (p : Int) (.slice ua9 k9 uc9) l W (by omega) (HRB.out.below h) (errC_all (HE.out.keep (Below.next HBW.out h)))
        rw [childV_pick hp] at this
        exact this
      have HPH : Hid (∀ (f : Int) (va : Option Addr) (vn vc : Nat) (ls : List Lk), ls.length ≤ 1000 → LkR V3 (.slice va vn vc) ls → ∀ W, Below V3.heap.size V3 W → Calls Tryd.prog 19 #[.agg #[.int .i64 f, .slice va vn vc], .string key] W fun e w' => ∃ p : Nat, e = .returned (.int .i64 (p : Int)) ∧ PickAt ls key p ∧ Below W.heap.size W w') := fun f va vn vc ls hm hr W h => by
        refine (bpick_any f (.slice va vn vc) ls key W (by omega) (hr.below h)).mono ?_
        rintro e w' ⟨⟨p, rfl, hp⟩, hb⟩
        exact ⟨p, rfl, hp, hb⟩
      have HCC : Hid (∀ (f : Int) (va : Option Addr) (vn vc : Nat) (ls : List Lk), ls.length ≤ 1000 → LkR V3 (.slice va vn vc) ls → ∀ W (p : Nat), PickAt ls key p → Below V3.heap.size V3 W → Calls Tryd.prog 20 #[.agg #[.int .i64 f, .slice va vn vc], .int .i64 (p : Int)] W fun e w' => e = .returned (.tuple #[.int .i64 (childN f ls (p : Int)), .nilIface]) ∧ Below W.heap.size W w') := fun f va vn vc ls hm hr W p hp h => by
        have := bchild_any A f (p : Int) (.slice va vn vc) ls W (by omega) (hr.below h) (errC_all (HE.out.keep (Below.next HBW.out h)))
        rw [childV_pick hp] at this
        exact this
      have HOUT : Hid (Below w.heap.size w V3) := Below.next HQ.out HBW.out
      have HQT : Hid (∀ p q : Nat, leK ky key = true → PickAt l key p → PickAt (l.drop (i + 1)) key q → childN 2 l (p : Int) = childN fr (l.drop (i + 1)) (q : Int)) := fun p q h1 h2 h3 => by
        rw [HFR.out]; exact pick_right HRI.out hi (by rw [← HKY.out]; exact h1) h2 h3
      have HQF : Hid (∀ p q : Nat, leK ky key = false → PickAt l key p → PickAt (l.take i) key q → childN 2 l (p : Int) = childN 2 (l.take i) (q : Int)) := fun p q h1 h2 h3 =>
        pick_left HRI.out hi (by rw [← HKY.out]; exact h1) h2 h3
      have HL1 : Hid ((l.take i).length ≤ 1000 ∧ (l.drop (i + 1)).length ≤ 1000) := ⟨by rw [List.length_take]; omega, by rw [List.length_drop]; omega⟩
      obtain ⟨la, hla⟩ : ∃ x, x = l.take i := ⟨_, rfl⟩
      obtain ⟨lb, hlb⟩ : ∃ x, x = l.drop (i + 1) := ⟨_, rfl⟩
      rw [← hla] at HR1' HQF HL1
      rw [← hlb] at HR2' HQT HL1
      clear q1 x1 q2 x2 x3 s2 hbn HB3 HR1 HR2 hby hbx HXV HBV HRV HB2 HK1 HK2 HKY HFR HRI HMAY HKID hok hll hlm hi HKV hla hlb HRB
      refine (HC1.out V3 (Below.refl _ _)).mono ?_
      rintro e v4 ⟨rfl, hb4⟩
      have HB4 := hide hb4
      have c0 := (HX2.out.below hb4).c0
      have c1 := (HX2.out.below hb4).c1
      clear hb4 HC1
      go_wp2_with fail
      clear c0 c1
      refine (HC2.out v4 HB4.out).mono ?_
      rintro e v5 ⟨rfl, hb5⟩
      have HB5 := hide (Below.next HB4.out hb5)
      clear hb5 HC2 HB4
      have c0 := (HX1.out.below HB5.out).c0
      have c1 := (HX1.out.below HB5.out).c1
      have c2 := (HX2.out.below HB5.out).c0
      have c3 := (HX2.out.below HB5.out).c1
      have c4 := (HXB.out.below HB5.out).c0
      have c5 := (HXB.out.below HB5.out).c1
      go_wp2_with fail
      go_region_held3 (fun w' => w'.cell? ⟨bx, 0, none⟩ = some (.int .i64 2) ∧ w'.cell? ⟨bx, 1, none⟩ = some (.slice xa n1 xc) ∧ w'.cell? ⟨by', 0, none⟩ = some (.int .i64 fr) ∧ w'.cell? ⟨by', 1, none⟩ = some (.slice ya n2 yc) ∧ w'.cell? ⟨B3, 0, none⟩ = some (.int .i64 2) ∧ w'.cell? ⟨B3, 1, none⟩ = some (.slice ua9 k9 uc9)) (go_keep)
        (first
          | (go_at_call 18; refine (HJN.out _ HB5.out.drew).mono ?_; rintro e v6 ⟨ja, jc, rfl, hj6, hb6⟩; have HJ6 := hide hj6; have HB6 := hide (Below.next HB5.out (undrewB hb6)); have d0 := (HX1.out.below HB6.out).c0; have d1 := (HX1.out.below HB6.out).c1; have d2 := (HX2.out.below HB6.out).c0; have d3 := (HX2.out.below HB6.out).c1; have d4 := (HXB.out.below HB6.out).c0; have d5 := (HXB.out.below HB6.out).c1; clear hj6 hb6)
          | (go_at_call 9; refine (HSM.out _ _ _ HJ6.out HB6.out).mono ?_; rintro e v7 ⟨rfl, hb7⟩; have HB7 := hide (Below.next HB6.out hb7); have d0 := (HX1.out.below HB7.out).c0; have d1 := (HX1.out.below HB7.out).c1; have d2 := (HX2.out.below HB7.out).c0; have d3 := (HX2.out.below HB7.out).c1; have d4 := (HXB.out.below HB7.out).c0; have d5 := (HXB.out.below HB7.out).c1; clear hb7))
      clear c0 c1 c2 c3 c4 c5
      clear d0 d1 d2 d3 d4 d5 HJN HSM
      go_wp2_with fail
      refine (HNM.out v7 HB7.out).mono ?_
      rintro e v8 ⟨rfl, rfl⟩
      have c4 := (HXB.out.below HB7.out).c0
      have c5 := (HXB.out.below HB7.out).c1
      have c6 := (HXK.out.below HB7.out).c4.2.2.1
      clear HNM
      go_wp2_with fail
      clear c4 c5 c6
      refine (HPI.out v7 HB7.out).mono ?_
      rintro e v9 ⟨p, rfl, hp, hb9⟩
      have HB9 := hide (Below.next HB7.out hb9)
      have HP := hide hp
      have c4 := (HXB.out.below HB9.out).c0
      have c5 := (HXB.out.below HB9.out).c1
      clear hb9 hp HPI HB7
      go_wp2_with fail
      clear c4 c5
      refine (HCH.out v9 p HP.out HB9.out).mono ?_
      rintro e v10 ⟨rfl, hb10⟩
      have HB10 := hide (Below.next HB9.out hb10)
      clear hb10 HB9 HCH
      obtain ⟨ch, hch⟩ : ∃ x, x = childN 2 l (p : Int) := ⟨_, rfl⟩
      rw [← hch]
      have HCHN := hide hch
      have c0 := (HX1.out.below HB10.out).c0
      have c1 := (HX1.out.below HB10.out).c1
      have q4 := below_new v10 (.cells #[.int .i64 2, .slice xa n1 xc] 30)
      have x4 := RowAt.new v10 #[.int .i64 2, .slice xa n1 xc] 30
      have HB11 := hide (Below.next HB10.out q4)
      have HX4 := hide x4
      have c6 := (HXK.out.below HB11.out).c4.2.2.1
      have c2 := (HX2.out.below HB11.out).c0
      have c3 := (HX2.out.below HB11.out).c1
      clear hch q4 x4
      have hge := geK key ky
      by_cases hle : leK ky key = true
      · rw [hle] at hge
        have hge : Op.bytesLess key.toList ky.toList = false := by simpa using hge
        have c7 := HX4.out.c0
        have c8 := HX4.out.c1
        have c9 := HX4.out.free 0
        have c10 := HX4.out.free 1
        go_wp2_with fail
        have hx := RowAt.new v10 #[.int .i64 fr, .slice ya n2 yc] 30
        have hb11 := Below.next HB10.out (below_new v10 (.cells #[.int .i64 fr, .slice ya n2 yc] 30))
        obtain ⟨bh, hbh⟩ : ∃ b, b = v10.heap.size := ⟨_, rfl⟩
        rw [← hbh] at hx ⊢
        generalize v10.alloc (.cells #[.int .i64 fr, .slice ya n2 yc] 30) = V11 at *
        have HXH := hide hx
        have HB12 := hide hb11
        have HP2 := hide (HPH.out fr ya n2 yc lb HL1.out.2 HR2'.out)
        have HC2' := hide (HCC.out fr ya n2 yc lb HL1.out.2 HR2'.out)
        clear hx hb11 hbh HPH HCC
        have e0 := HXH.out.c0
        have e1 := HXH.out.c1
        have e2 := (HXK.out.below HB12.out).c4.2.2.1
        clear c0 c1 c2 c3 c6 c7 c8 HX4 HB11
        try clear c9 c10
        go_region_held3 (fun w' => w'.cell? ⟨bh, 0, none⟩ = some (.int .i64 fr) ∧ w'.cell? ⟨bh, 1, none⟩ = some (.slice ya n2 yc) ∧ w'.cell? ⟨w.heap.size, 2, none⟩ = some (.string key)) (go_keep)
          (first
            | (go_at_call 19; refine (HP2.out _ HB12.out.drew).mono ?_; rintro e v13 ⟨q, rfl, hq, hb13⟩; have HQP := hide hq; have HB13 := hide (Below.next HB12.out (undrewB hb13)); have f0 := (HXH.out.below (undrewB hb13)).c0; have f1 := (HXH.out.below (undrewB hb13)).c1; have f2 := (HXK.out.below HB13.out).c4.2.2.1; have HXI := hide (HXH.out.below (undrewB hb13)); clear hq hb13)
            | (go_at_call 20; refine (HC2'.out _ q HQP.out HB13.out).mono ?_; rintro e v14 ⟨rfl, hb14⟩; have HB14 := hide (Below.next HB13.out hb14); have f0 := (HXI.out.below hb14).c0; have f1 := (HXI.out.below hb14).c1; have f2 := (HXK.out.below HB14.out).c4.2.2.1; clear hb14))
        have hcc := HQT.out p q hle HP.out HQP.out
        rw [← HCHN.out] at hcc
        rw [← hcc]
        clear hcc
        go_wp2
        go_ret
        exact ⟨rfl, Below.next HOUT.out HB14.out⟩
      · have hle := Bool.eq_false_iff.2 hle
        rw [hle] at hge
        have hge : Op.bytesLess key.toList ky.toList = true := by simpa using hge
        have c7 := HX4.out.c0
        have c8 := HX4.out.c1
        go_wp2_with fail
        have hx := HX4.out
        have hb11 := HB11.out
        obtain ⟨bh, hbh⟩ : ∃ b, b = v10.heap.size := ⟨_, rfl⟩
        rw [← hbh] at hx ⊢
        generalize v10.alloc (.cells #[.int .i64 2, .slice xa n1 xc] 30) = V11 at *
        have HXH := hide hx
        have HB12 := hide hb11
        have HP2 := hide (HPH.out 2 xa n1 xc la HL1.out.1 HR1'.out)
        have HC2' := hide (HCC.out 2 xa n1 xc la HL1.out.1 HR1'.out)
        clear hx hb11 hbh HPH HCC
        have e0 := HXH.out.c0
        have e1 := HXH.out.c1
        have e2 := (HXK.out.below HB12.out).c4.2.2.1
        clear c0 c1 c2 c3 c6 c7 c8 HX4 HB11
        try clear c9 c10
        go_region_held3 (fun w' => w'.cell? ⟨bh, 0, none⟩ = some (.int .i64 2) ∧ w'.cell? ⟨bh, 1, none⟩ = some (.slice xa n1 xc) ∧ w'.cell? ⟨w.heap.size, 2, none⟩ = some (.string key)) (go_keep)
          (first
            | (go_at_call 19; refine (HP2.out _ HB12.out.drew).mono ?_; rintro e v13 ⟨q, rfl, hq, hb13⟩; have HQP := hide hq; have HB13 := hide (Below.next HB12.out (undrewB hb13)); have f0 := (HXH.out.below (undrewB hb13)).c0; have f1 := (HXH.out.below (undrewB hb13)).c1; have f2 := (HXK.out.below HB13.out).c4.2.2.1; have HXI := hide (HXH.out.below (undrewB hb13)); clear hq hb13)
            | (go_at_call 20; refine (HC2'.out _ q HQP.out HB13.out).mono ?_; rintro e v14 ⟨rfl, hb14⟩; have HB14 := hide (Below.next HB13.out hb14); have f0 := (HXI.out.below hb14).c0; have f1 := (HXI.out.below hb14).c1; have f2 := (HXK.out.below HB14.out).c4.2.2.1; clear hb14))
        have hcc := HQF.out p q hle HP.out HQP.out
        rw [← HCHN.out] at hcc
        rw [← hcc]
        clear hcc
        go_wp2
        go_ret
        exact ⟨rfl, Below.next HOUT.out HB14.out⟩
    · have hbI : ¬ (sz : Int) ≤ 4072 := by omega
      have g0 := HX8.out.c0
      have g1 := HX8.out.c1
      have HKV : Hid (k ≤ 1000 ∧ 4072 < szB (linksTo T k) ∧ szB (linksTo T k) ≤ 7884) := ⟨HKK.out.1, by have := HSZ.out; omega, HKK.out.2.1⟩
      have HXV := HX8
      have HBV := hide (Below.next HB7.out HB8.out)
      have HRV := hide HO8.out.at
      clear HX8 HO8 HB8 HX7 HB7 HKK HMD HSZ hbig
      go_wp2_with fail
      clear hbI g0 g1
      obtain ⟨l, hl⟩ : ∃ l, l = linksTo T k := ⟨_, rfl⟩
      have hk1 : 1 ≤ k := by have := szB_linksTo_le T k; have := HKV.out; omega
      have hc2 : chkB 2 l false = some 2 := by rw [hl, chkB_made T k false hk1 HKV.out.1, if_pos HKV.out.2.1]
      have HRI : Hid (RiseK l) := by rw [hl]; exact linksTo_rise T k HKV.out.1
      have HMAY : Hid (∀ p ∈ l, mayK p = true) := by rw [hl]; exact linksTo_may T k HKV.out.1
      have HKID : Hid ((kids 2 l).Nodup) := by rw [hl]; exact linksTo_kids T k
      have hok : OkK l := by rw [hl]; exact linksTo_ok T k
      have hll : l.length = k := by rw [hl]; exact linksTo_len T k
      rw [← hl] at HRV HKV
      have hlm : l.length ≤ 1000 := by rw [hll]; exact HKV.out.1
      have HCK : Hid (Calls Tryd.prog 11 #[.agg #[.int .i64 2, .slice ua k uc], .bool false] w8 fun e w' => e = .returned (.iface 167 (.pointer (some (A 2)))) ∧ Below w8.heap.size w8 w') := by
        have h := bcheck_any A 2 (.slice ua k uc) l false w8 hok (by omega) HRV.out (errK_all (HE.out.keep HBV.out))
        rw [hc2] at h
        exact h
      have HCU : Hid (∀ W, Below w8.heap.size w8 W → Calls Tryd.prog 17 #[.agg #[.int .i64 2, .slice ua k uc]] W fun e w' => ∃ (i : Nat) (hi : i < l.length) (xa ya : Option Addr) (xc yc n1 n2 : Nat), e = .returned (.tuple #[.agg #[.int .i64 2, .slice xa n1 xc], .string l[i].1, .agg #[.int .i64 l[i].2, .slice ya n2 yc], .nilIface]) ∧ LkR w' (.slice xa n1 xc) (l.take i) ∧ LkR w' (.slice ya n2 yc) (l.drop (i + 1)) ∧ chkB 2 (l.take i) false = none ∧ chkB l[i].2 (l.drop (i + 1)) false = none ∧ Below W.heap.size W w') := fun W h => by
        refine (bcut_any A 2 _ l W hok (by omega) (HRV.out.below h) (errC_all (HE.out.keep (Below.next HBV.out h)))).mono ?_
        rintro e w' ⟨⟨i, c, ky, f1, f2, u1, u2, ev, rfl, hcn, hno, hcs⟩, hb⟩
        obtain ⟨hc0, hi, k1, k2⟩ := halves_check (by decide) HMAY.out HRI.out HKID.out HKV.out.2.1 HKV.out.2.2 hcn
        subst hc0
        have hev := numOf_nil hno
        subst hev
        rcases hcs with ⟨_, ⟨hi', rfl, rfl, rfl⟩, o1, o2, _⟩ | ⟨h, _⟩
        · obtain ⟨xa, xc, hu⟩ := o1.form
          obtain ⟨ya, yc, hu2⟩ := o2.form
          subst hu hu2
          exact ⟨i, hi, xa, ya, xc, yc, _, _, rfl, o1.at, o2.at, k1, k2, hb⟩
        · exact absurd rfl h
      clear hk1 hc2 hl
      refine HCK.out.mono ?_
      rintro e v1 ⟨rfl, hb1⟩
      have hx1 := HXV.out.below hb1
      have c0 := hx1.c0
      have c1 := hx1.c1
      have HB1 := hide hb1
      clear hb1 hx1 HCK
      go_wp2_with fail
      refine (HCU.out v1 HB1.out).mono ?_
      rintro e v2 ⟨i, hi, xa, ya, xc, yc, n1, n2, rfl, r1, r2, k1, k2, hb2⟩
      have HB2 := hide (Below.next HB1.out hb2)
      have HR1 := hide r1
      have HR2 := hide r2
      have HK1 := hide k1
      have HK2 := hide k2
      obtain ⟨ky, hky⟩ : ∃ x, x = l[i].1 := ⟨_, rfl⟩
      obtain ⟨fr, hfr⟩ : ∃ x, x = l[i].2 := ⟨_, rfl⟩
      rw [← hky, ← hfr]
      rw [← hfr] at HK2
      have HKY := hide hky
      have HFR := hide hfr
      clear r1 r2 k1 k2 hb2 c0 c1 HB1 HCU hky hfr
      go_wp2_with fail
      have q1 := below_new v2 (.cells #[.int .i64 2, .slice xa n1 xc] 30)
      have x1 := RowAt.new v2 #[.int .i64 2, .slice xa n1 xc] 30
      have q2 := below_new (v2.alloc (.cells #[.int .i64 2, .slice xa n1 xc] 30)) (.cells #[.int .i64 fr, .slice ya n2 yc] 30)
      have x2 := RowAt.new (v2.alloc (.cells #[.int .i64 2, .slice xa n1 xc] 30)) #[.int .i64 fr, .slice ya n2 yc] 30
      have s2 : (v2.alloc (.cells #[.int .i64 2, .slice xa n1 xc] 30)).heap.size = v2.heap.size + 1 := by simp
      rw [s2] at x2
      have x3 := x1.below q2
      have hbn := Below.next q1 q2
      generalize (v2.alloc (.cells #[.int .i64 2, .slice xa n1 xc] 30)).alloc (.cells #[.int .i64 fr, .slice ya n2 yc] 30) = V3 at *
      have HB3 := hide (Below.next HB2.out hbn)
      have HR1' := hide (HR1.out.below hbn)
      have HR2' := hide (HR2.out.below hbn)
      obtain ⟨by', hby⟩ : ∃ b, b = v2.heap.size + 1 := ⟨_, rfl⟩
      obtain ⟨bx, hbx⟩ : ∃ b, b = v2.heap.size := ⟨_, rfl⟩
      rw [← hby] at x2 ⊢
      rw [← hbx] at x3 ⊢
      have HX1 := hide x3
      have HX2 := hide x2
      have HXB := hide (HXV.out.below HB3.out)
      have HBW := hide (Below.next HBV.out HB3.out)
      have HXK := hide (HX.out.below HBW.out)
      have HRB := hide (HRV.out.below HB3.out)
      have HLT : Hid (i ≤ 1000 ∧ l.length ≤ 1000) := ⟨by omega, hlm⟩
      have HC1 : Hid (∀ W, Below V3.heap.size V3 W → Calls Tryd.prog 11 #[.agg #[.int .i64 2, .slice xa n1 xc], .bool false] W fun e w' => e = .returned .nilIface ∧ Below W.heap.size W w') := fun W h => by
        have := bcheck_any A 2 (.slice xa n1 xc) (l.take i) false W (hok.take i) (by rw [List.length_take]; omega) (HR1'.out.below h) (errK_all (HE.out.keep (Below.next HBW.out h)))
        rw [HK1.out] at this
        exact this
      have HC2 : Hid (∀ W, Below V3.heap.size V3 W → Calls Tryd.prog 11 #[.agg #[.int .i64 fr, .slice ya n2 yc], .bool false] W fun e w' => e = .returned .nilIface ∧ Below W.heap.size W w') := fun W h => by
        have := bcheck_any A fr (.slice ya n2 yc) (l.drop (i + 1)) false W (hok.drop (i + 1)) (by rw [List.length_drop]; omega) (HR2'.out.below h) (errK_all (HE.out.keep (Below.next HBW.out h)))
        rw [HK2.out] at this
        exact this
      have HJN : Hid (∀ W, Below V3.heap.size V3 W → Calls Tryd.prog 18 #[.agg #[.int .i64 2, .slice xa n1 xc], .string ky, .agg #[.int .i64 fr, .slice ya n2 yc]] W fun e w' => ∃ ja jc, e = .returned (.agg #[.int .i64 2, .slice ja k jc]) ∧ LkR w' (.slice ja k jc) l ∧ Below W.heap.size W w') := fun W h => by
        refine (bjoin_any 2 fr ky (.slice xa n1 xc) (.slice ya n2 yc) (l.take i) (l.drop (i + 1)) W (by rw [List.length_take, List.length_drop]; omega) (HR1'.out.below h) (HR2'.out.below h)).mono ?_
        rintro e w' ⟨u, rfl, ho, hb⟩
        rw [HKY.out, HFR.out, joinL_cut l i hi] at ho
        obtain ⟨ja, jc, hu⟩ := ho.form
        rw [hll] at hu
        subst hu
        exact ⟨ja, jc, rfl, ho.at, hb⟩
      have HSM : Hid (∀ W (ja : Option Addr) (jc : Nat), LkR W (.slice ja k jc) l → Below V3.heap.size V3 W → Calls Tryd.prog 9 #[.agg #[.int .i64 2, .slice ja k jc], .agg #[.int .i64 2, .slice ua k uc]] W fun e w' => e = .returned (.bool true) ∧ Below W.heap.size W w') := fun W ja jc hj h => sameb_same 2 _ _ l W (by omega) hj (HRB.out.below h)
      have HNM : Hid (∀ W, Below V3.heap.size V3 W → Calls Tryd.prog 10 #[.iface 167 (.pointer (some (A 2)))] W fun e w' => e = .returned (.int .i64 3) ∧ W = w') := fun W h => num_errK A (some 2) W (HE.out.keep (Below.next HBW.out h)) (.inr (.inr (.inl rfl)))
      have HPI : Hid (∀ W, Below V3.heap.size V3 W → Calls Tryd.prog 19 #[.agg #[.int .i64 2, .slice ua k uc], .string key] W fun e w' => ∃ p : Nat, e = .returned (.int .i64 (p : Int)) ∧ PickAt l key p ∧ Below W.heap.size W w') := fun W h => by
        refine (bpick_any 2 (.slice ua k uc) l key W (by omega) (HRB.out.below h)).mono ?_
        rintro e w' ⟨⟨p, rfl, hp⟩, hb⟩
        exact ⟨p, rfl, hp, hb⟩
      have HCH : Hid (∀ W (p : Nat), PickAt l key p → Below V3.heap.size V3 W → Calls Tryd.prog 20 #[.agg #[.int .i64 2, .slice ua k uc], .int .i64 (p : Int)] W fun e w' => e = .returned (.tuple #[.int .i64 (childN 2 l (p : Int)), .nilIface]) ∧ Below W.heap.size W w') := fun W p hp h => by
        have := bchild_any A 2 (p : Int) (.slice ua k uc) l W (by omega) (HRB.out.below h) (errC_all (HE.out.keep (Below.next HBW.out h)))
        rw [childV_pick hp] at this
        exact this
      have HPH : Hid (∀ (f : Int) (va : Option Addr) (vn vc : Nat) (ls : List Lk), ls.length ≤ 1000 → LkR V3 (.slice va vn vc) ls → ∀ W, Below V3.heap.size V3 W → Calls Tryd.prog 19 #[.agg #[.int .i64 f, .slice va vn vc], .string key] W fun e w' => ∃ p : Nat, e = .returned (.int .i64 (p : Int)) ∧ PickAt ls key p ∧ Below W.heap.size W w') := fun f va vn vc ls hm hr W h => by
        refine (bpick_any f (.slice va vn vc) ls key W (by omega) (hr.below h)).mono ?_
        rintro e w' ⟨⟨p, rfl, hp⟩, hb⟩
        exact ⟨p, rfl, hp, hb⟩
      have HCC : Hid (∀ (f : Int) (va : Option Addr) (vn vc : Nat) (ls : List Lk), ls.length ≤ 1000 → LkR V3 (.slice va vn vc) ls → ∀ W (p : Nat), PickAt ls key p → Below V3.heap.size V3 W → Calls Tryd.prog 20 #[.agg #[.int .i64 f, .slice va vn vc], .int .i64 (p : Int)] W fun e w' => e = .returned (.tuple #[.int .i64 (childN f ls (p : Int)), .nilIface]) ∧ Below W.heap.size W w') := fun f va vn vc ls hm hr W p hp h => by
        have := bchild_any A f (p : Int) (.slice va vn vc) ls W (by omega) (hr.below h) (errC_all (HE.out.keep (Below.next HBW.out h)))
        rw [childV_pick hp] at this
        exact this
      have HOUT : Hid (Below w.heap.size w V3) := Below.next HQ.out HBW.out
      have HQT : Hid (∀ p q : Nat, leK ky key = true → PickAt l key p → PickAt (l.drop (i + 1)) key q → childN 2 l (p : Int) = childN fr (l.drop (i + 1)) (q : Int)) := fun p q h1 h2 h3 => by
        rw [HFR.out]; exact pick_right HRI.out hi (by rw [← HKY.out]; exact h1) h2 h3
      have HQF : Hid (∀ p q : Nat, leK ky key = false → PickAt l key p → PickAt (l.take i) key q → childN 2 l (p : Int) = childN 2 (l.take i) (q : Int)) := fun p q h1 h2 h3 =>
        pick_left HRI.out hi (by rw [← HKY.out]; exact h1) h2 h3
      have HL1 : Hid ((l.take i).length ≤ 1000 ∧ (l.drop (i + 1)).length ≤ 1000) := ⟨by rw [List.length_take]; omega, by rw [List.length_drop]; omega⟩
      obtain ⟨la, hla⟩ : ∃ x, x = l.take i := ⟨_, rfl⟩
      obtain ⟨lb, hlb⟩ : ∃ x, x = l.drop (i + 1) := ⟨_, rfl⟩
      rw [← hla] at HR1' HQF HL1
      rw [← hlb] at HR2' HQT HL1
      clear q1 x1 q2 x2 x3 s2 hbn HB3 HR1 HR2 hby hbx HXV HBV HRV HB2 HK1 HK2 HKY HFR HRI HMAY HKID hok hll hlm hi HKV hla hlb HRB
      refine (HC1.out V3 (Below.refl _ _)).mono ?_
      rintro e v4 ⟨rfl, hb4⟩
      have HB4 := hide hb4
      have c0 := (HX2.out.below hb4).c0
      have c1 := (HX2.out.below hb4).c1
      clear hb4 HC1
      go_wp2_with fail
      clear c0 c1
      refine (HC2.out v4 HB4.out).mono ?_
      rintro e v5 ⟨rfl, hb5⟩
      have HB5 := hide (Below.next HB4.out hb5)
      clear hb5 HC2 HB4
      have c0 := (HX1.out.below HB5.out).c0
      have c1 := (HX1.out.below HB5.out).c1
      have c2 := (HX2.out.below HB5.out).c0
      have c3 := (HX2.out.below HB5.out).c1
      have c4 := (HXB.out.below HB5.out).c0
      have c5 := (HXB.out.below HB5.out).c1
      go_wp2_with fail
      go_region_held3 (fun w' => w'.cell? ⟨bx, 0, none⟩ = some (.int .i64 2) ∧ w'.cell? ⟨bx, 1, none⟩ = some (.slice xa n1 xc) ∧ w'.cell? ⟨by', 0, none⟩ = some (.int .i64 fr) ∧ w'.cell? ⟨by', 1, none⟩ = some (.slice ya n2 yc) ∧ w'.cell? ⟨B3, 0, none⟩ = some (.int .i64 2) ∧ w'.cell? ⟨B3, 1, none⟩ = some (.slice ua k uc)) (go_keep)
        (first
          | (go_at_call 18; refine (HJN.out _ HB5.out.drew).mono ?_; rintro e v6 ⟨ja, jc, rfl, hj6, hb6⟩; have HJ6 := hide hj6; have HB6 := hide (Below.next HB5.out (undrewB hb6)); have d0 := (HX1.out.below HB6.out).c0; have d1 := (HX1.out.below HB6.out).c1; have d2 := (HX2.out.below HB6.out).c0; have d3 := (HX2.out.below HB6.out).c1; have d4 := (HXB.out.below HB6.out).c0; have d5 := (HXB.out.below HB6.out).c1; clear hj6 hb6)
          | (go_at_call 9; refine (HSM.out _ _ _ HJ6.out HB6.out).mono ?_; rintro e v7 ⟨rfl, hb7⟩; have HB7 := hide (Below.next HB6.out hb7); have d0 := (HX1.out.below HB7.out).c0; have d1 := (HX1.out.below HB7.out).c1; have d2 := (HX2.out.below HB7.out).c0; have d3 := (HX2.out.below HB7.out).c1; have d4 := (HXB.out.below HB7.out).c0; have d5 := (HXB.out.below HB7.out).c1; clear hb7))
      clear c0 c1 c2 c3 c4 c5
      clear d0 d1 d2 d3 d4 d5 HJN HSM
      go_wp2_with fail
      refine (HNM.out v7 HB7.out).mono ?_
      rintro e v8 ⟨rfl, rfl⟩
      have c4 := (HXB.out.below HB7.out).c0
      have c5 := (HXB.out.below HB7.out).c1
      have c6 := (HXK.out.below HB7.out).c4.2.2.1
      clear HNM
      go_wp2_with fail
      clear c4 c5 c6
      refine (HPI.out v7 HB7.out).mono ?_
      rintro e v9 ⟨p, rfl, hp, hb9⟩
      have HB9 := hide (Below.next HB7.out hb9)
      have HP := hide hp
      have c4 := (HXB.out.below HB9.out).c0
      have c5 := (HXB.out.below HB9.out).c1
      clear hb9 hp HPI HB7
      go_wp2_with fail
      clear c4 c5
      refine (HCH.out v9 p HP.out HB9.out).mono ?_
      rintro e v10 ⟨rfl, hb10⟩
      have HB10 := hide (Below.next HB9.out hb10)
      clear hb10 HB9 HCH
      obtain ⟨ch, hch⟩ : ∃ x, x = childN 2 l (p : Int) := ⟨_, rfl⟩
      rw [← hch]
      have HCHN := hide hch
      have c0 := (HX1.out.below HB10.out).c0
      have c1 := (HX1.out.below HB10.out).c1
      have q4 := below_new v10 (.cells #[.int .i64 2, .slice xa n1 xc] 30)
      have x4 := RowAt.new v10 #[.int .i64 2, .slice xa n1 xc] 30
      have HB11 := hide (Below.next HB10.out q4)
      have HX4 := hide x4
      have c6 := (HXK.out.below HB11.out).c4.2.2.1
      have c2 := (HX2.out.below HB11.out).c0
      have c3 := (HX2.out.below HB11.out).c1
      clear hch q4 x4
      have hge := geK key ky
      by_cases hle : leK ky key = true
      · rw [hle] at hge
        have hge : Op.bytesLess key.toList ky.toList = false := by simpa using hge
        have c7 := HX4.out.c0
        have c8 := HX4.out.c1
        have c9 := HX4.out.free 0
        have c10 := HX4.out.free 1
        go_wp2_with fail
        have hx := RowAt.new v10 #[.int .i64 fr, .slice ya n2 yc] 30
        have hb11 := Below.next HB10.out (below_new v10 (.cells #[.int .i64 fr, .slice ya n2 yc] 30))
        obtain ⟨bh, hbh⟩ : ∃ b, b = v10.heap.size := ⟨_, rfl⟩
        rw [← hbh] at hx ⊢
        generalize v10.alloc (.cells #[.int .i64 fr, .slice ya n2 yc] 30) = V11 at *
        have HXH := hide hx
        have HB12 := hide hb11
        have HP2 := hide (HPH.out fr ya n2 yc lb HL1.out.2 HR2'.out)
        have HC2' := hide (HCC.out fr ya n2 yc lb HL1.out.2 HR2'.out)
        clear hx hb11 hbh HPH HCC
        have e0 := HXH.out.c0
        have e1 := HXH.out.c1
        have e2 := (HXK.out.below HB12.out).c4.2.2.1
        clear c0 c1 c2 c3 c6 c7 c8 HX4 HB11
        try clear c9 c10
        go_region_held3 (fun w' => w'.cell? ⟨bh, 0, none⟩ = some (.int .i64 fr) ∧ w'.cell? ⟨bh, 1, none⟩ = some (.slice ya n2 yc) ∧ w'.cell? ⟨w.heap.size, 2, none⟩ = some (.string key)) (go_keep)
          (first
            | (go_at_call 19; refine (HP2.out _ HB12.out.drew).mono ?_; rintro e v13 ⟨q, rfl, hq, hb13⟩; have HQP := hide hq; have HB13 := hide (Below.next HB12.out (undrewB hb13)); have f0 := (HXH.out.below (undrewB hb13)).c0; have f1 := (HXH.out.below (undrewB hb13)).c1; have f2 := (HXK.out.below HB13.out).c4.2.2.1; have HXI := hide (HXH.out.below (undrewB hb13)); clear hq hb13)
            | (go_at_call 20; refine (HC2'.out _ q HQP.out HB13.out).mono ?_; rintro e v14 ⟨rfl, hb14⟩; have HB14 := hide (Below.next HB13.out hb14); have f0 := (HXI.out.below hb14).c0; have f1 := (HXI.out.below hb14).c1; have f2 := (HXK.out.below HB14.out).c4.2.2.1; clear hb14))
        have hcc := HQT.out p q hle HP.out HQP.out
        rw [← HCHN.out] at hcc
        rw [← hcc]
        clear hcc
        go_wp2
        go_ret
        exact ⟨rfl, Below.next HOUT.out HB14.out⟩
      · have hle := Bool.eq_false_iff.2 hle
        rw [hle] at hge
        have hge : Op.bytesLess key.toList ky.toList = true := by simpa using hge
        have c7 := HX4.out.c0
        have c8 := HX4.out.c1
        go_wp2_with fail
        have hx := HX4.out
        have hb11 := HB11.out
        obtain ⟨bh, hbh⟩ : ∃ b, b = v10.heap.size := ⟨_, rfl⟩
        rw [← hbh] at hx ⊢
        generalize v10.alloc (.cells #[.int .i64 2, .slice xa n1 xc] 30) = V11 at *
        have HXH := hide hx
        have HB12 := hide hb11
        have HP2 := hide (HPH.out 2 xa n1 xc la HL1.out.1 HR1'.out)
        have HC2' := hide (HCC.out 2 xa n1 xc la HL1.out.1 HR1'.out)
        clear hx hb11 hbh HPH HCC
        have e0 := HXH.out.c0
        have e1 := HXH.out.c1
        have e2 := (HXK.out.below HB12.out).c4.2.2.1
        clear c0 c1 c2 c3 c6 c7 c8 HX4 HB11
        try clear c9 c10
        go_region_held3 (fun w' => w'.cell? ⟨bh, 0, none⟩ = some (.int .i64 2) ∧ w'.cell? ⟨bh, 1, none⟩ = some (.slice xa n1 xc) ∧ w'.cell? ⟨w.heap.size, 2, none⟩ = some (.string key)) (go_keep)
          (first
            | (go_at_call 19; refine (HP2.out _ HB12.out.drew).mono ?_; rintro e v13 ⟨q, rfl, hq, hb13⟩; have HQP := hide hq; have HB13 := hide (Below.next HB12.out (undrewB hb13)); have f0 := (HXH.out.below (undrewB hb13)).c0; have f1 := (HXH.out.below (undrewB hb13)).c1; have f2 := (HXK.out.below HB13.out).c4.2.2.1; have HXI := hide (HXH.out.below (undrewB hb13)); clear hq hb13)
            | (go_at_call 20; refine (HC2'.out _ q HQP.out HB13.out).mono ?_; rintro e v14 ⟨rfl, hb14⟩; have HB14 := hide (Below.next HB13.out hb14); have f0 := (HXI.out.below hb14).c0; have f1 := (HXI.out.below hb14).c1; have f2 := (HXK.out.below HB14.out).c4.2.2.1; clear hb14))
        have hcc := HQF.out p q hle HP.out HQP.out
        rw [← HCHN.out] at hcc
        rw [← hcc]
        clear hcc
        go_wp2
        go_ret
        exact ⟨rfl, Below.next HOUT.out HB14.out⟩

end Go.Proofs.YtagldlchamlpdabDoor
