import Derived.Test.YtagldlchamlpdabDoorBMadeM
import Derived.Test.YtagldlchamlpdabDoorBDec3
import Derived.Test.YtagldlchamlpdabDoorBEncode
import Derived.Test.YtagldlchamlpdabDoorBSame
import Derived.Test.YtagldlchamlpdabDoorLErrB
import Derived.Test.YtagldlchamlpdabDoorLErr2
namespace Go.Proofs.YtagldlchamlpdabDoor
open Go.RowKit

theorem RowAt.c4 {w : World} {b : Nat} {x0 x1 x2 x3 : Value} {t : TypeId} (h : RowAt w b #[x0, x1, x2, x3] t) : w.cell? ⟨b, 0, none⟩ = some x0 ∧ w.cell? ⟨b, 1, none⟩ = some x1 ∧ w.cell? ⟨b, 2, none⟩ = some x2 ∧ w.cell? ⟨b, 3, none⟩ = some x3 :=
  ⟨h.cell 0 (by simp), h.cell 1 (by simp), h.cell 2 (by simp), h.cell 3 (by simp)⟩
theorem StrR.form {w : World} {v : Value} {T : List ByteArray} (h : StrR w v T) : ∃ a c, v = .slice a T.length c := by
  obtain ⟨a, c, rfl, _⟩ := h; exact ⟨a, c, rfl⟩

set_option maxRecDepth 20000 in
set_option maxHeartbeats 8000000 in
theorem back_any (A : Nat → Addr) (v : Value) (T : List ByteArray) (li ki : Int) (key : ByteArray) (w : World) (hT : T.length ≤ 8796093022207) (hr : StrR w v T) (hli : -9223372036854775808 ≤ li ∧ li ≤ 9223372036854775807) (hE : ErrsG 13 gAll A w) :
    Calls Tryd.prog 7 #[.agg #[v, .int .i64 li, .string key, .int .i64 ki]] w fun e w' => e = .returned (.bool true) ∧ Below w.heap.size w w' := by
  obtain ⟨a, cap, hv⟩ := hr.form
  subst hv
  obtain ⟨nT, hnT⟩ : ∃ n, n = T.length := ⟨_, rfl⟩
  rw [← hnT] at hr ⊢
  have q0 := below_new w (.cells #[.slice a nT cap, .int .i64 li, .string key, .int .i64 ki] 27)
  have x0 := RowAt.new w #[.slice a nT cap, .int .i64 li, .string key, .int .i64 ki] 27
  generalize hW0 : w.alloc (.cells #[.slice a nT cap, .int .i64 li, .string key, .int .i64 ki] 27) = W0 at *
  have HX := hide x0
  have HQ := hide q0
  have HE := hide (hE.keep q0)
  have HR := hide (hr.below q0)
  obtain ⟨p0, p1, _, _⟩ := x0.c4
  have q5 := below_new W0 (.cells #[.int .i64 0, .slice none 0 0] 30)
  have x5 := RowAt.new W0 #[.int .i64 0, .slice none 0 0] 30
  have s5 : (W0.alloc (.cells #[.int .i64 0, .slice none 0 0] 30)).heap.size = W0.heap.size + 1 := by simp
  generalize hW5 : W0.alloc (.cells #[.int .i64 0, .slice none 0 0] 30) = W5 at *
  have HX5 := hide x5
  have HQ5 := hide q5
  obtain ⟨z0, z1, _, _⟩ := (x0.below q5).c4
  have HS5 : Hid (W5.heap.size = W0.heap.size + 1 ∧ w.heap.size < W0.heap.size) := ⟨s5, x0.lt⟩
  have b1 : ¬ w.heap.size = W0.heap.size := by have := HS5.out; omega
  have b2 : ¬ W0.heap.size = w.heap.size := by have := HS5.out; omega
  have HPK : Hid (∀ W, Calls Tryd.prog 15 #[.int .i64 li, .int .i64 500] W fun e w' => ∃ k : Nat, k < 500 ∧ e = .returned (.int .i64 (k : Int)) ∧ W = w') := fun W => kpick_any li 500 W (by decide) (by decide) hli
  have HMD : Hid (∀ (m : Nat) W, m ≤ 500 → Below W0.heap.size W0 W → Calls Tryd.prog 14 #[.slice a nT cap, .int .i64 (m : Int), .int .i64 4072] W fun e w' => ∃ (k : Nat) (ua : Option Addr) (uc : Nat), e = .returned (.agg #[.int .i64 2, .slice ua k uc]) ∧ LkO w' W.heap.size (.slice ua k uc) (linksTo T k) ∧ (1 ≤ m → 1 ≤ k ∧ k ≤ 500 ∧ szB (linksTo T k) ≤ 4072) ∧ Below W.heap.size W w') := fun m W hm h => by
    refine (made_any _ T m 4072 W (by omega) (by omega) ⟨by decide, by decide⟩ (HR.out.below h)).mono ?_
    rintro e w' ⟨k, u, rfl, ho, hk1, hk2, hk3, hb⟩
    obtain ⟨ua, uc, hu⟩ := ho.form
    rw [linksTo_len] at hu
    subst hu
    refine ⟨k, ua, uc, rfl, ho, fun hm1 => ⟨?_, by omega, by omega⟩, hb⟩
    rcases hk3 with h3 | h3
    · omega
    · have := szB_linksTo_le T (k + 1)
      rcases Nat.eq_zero_or_pos k with h0 | h0
      · subst h0; omega
      · exact h0
  have HNT := hide hnT
  clear hr hE q0 x0 q5 x5 s5 hT hli hnT
  go_enter Tryd.func7, Tryd.ntmps7
  go_wp2_with fail
  go_region_held3 (fun w' => w'.cell? ⟨w.heap.size, 0, none⟩ = some (.slice a nT cap) ∧ w'.cell? ⟨w.heap.size, 1, none⟩ = some (.int .i64 li)) (go_keep)
    (first
      | (go_at_call 15; refine (HPK.out _).mono ?_; rintro e wp ⟨kp, hkp, rfl, rfl⟩; obtain ⟨kq, hkq⟩ : ∃ kq, kq = kp + 1 := ⟨_, rfl⟩; have hwk : IntKind.i64.wrap (1 + (kp : Int)) = (kq : Int) := (by rw [IntKind.wrap_i64]; omega); have HKQ : Hid (1 ≤ kq ∧ kq ≤ 500) := (by show _ ∧ _; omega); clear hkp hkq)
      | (go_at_call 14; refine (HMD.out kq _ HKQ.out.2 ?_).mono ?_; (first | exact (Below.refl _ _).drew | exact HQ5.out.drew); rintro e w5 ⟨k, ua, uc, rfl, ho, hkk, hb⟩; have HO5 := hide ho; have HB5 := hide hb; have HKK := hide (hkk HKQ.out.1); have m0 : w5.cell? ⟨w.heap.size, 0, none⟩ = some (.slice a nT cap) := (by first | exact ((HX.out.below HQ5.out).drew.below hb).c4.1 | exact (HX.out.drew.below hb).c4.1); have m1 : w5.cell? ⟨w.heap.size, 1, none⟩ = some (.int .i64 li) := (by first | exact ((HX.out.below HQ5.out).drew.below hb).c4.2.1 | exact (HX.out.drew.below hb).c4.2.1); try (have m2 := (HX5.out.drew.below hb).c0; have m3 := (HX5.out.drew.below hb).c1; have m4 := (HX5.out.drew.below hb).free 0; have m5 := (HX5.out.drew.below hb).free 1); have m6 := World.new_ne w5 _ m0; clear ho hb hkk))
  all_goals first
    | (have hx := RowAt.new w5 #[.int .i64 2, .slice ua k uc] 30
       have hq := below_new w5 (.cells #[.int .i64 2, .slice ua k uc] 30)
       have hb7 : Below W0.heap.size W0 (w5.alloc (.cells #[.int .i64 2, .slice ua k uc] 30)) := Below.next (undrewB HB5.out) hq
       have ho7 : LkO (w5.alloc (.cells #[.int .i64 2, .slice ua k uc] 30)) W0.heap.size (.slice ua k uc) (linksTo T k) := HO5.out.below hq
       generalize w5.alloc (.cells #[.int .i64 2, .slice ua k uc] 30) = W7 at *
       obtain ⟨B3, hB9⟩ : ∃ B, B = w5.heap.size := ⟨_, rfl⟩
       rw [← hB9] at hx ⊢
       clear hq)
    | (have hx := ((HX5.out.drew.below HB5.out).two (.int .i64 2) (.slice ua k uc))
       have hb7 : Below W0.heap.size W0 ((w5.setCell ⟨W0.heap.size, 0, none⟩ (.int .i64 2)).setCell ⟨W0.heap.size, 1, none⟩ (.slice ua k uc)) := below_two (Below.next HQ5.out (undrewB HB5.out)) (Nat.le_refl _)
       have ho7 : LkO ((w5.setCell ⟨W0.heap.size, 0, none⟩ (.int .i64 2)).setCell ⟨W0.heap.size, 1, none⟩ (.slice ua k uc)) W0.heap.size (.slice ua k uc) (linksTo T k) := (HO5.out.put2 (g := W0.heap.size) (by have := HS5.out; show W0.heap.size < W5.heap.size; omega) (.int .i64 2) (.slice ua k uc)).mono (by have := HS5.out; show W0.heap.size ≤ W5.heap.size; omega)
       generalize (w5.setCell ⟨W0.heap.size, 0, none⟩ (.int .i64 2)).setCell ⟨W0.heap.size, 1, none⟩ (.slice ua k uc) = W7 at *
       obtain ⟨B3, hB9⟩ : ∃ B, B = W0.heap.size := ⟨_, rfl⟩
       rw [← hB9] at hx ⊢)
  all_goals
    have HX7 := hide hx
    have HB7 := hide hb7
    have HO7 := hide ho7
    clear hx hb7 ho7 hB9
    try clear m2 m3 m4 m5
    try clear m6
    clear m0 m1 HMD HPK b1 b2 z0 z1 p0 p1 HO5 HB5 HX5 HQ5 hW5 HS5 hwk HKQ
    obtain ⟨l, hl⟩ : ∃ l, l = linksTo T k := ⟨_, rfl⟩
    have hll : l.length = k := by rw [hl]; exact linksTo_len T k
    have hok : OkK l := by rw [hl]; exact linksTo_ok T k
    have hct : chkB 2 l true = none := by rw [hl, chkB_made T k true HKK.out.1 (by have := HKK.out; omega), if_neg (by have := HKK.out; omega), if_neg (by simp)]
    have hcf : chkB 2 l false = if szB l < 1777 then some 3 else none := by
      rw [hl, chkB_made T k false HKK.out.1 (by have := HKK.out; omega), if_neg (by have := HKK.out; omega)]
      simp
    have hsz : szB l ≤ 4072 := by rw [hl]; exact HKK.out.2.2
    rw [← hl] at HO7
    have hkb : k ≤ 500 := HKK.out.2.1
    have hk1 : 1 ≤ k := HKK.out.1
    have HRL := hide HO7.out.at
    obtain ⟨sb, hsb⟩ : ∃ s, s = encK 2 l := ⟨_, rfl⟩
    have hsl : sb.data.toList = layL (cellsK 2 l) := by rw [hsb]; simp [encK]
    have hssz : sb.size = 4072 := by rw [← bsize, hsl, layL_len _ (by rw [size_cellsK]; exact hsz)]
    obtain ⟨hd1, hd2, hd3⟩ := enc_decB hct
    rw [← hsl, hll] at hd1 hd2 hd3
    have hdo : ∀ m : Nat, m ≠ k + 1 → ¬ DecB m sb.data.toList := fun m hm hd => by
      rw [hsl] at hd
      have := decB_one hct hd
      rw [hll] at this
      exact hm this
    obtain ⟨q, hq⟩ : ∃ q, q = k + 1 := ⟨_, rfl⟩
    obtain ⟨q2, hq2⟩ : ∃ q, q = k + 2 := ⟨_, rfl⟩
    have wq : IntKind.i64.wrap ((k : Int) + 1) = (q : Int) := by rw [IntKind.wrap_i64]; omega
    have wq2 : IntKind.i64.wrap ((q : Int) + 1) = (q2 : Int) := by rw [IntKind.wrap_i64]; omega
    have wk : IntKind.i64.wrap ((q : Int) - 1) = (k : Int) := by rw [IntKind.wrap_i64]; omega
    have HC1 : Hid (∀ W, Below W7.heap.size W7 W → Calls Tryd.prog 11 #[.agg #[.int .i64 2, .slice ua k uc], .bool true] W fun e w' => e = .returned .nilIface ∧ Below W.heap.size W w') := fun W h => by
      have := bcheck_any A 2 _ l true W hok (by omega) (HRL.out.below h) (errK_all (HE.out.keep (Below.next HB7.out h)))
      rw [hct] at this
      exact this
    have HC2 : Hid (∀ W, Below W7.heap.size W7 W → Calls Tryd.prog 11 #[.agg #[.int .i64 2, .slice ua k uc], .bool false] W fun e w' => e = .returned (errV A (if szB l < 1777 then some 3 else none)) ∧ Below W.heap.size W w') := fun W h => by
      have := bcheck_any A 2 _ l false W hok (by omega) (HRL.out.below h) (errK_all (HE.out.keep (Below.next HB7.out h)))
      rw [hcf] at this
      exact this
    have HEN : Hid (∀ W, Below W7.heap.size W7 W → Calls Tryd.prog 12 #[.agg #[.int .i64 2, .slice ua k uc]] W fun e w' => e = .returned (.tuple #[.string sb, .nilIface]) ∧ Below W.heap.size W w') := fun W h => by
      refine (benc_any A 2 _ l W hok (by omega) (HRL.out.below h) (errK_all (HE.out.keep (Below.next HB7.out h)))).mono ?_
      rintro e w' ⟨hv, hb⟩
      rcases hv with ⟨_, rfl⟩ | ⟨k', h1, _⟩
      · exact ⟨by rw [hsb], hb⟩
      · rw [hct] at h1; cases h1
    have HD1 : Hid (∀ W, Below W7.heap.size W7 W → Calls Tryd.prog 8 #[.int .i64 (q : Int), .string sb] W fun e w' => ∃ xa xc, e = .returned (.tuple #[.agg #[.int .i64 2, .slice xa k xc], .nilIface]) ∧ LkR w' (.slice xa k xc) l ∧ Below W.heap.size W w') := fun W h => by
      refine (bdec_any A (q : Int) sb W (errK_all (HE.out.keep (Below.next HB7.out h)))).mono ?_
      rintro e w' ⟨hv, hb⟩
      rcases hv with ⟨_, _, u, rfl, ho⟩ | ⟨hn, _⟩
      · rw [Int.toNat_natCast, hq, hd3] at ho
        obtain ⟨xa, xc, hu⟩ := ho.form
        rw [hll] at hu
        subst hu
        exact ⟨xa, xc, by rw [Int.toNat_natCast, hq, hd2], ho.at, hb⟩
      · exact absurd ⟨by omega, by rw [Int.toNat_natCast, hq]; exact hd1⟩ hn
    have HD2 : Hid (∀ (m : Nat) W, m ≠ k + 1 → Below W7.heap.size W7 W → Calls Tryd.prog 8 #[.int .i64 (m : Int), .string sb] W fun e w' => e = .returned (.tuple #[.agg #[.int .i64 0, .slice none 0 0], .iface 167 (.pointer (some (A 1)))]) ∧ Below W.heap.size W w') := fun m W hm h => by
      refine (bdec_any A (m : Int) sb W (errK_all (HE.out.keep (Below.next HB7.out h)))).mono ?_
      rintro e w' ⟨hv, hb⟩
      rcases hv with ⟨_, hd, _⟩ | ⟨_, rfl⟩
      · rw [Int.toNat_natCast] at hd
        exact absurd hd (hdo m hm)
      · exact ⟨rfl, hb⟩
    have HSZ : Hid (∀ W, Below W7.heap.size W7 W → Calls Tryd.prog 26 #[.agg #[.int .i64 2, .slice ua k uc]] W fun e w' => e = .returned (.int .i64 (szB l : Int)) ∧ Below W.heap.size W w') := fun W h => by
      have := bsize_any 2 _ l W hok (by omega) (HRL.out.below h)
      rw [wsz_small (by omega)] at this
      exact this
    have HNM : Hid (∀ W, Below W7.heap.size W7 W → Calls Tryd.prog 10 #[.iface 167 (.pointer (some (A 1)))] W fun e w' => e = .returned (.int .i64 2) ∧ W = w') := fun W h => num_text A W ((HE.out.keep (Below.next HB7.out h)).weak (by decide))
    have HLB : Hid (l.length ≤ 140737488355328) := by show _ ≤ _; omega
    have HQ1 : Hid (q2 ≠ k + 1 ∧ k ≠ k + 1) := ⟨by omega, by omega⟩
    obtain ⟨sz, hszl⟩ : ∃ s, s = szB l := ⟨_, rfl⟩
    rw [← hszl] at HC2 HSZ
    have hlenb : ((sb.size : Int) != 4072) = false := by rw [hssz]; decide
    have hssI : (sb.size : Int) = 4072 := by omega
    have p0 := HX7.out.c0
    have p1 := HX7.out.c1
    clear hl hll hok hct hcf hsz hsb hsl hssz hd1 hd2 hd3 hdo hq hq2 hszl HKK
    go_wp2_with fail
    refine (HC1.out _ (Below.refl _ _)).mono ?_
    rintro e w8 ⟨rfl, hb8⟩
    have HB8 := hide hb8
    clear hb8 HC1 p0 p1
    have p0 := (HX7.out.below HB8.out).c0
    have p1 := (HX7.out.below HB8.out).c1
    go_wp2_with fail
    refine (HEN.out _ HB8.out).mono ?_
    rintro e w9 ⟨rfl, hb9⟩
    have HB9 := hide (Below.next HB8.out hb9)
    clear hb9 HEN p0 p1 HB8
    go_wp2_with fail
    refine (HD1.out _ HB9.out).mono ?_
    rintro e w10 ⟨xa, xc, rfl, hrx, hb10⟩
    have q3 := below_new w10 (.cells #[.int .i64 2, .slice xa k xc] 30)
    have x3 := RowAt.new w10 #[.int .i64 2, .slice xa k xc] 30
    generalize hW10 : w10.alloc (.cells #[.int .i64 2, .slice xa k xc] 30) = W10 at *
    have HB10 := hide (Below.next HB9.out (Below.next hb10 q3))
    have HRX := hide (hrx.below q3)
    have p0 := (HX7.out.below HB10.out).c0
    have p1 := (HX7.out.below HB10.out).c1
    have p2 := x3.c0
    have p3 := x3.c1
    clear hb10 q3 x3 hrx HD1 HB9
    go_wp2_with fail
    refine (sameb_same 2 _ _ l W10 HLB.out (HRL.out.below HB10.out) HRX.out).mono ?_
    rintro e w11 ⟨rfl, hb11⟩
    have HB11 := hide (Below.next HB10.out hb11)
    clear hb11 p0 p1 p2 p3 HB10 HRX
    go_wp2_with fail
    refine (HD2.out q2 _ HQ1.out.1 HB11.out).mono ?_
    rintro e w12 ⟨rfl, hb12⟩
    have q3 := below_new w12 (.cells #[.int .i64 0, .slice none 0 0] 30)
    have HB12 := hide (Below.next HB11.out (Below.next hb12 q3))
    clear hb12 q3 HB11
    go_wp2_with fail
    generalize w12.alloc (.cells #[.int .i64 0, .slice none 0 0] 30) = W12 at *
    refine (HD2.out k _ HQ1.out.2 HB12.out).mono ?_
    rintro e w13 ⟨rfl, hb13⟩
    have q3 := below_new w13 (.cells #[.int .i64 0, .slice none 0 0] 30)
    have HB13 := hide (Below.next HB12.out (Below.next hb13 q3))
    clear hb13 q3 HB12 HD2
    have p0 := (HX7.out.below HB13.out).c0
    have p1 := (HX7.out.below HB13.out).c1
    go_wp2_with fail
    generalize w13.alloc (.cells #[.int .i64 0, .slice none 0 0] 30) = W13 at *
    refine (HSZ.out _ HB13.out).mono ?_
    rintro e w14 ⟨rfl, hb14⟩
    have HB14 := hide (Below.next HB13.out hb14)
    clear hb14 p0 p1 HSZ HB13
    have p0 := (HX7.out.below HB14.out).c0
    have p1 := (HX7.out.below HB14.out).c1
    go_wp2_with fail
    refine (HC2.out _ HB14.out).mono ?_
    rintro e w15 ⟨rfl, hb15⟩
    have HB15 := hide (Below.next HB14.out hb15)
    clear hb15 p0 p1 HC2 HB14
    have HN1 := hide (HNM.out _ HB15.out)
    have HBF := hide (Below.next HQ.out (Below.next HB7.out HB15.out))
    clear HNM
    by_cases hs : sz < 1777
    · rw [if_pos hs]
      have hsI : ¬ (1777 : Int) ≤ (sz : Int) := by omega
      have hnn := fun W => iface_eq_nil (some (A 3)) W
      unfold errV
      go_wp2_with fail
      refine HN1.out.mono ?_
      rintro e w16 ⟨rfl, rfl⟩
      go_wp2_with fail
      refine HN1.out.mono ?_
      rintro e w17 ⟨rfl, rfl⟩
      go_wp2
      go_ret
      exact ⟨rfl, HBF.out⟩
    · rw [if_neg hs]
      have hsI : (1777 : Int) ≤ (sz : Int) := by omega
      unfold errV
      go_wp2_with fail
      refine HN1.out.mono ?_
      rintro e w16 ⟨rfl, rfl⟩
      go_wp2_with fail
      refine HN1.out.mono ?_
      rintro e w17 ⟨rfl, rfl⟩
      go_wp2
      go_ret
      exact ⟨rfl, HBF.out⟩

end Go.Proofs.YtagldlchamlpdabDoor
