import Derived.Test.YtagldlchamlpdaaDoorBMadeM
import Derived.Test.YtagldlchamlpdaaDoorBSame
import Derived.Test.YtagldlchamlpdaaDoorBInsF
import Derived.Test.YtagldlchamlpdaaDoorBPutF
import Derived.Test.YtagldlchamlpdaaDoorBEditM
namespace Go.Proofs.YtagldlchamlpdaaDoor
open Go.RowKit

theorem text_eq (x : ByteArray) : (x.toList == x.toList) = true := by simp

theorem RowAt.c4 {w : World} {b : Nat} {x0 x1 x2 x3 : Value} {t : TypeId} (h : RowAt w b #[x0, x1, x2, x3] t) : w.cell? ⟨b, 0, none⟩ = some x0 ∧ w.cell? ⟨b, 1, none⟩ = some x1 ∧ w.cell? ⟨b, 2, none⟩ = some x2 ∧ w.cell? ⟨b, 3, none⟩ = some x3 :=
  ⟨h.cell 0 (by simp), h.cell 1 (by simp), h.cell 2 (by simp), h.cell 3 (by simp)⟩
theorem StrR.form {w : World} {v : Value} {T : List ByteArray} (h : StrR w v T) : ∃ a c, v = .slice a T.length c := by
  obtain ⟨a, c, rfl, _⟩ := h; exact ⟨a, c, rfl⟩

set_option maxRecDepth 20000 in
set_option maxHeartbeats 40000000 in
theorem edit_any (A : Nat → Addr) (v : Value) (T : List ByteArray) (li ki : Int) (key : ByteArray) (w : World) (hT : T.length ≤ 8796093022207) (hr : StrR w v T) (hli : -9223372036854775808 ≤ li ∧ li ≤ 9223372036854775807) (hki : -9223372036854775808 ≤ ki ∧ ki ≤ 9223372036854775807) (hE : ErrA A w) :
    Calls Tryd.prog 3 #[.agg #[v, .int .i64 li, .string key, .int .i64 ki]] w fun e w' => e = .returned (.bool true) ∧ Below w.heap.size w w' := by
  obtain ⟨a, cap, hv⟩ := hr.form
  subst hv
  obtain ⟨nT, hnT⟩ : ∃ n, n = T.length := ⟨_, rfl⟩
  rw [← hnT] at hr ⊢
  have q0 := below_new w (.cells #[.slice a nT cap, .int .i64 li, .string key, .int .i64 ki] 24)
  have x0 := RowAt.new w #[.slice a nT cap, .int .i64 li, .string key, .int .i64 ki] 24
  generalize hW0 : w.alloc (.cells #[.slice a nT cap, .int .i64 li, .string key, .int .i64 ki] 24) = W0 at *
  have HX := hide x0
  have HQ := hide q0
  have HE := hide (hE.below q0)
  have HR := hide (hr.below q0)
  obtain ⟨p0, p1, _, _⟩ := x0.c4
  have q5 := below_new W0 (.cells #[.int .i64 0, .slice none 0 0] 27)
  have x5 := RowAt.new W0 #[.int .i64 0, .slice none 0 0] 27
  have s5 : (W0.alloc (.cells #[.int .i64 0, .slice none 0 0] 27)).heap.size = W0.heap.size + 1 := by simp
  generalize hW5 : W0.alloc (.cells #[.int .i64 0, .slice none 0 0] 27) = W5 at *
  have HX5 := hide x5
  have HQ5 := hide q5
  obtain ⟨z0, z1, _, _⟩ := (x0.below q5).c4
  have HS5 : Hid (W5.heap.size = W0.heap.size + 1 ∧ w.heap.size < W0.heap.size) := ⟨s5, x0.lt⟩
  have b1 : ¬ w.heap.size = W0.heap.size := by have := HS5.out; omega
  have b2 : ¬ W0.heap.size = w.heap.size := by have := HS5.out; omega
  have HPK : Hid (∀ W, Calls Tryd.prog 10 #[.int .i64 li, .int .i64 60] W fun e w' => ∃ k : Nat, k < 60 ∧ e = .returned (.int .i64 (k : Int)) ∧ W = w') := fun W => kpick_any li 60 W (by decide) (by decide) hli
  have HMD : Hid (∀ (m : Nat) W, m ≤ 60 → Below W0.heap.size W0 W → Calls Tryd.prog 9 #[.slice a nT cap, .int .i64 (m : Int), .int .i64 4072] W fun e w' => ∃ (k : Nat) (ua : Option Addr) (uc : Nat), e = .returned (.agg #[.int .i64 2, .slice ua k uc]) ∧ LkO w' W.heap.size (.slice ua k uc) (linksTo T k) ∧ (1 ≤ m → k ≤ 60 ∧ szB (linksTo T k) ≤ 4072) ∧ Below W.heap.size W w') := fun m W hm h => by
    refine (made_any _ T m 4072 W (by omega) (by omega) ⟨by decide, by decide⟩ (HR.out.below h)).mono ?_
    rintro e w' ⟨k, u, rfl, ho, hk1, hk2, hk3, hb⟩
    obtain ⟨ua, uc, hu⟩ := ho.form
    rw [linksTo_len] at hu
    subst hu
    exact ⟨k, ua, uc, rfl, ho, fun hm1 => ⟨by omega, by omega⟩, hb⟩
  have HNT := hide hnT
  have HKI := hide hki
  clear hr hE q0 x0 q5 x5 s5 hT hli hki hnT
  go_enter Tryd.func3, Tryd.ntmps3
  go_wp2_with fail
  go_region_held3 (fun w' => w'.cell? ⟨w.heap.size, 0, none⟩ = some (.slice a nT cap) ∧ w'.cell? ⟨w.heap.size, 1, none⟩ = some (.int .i64 li)) (go_keep)
    (first
      | (go_at_call 10; refine (HPK.out _).mono ?_; rintro e wp ⟨kp, hkp, rfl, rfl⟩; obtain ⟨kq, hkq⟩ : ∃ kq, kq = kp + 1 := ⟨_, rfl⟩; have hwk : IntKind.i64.wrap (1 + (kp : Int)) = (kq : Int) := (by rw [IntKind.wrap_i64]; omega); have HKQ : Hid (1 ≤ kq ∧ kq ≤ 60) := (by show _ ∧ _; omega); clear hkp hkq)
      | (go_at_call 9; refine (HMD.out kq _ HKQ.out.2 ?_).mono ?_; (first | exact (Below.refl _ _).drew | exact HQ5.out.drew); rintro e w5 ⟨k, ua, uc, rfl, ho, hkk, hb⟩; have HO5 := hide ho; have HB5 := hide hb; have HKK := hide (hkk HKQ.out.1); have m0 : w5.cell? ⟨w.heap.size, 0, none⟩ = some (.slice a nT cap) := (by first | exact ((HX.out.below HQ5.out).drew.below hb).c4.1 | exact (HX.out.drew.below hb).c4.1); have m1 : w5.cell? ⟨w.heap.size, 1, none⟩ = some (.int .i64 li) := (by first | exact ((HX.out.below HQ5.out).drew.below hb).c4.2.1 | exact (HX.out.drew.below hb).c4.2.1); try (have m2 := (HX5.out.drew.below hb).c0; have m3 := (HX5.out.drew.below hb).c1; have m4 := (HX5.out.drew.below hb).free 0; have m5 := (HX5.out.drew.below hb).free 1); have m6 := World.new_ne w5 _ m0; clear ho hb hkk))
  all_goals first
    | (have hx := RowAt.new w5 #[.int .i64 2, .slice ua k uc] 27
       have hq := below_new w5 (.cells #[.int .i64 2, .slice ua k uc] 27)
       have hb7 : Below W0.heap.size W0 (w5.alloc (.cells #[.int .i64 2, .slice ua k uc] 27)) := Below.next (undrewB HB5.out) hq
       have ho7 : LkO (w5.alloc (.cells #[.int .i64 2, .slice ua k uc] 27)) W0.heap.size (.slice ua k uc) (linksTo T k) := HO5.out.below hq
       generalize w5.alloc (.cells #[.int .i64 2, .slice ua k uc] 27) = W7 at *
       obtain ⟨B3, hB9⟩ : ∃ B, B = w5.heap.size := ⟨_, rfl⟩
       rw [← hB9] at hx ⊢
       clear hq)
    | (have hx := ((HX5.out.drew.below HB5.out).two (.int .i64 2) (.slice ua k uc))
       have hb7 : Below W0.heap.size W0 ((w5.setCell ⟨W0.heap.size, 0, none⟩ (.int .i64 2)).setCell ⟨W0.heap.size, 1, none⟩ (.slice ua k uc)) := below_two (Below.next HQ5.out (undrewB HB5.out)) (Nat.le_refl _)
       have ho7 : LkO ((w5.setCell ⟨W0.heap.size, 0, none⟩ (.int .i64 2)).setCell ⟨W0.heap.size, 1, none⟩ (.slice ua k uc)) W0.heap.size (.slice ua k uc) (linksTo T k) := (HO5.out.put2 (g := W0.heap.size) (by have := HS5.out; show W0.heap.size < W5.heap.size; omega) (.int .i64 2) (.slice ua k uc)).mono (by have := HS5.out; show W0.heap.size ≤ W5.heap.size; omega)
       generalize (w5.setCell ⟨W0.heap.size, 0, none⟩ (.int .i64 2)).setCell ⟨W0.heap.size, 1, none⟩ (.slice ua k uc) = W7 at *
       obtain ⟨B3, hB9⟩ : ∃ B, B = W0.heap.size := ⟨_, rfl⟩
       rw [← hB9] at hx ⊢)
  all_goals
    have HX7 := hide hx
    have HB7 := hide hb7
    have HO7 := hide ho7
    clear hx hb7 ho7 hB9
    try clear m2 m3 m4 m5
    try clear m6
    clear m0 m1 HMD HPK b1 b2 z0 z1 p0 p1 HO5 HB5 HX5 HQ5 hW5 HS5 hwk HKQ
    obtain ⟨l, hl⟩ : ∃ l, l = linksTo T k := ⟨_, rfl⟩
    have hll : l.length = k := by rw [hl]; exact linksTo_len T k
    rw [← hl] at HO7
    have hkb : k ≤ 60 := HKK.out.1
    have HRL := hide HO7.out.at
    have HLL := hide hll
    have HXW := hide (HX.out.below HB7.out)
    have HEW := hide (HE.out.below HB7.out)
    have HBO := hide (Below.next HQ.out HB7.out)
    have hw0 : IntKind.i64.wrap ((k : Int) + 1) = ((k + 1 : Nat) : Int) := by rw [IntKind.wrap_i64]; omega
    have p0 := HX7.out.c0
    have p1 := HX7.out.c1
    have p2 := HXW.out.c4.2.2.2
    have HPI := hide (kpick_any ki (k + 1) W7 (by omega) (by omega) HKI.out)
    clear hl hll HKK HO7
    go_wp2_with fail
    clear p0 p1 p2
    refine HPI.out.mono ?_
    rintro e v1 ⟨i, hi, rfl, rfl⟩
    have HI : Hid (i ≤ l.length ∧ l.length ≤ 60) := ⟨by have := HLL.out; omega, by have := HLL.out; omega⟩
    have hik : i ≤ k := by omega
    clear hi HPI hw0
    have HC1 : Hid (hasC l (i : Int) = true) := by
      have := HI.out
      show _ = _
      simp only [hasC, Bool.and_eq_true, decide_eq_true_eq]
      omega
    obtain ⟨l1, hl1⟩ : ∃ x, x = insL l i (key, 9999) := ⟨_, rfl⟩
    have hlen1 : l1.length = k + 1 := by rw [hl1, insL_len l i _ HI.out.1, HLL.out]
    have HC2 : Hid (hasC l1 ((i : Int) + 1) = true) := by
      have := HI.out
      show _ = _
      simp only [hasC, Bool.and_eq_true, decide_eq_true_eq]
      omega
    have HC3 : Hid (hasLk l1 (i : Int) = true) := by
      have := HI.out
      show _ = _
      simp only [hasLk, Bool.and_eq_true, decide_eq_true_eq]
      omega
    have HCN : Hid (childN 2 l1 ((i : Int) + 1) = 9999) := by show _ = _; rw [hl1]; exact childN_ins 2 l i (key, 9999) HI.out.1
    have HRM : Hid (remL l1 i = l) := by show _ = _; rw [hl1]; exact remL_insL l i (key, 9999) HI.out.1
    have HAT : Hid (∃ h : i < l1.length, l1[i].1 = key) := by
      have h := insL_at l i (key, 9999) HI.out.1
      rw [← hl1, List.getElem?_eq_some_iff] at h
      obtain ⟨h1, h2⟩ := h
      exact ⟨h1, by rw [h2]⟩
    have HLE1 := hide hlen1
    have HIN : Hid (Calls Tryd.prog 11 #[.agg #[.int .i64 2, .slice ua k uc], .int .i64 (i : Int), .agg #[.string key, .int .i64 9999]] W7 fun e w' => ∃ va vc, e = .returned (.tuple #[.agg #[.int .i64 2, .slice va (k + 1) vc], .nilIface]) ∧ LkO w' W7.heap.size (.slice va (k + 1) vc) l1 ∧ Below W7.heap.size W7 w') := by
      refine (binsA_any A 2 (i : Int) _ l key 9999 W7 (by have := HLL.out; omega) HRL.out HEW.out).mono ?_
      rintro e w' ⟨hv, hb⟩
      rcases hv with ⟨_, u, rfl, ho⟩ | ⟨hg, _⟩
      · rw [Int.toNat_natCast, ← hl1] at ho
        obtain ⟨va, vc, hu⟩ := ho.form
        rw [hlen1] at hu
        subst hu
        exact ⟨va, vc, rfl, ho, hb⟩
      · rw [HC1.out] at hg; cases hg
    have p0 := HX7.out.c0
    have p1 := HX7.out.c1
    have p2 := HXW.out.c4.2.2.1
    clear hl1 hlen1
    go_wp2_with fail
    clear p0 p1 p2
    refine HIN.out.mono ?_
    rintro e v2 ⟨va, vc, rfl, ho2, hb2⟩
    have q2 := below_new v2 (.cells #[.int .i64 2, .slice va (k + 1) vc] 27)
    have x2 := RowAt.new v2 #[.int .i64 2, .slice va (k + 1) vc] 27
    have HB3 := hide (Below.next hb2 q2)
    have HO3 := hide (ho2.below q2)
    have HX3 := hide x2
    have p0 := x2.c0
    have p1 := x2.c1
    have hw1 : IntKind.i64.wrap ((i : Int) + 1) = (i : Int) + 1 := by rw [IntKind.wrap_i64]; omega
    clear ho2 hb2 q2 x2 HIN
    go_wp2_with fail
    clear p0 p1 hw1
    generalize v2.alloc (.cells #[.int .i64 2, .slice va (k + 1) vc] 27) = W3 at *
    obtain ⟨ba, hba⟩ : ∃ b, b = v2.heap.size := ⟨_, rfl⟩
    rw [← hba] at HX3 ⊢
    clear hba
    have HCH : Hid (Calls Tryd.prog 12 #[.agg #[.int .i64 2, .slice va (k + 1) vc], .int .i64 ((i : Int) + 1)] W3 fun e w' => e = .returned (.tuple #[.int .i64 9999, .nilIface]) ∧ Below W3.heap.size W3 w') := by
      have h := bchildA_any A 2 ((i : Int) + 1) _ l1 W3 (by have := HLE1.out; omega) HO3.out.at (HEW.out.below HB3.out)
      unfold ChildV at h
      rw [if_pos HC2.out, HCN.out] at h
      exact h
    refine HCH.out.mono ?_
    rintro e v4 ⟨rfl, hb4⟩
    have HB4 := hide (Below.next HB3.out hb4)
    have HX4 := hide (HX3.out.below hb4)
    have HO4 := hide (HO3.out.below hb4)
    have p0 := HX4.out.c0
    have p1 := HX4.out.c1
    clear hb4 HCH HX3 HO3 HB3 HCN HC2
    go_wp2_with fail
    clear p0 p1
    have HRE : Hid (Calls Tryd.prog 13 #[.agg #[.int .i64 2, .slice va (k + 1) vc], .int .i64 (i : Int)] v4 fun e w' => ∃ vb vd, e = .returned (.tuple #[.agg #[.int .i64 2, .slice vb k vd], .nilIface]) ∧ LkO w' v4.heap.size (.slice vb k vd) l ∧ Below v4.heap.size v4 w') := by
      refine (bremA_any A 2 (i : Int) _ l1 v4 (by have := HLE1.out; omega) HO4.out.at (HEW.out.below HB4.out)).mono ?_
      rintro e w' ⟨hv, hb⟩
      rcases hv with ⟨_, u, rfl, ho⟩ | ⟨hg, _⟩
      · rw [Int.toNat_natCast, HRM.out] at ho
        obtain ⟨vb, vd, hu⟩ := ho.form
        rw [HLL.out] at hu
        subst hu
        exact ⟨vb, vd, rfl, ho, hb⟩
      · rw [HC3.out] at hg; cases hg
    refine HRE.out.mono ?_
    rintro e v5 ⟨vb, vd, rfl, ho5, hb5⟩
    have q5 := below_new v5 (.cells #[.int .i64 2, .slice vb k vd] 27)
    have x5 := RowAt.new v5 #[.int .i64 2, .slice vb k vd] 27
    have hb6 := Below.next hb5 q5
    have HB6 := hide (Below.next HB4.out hb6)
    have HX6 := hide (HX4.out.below hb6)
    have HO6 := hide (HO4.out.below hb6)
    have HRD := hide (ho5.below q5).at
    have p0 := x5.c0
    have p1 := x5.c1
    have p2 := (HX7.out.below HB6.out).c0
    have p3 := (HX7.out.below HB6.out).c1
    clear ho5 hb5 q5 x5 hb6 HRE HX4 HO4 HB4 HRM HC3
    go_wp2_with fail
    clear p0 p1 p2 p3
    generalize v5.alloc (.cells #[.int .i64 2, .slice vb k vd] 27) = W6 at *
    refine (sameb_same 2 _ _ l W6 (by have := HI.out; omega) HRD.out (HRL.out.below HB6.out)).mono ?_
    rintro e v7 ⟨rfl, hb7⟩
    have HB7b := hide (Below.next HB6.out hb7)
    have hx7 := HX6.out.below hb7
    have ho7 := HO6.out.below hb7
    obtain ⟨hi1, hkey⟩ := HAT.out
    obtain ⟨g, cc, hu, hbg, hgw, _⟩ := ho7.has (by omega)
    have hva : va = some ⟨g, 0, none⟩ := (Value.slice.inj hu).1
    subst hva
    have hown : v7.ownsRow W7.heap.size 35 2 (.slice (some ⟨g, 0, none⟩) (k + 1) vc) (k + 1) (lks l1) := by
      have := ho7
      unfold LkO at this
      rwa [HLE1.out] at this
    have z1 : v7.cell? ⟨g, i * 2, none⟩ = some (.string key) := by
      rw [World.ownsRow.cellAt hown (i * 2) (by omega), (lks_get l1 i hi1).1, hkey]
    have p0 := hx7.c0
    have p1 := hx7.c1
    have p2 := (HX7.out.below HB7b.out).c0
    have p3 := (HX7.out.below HB7b.out).c1
    have p4 := (HXW.out.below HB7b.out).c4.2.2.1
    have hw2 : IntKind.i64.wrap ((k : Int) + 1) = (k : Int) + 1 := by rw [IntKind.wrap_i64]; omega
    have hw3 : ((k : Int) + 1 != (k : Int) + 1) = false := by simp
    have hi2 : (i : Int) < (k : Int) + 1 := by omega
    have hi0 : (0 : Int) ≤ (i : Int) := by omega
    have htx := text_eq key
    clear hb7 hx7 ho7 hi1 hkey hu hbg hgw hown HB6 HX6 HO6 HRD HAT
    go_wp2_with fail
    go_quiet (fail)
    clear p0 p1 p2 p3 p4 z1 hw2 hw3 hi2 hi0
    have HB8 := hide (below_drewN' HB7b.out nq)
    generalize v7.drewN nq = V8 at *
    obtain ⟨f2, hf2⟩ : ∃ x, x = putF 2 i 8888 := ⟨_, rfl⟩
    obtain ⟨l2, hl2⟩ : ∃ x, x = putL l i 8888 := ⟨_, rfl⟩
    have hlen2 : l2.length = k := by rw [hl2, putL_len, HLL.out]
    have HPU : Hid (Calls Tryd.prog 15 #[.agg #[.int .i64 2, .slice ua k uc], .int .i64 (i : Int), .int .i64 8888] V8 fun e w' => ∃ ve vf, e = .returned (.tuple #[.agg #[.int .i64 f2, .slice ve k vf], .nilIface]) ∧ LkO w' V8.heap.size (.slice ve k vf) l2 ∧ Below V8.heap.size V8 w') := by
      refine (bputA_any A 2 (i : Int) 8888 _ l V8 (by have := HI.out; omega) (HRL.out.below HB8.out) (HEW.out.below HB8.out)).mono ?_
      rintro e w' ⟨hv, hb⟩
      rcases hv with ⟨_, u, rfl, ho⟩ | ⟨hg, _⟩
      · rw [Int.toNat_natCast, ← hl2] at ho
        obtain ⟨ve, vf, hu⟩ := ho.form
        rw [hlen2] at hu
        subst hu
        refine ⟨ve, vf, ?_, ho, hb⟩
        rw [Int.toNat_natCast, ← hf2]
      · rw [HC1.out] at hg; cases hg
    obtain ⟨was, hwas⟩ : ∃ g : Nat → Int, g = fun (kk : Nat) => childN 2 l (kk : Int) := ⟨_, rfl⟩
    obtain ⟨isn, hisn⟩ : ∃ g : Nat → Int, g = fun (kk : Nat) => childN f2 l2 (kk : Int) := ⟨_, rfl⟩
    have HW1 : Hid (isn i = 8888) := by show _ = _; rw [hisn, hf2, hl2]; exact childN_put_same 2 l i 8888 HI.out.1
    have HW2 : Hid (∀ kk, kk ≠ i → isn kk = was kk) := fun kk hne => by rw [hisn, hwas, hf2, hl2]; exact childN_put_ne 2 l i kk 8888 HI.out.1 hne
    have p0 := (HX7.out.below HB8.out).c0
    have p1 := (HX7.out.below HB8.out).c1
    have HLE2 := hide hlen2
    have HWAS := hide hwas
    have HISN := hide hisn
    clear hf2 hl2 hlen2 hwas hisn HB7b htx
    go_wp2_with fail
    clear p0 p1
    refine HPU.out.mono ?_
    rintro e v9 ⟨ve, vf, rfl, ho9, hb9⟩
    have q9 := below_new v9 (.cells #[.int .i64 f2, .slice ve k vf] 27)
    have x9 := RowAt.new v9 #[.int .i64 f2, .slice ve k vf] 27
    have HB10 := hide (Below.next HB8.out (Below.next hb9 q9))
    have HR9 := hide (ho9.below q9).at
    have HX9 := hide x9
    have HXB := hide (HX7.out.below HB10.out)
    have p0 := x9.c0
    have p1 := x9.c1
    have p2 := HXB.out.c0
    have p3 := HXB.out.c1
    have hkk : ((k : Int) != (k : Int)) = false := by simp
    clear ho9 hb9 q9 x9 HPU HB8
    go_wp2_with fail
    clear p0 p1 p2 p3 hkk
    generalize v9.alloc (.cells #[.int .i64 f2, .slice ve k vf] 27) = W10 at *
    obtain ⟨bc, hbc⟩ : ∃ b, b = v9.heap.size := ⟨_, rfl⟩
    rw [← hbc] at HX9 ⊢
    clear hbc
    have HCA : Hid (∀ W (kk : Nat), kk ≤ k → Below W10.heap.size W10 W → Calls Tryd.prog 12 #[.agg #[.int .i64 2, .slice ua k uc], .int .i64 (kk : Int)] W fun e w' => e = .returned (.tuple #[.int .i64 (was kk), .nilIface]) ∧ Below W.heap.size W w') := fun W kk hk h => by
      have h2 := bchildA_any A 2 (kk : Int) _ l W (by have := HI.out; omega) (HRL.out.below (Below.next HB10.out h)) (HEW.out.below (Below.next HB10.out h))
      unfold ChildV at h2
      rw [if_pos (by have := HLL.out; simp only [hasC, Bool.and_eq_true, decide_eq_true_eq]; omega)] at h2
      rw [HWAS.out]
      exact h2
    have HCB : Hid (∀ W (kk : Nat), kk ≤ k → Below W10.heap.size W10 W → Calls Tryd.prog 12 #[.agg #[.int .i64 f2, .slice ve k vf], .int .i64 (kk : Int)] W fun e w' => e = .returned (.tuple #[.int .i64 (isn kk), .nilIface]) ∧ Below W.heap.size W w') := fun W kk hk h => by
      have h2 := bchildA_any A f2 (kk : Int) _ l2 W (by have := HLE2.out; omega) (HR9.out.below h) (HEW.out.below (Below.next HB10.out h))
      unfold ChildV at h2
      rw [if_pos (by have := HLE2.out; simp only [hasC, Bool.and_eq_true, decide_eq_true_eq]; omega)] at h2
      rw [HISN.out]
      exact h2
    have HFIN := hide (Below.next HBO.out HB10.out)
    clear HWAS HISN HR9 HLE2 HLE1 HC1 HRL HB10 HXW HEW HBO HX7 HB7
    go_loopw [14] (fun j wr => ∃ kk : Nat, kk ≤ k + 1 ∧ j = .int .i64 (kk : Int) ∧ Below W10.heap.size W10 wr) (fun j _ => k + 1 - (intOf j).toNat)
    case atStart => exact ⟨0, Nat.zero_le _, rfl, Below.refl _ _⟩
    case round =>
      obtain ⟨kk, hkk, rfl, hbw⟩ := hrel
      by_cases hlt : kk ≤ k
      · have o0 := (HXB.out.below hbw).c0
        have o1 := (HXB.out.below hbw).c1
        have hleI : (kk : Int) ≤ (k : Int) := by omega
        have HBw := hide hbw
        clear hbw
        go_wp2_with fail
        clear o0 o1
        refine (HCA.out wr kk hlt HBw.out).mono ?_
        rintro e y1 ⟨rfl, hb1⟩
        have HBy := hide (Below.next HBw.out hb1)
        have o0 := (HX9.out.below HBy.out).c0
        have o1 := (HX9.out.below HBy.out).c1
        clear hb1 HBw
        go_wp2_with fail
        clear o0 o1
        refine (HCB.out y1 kk hlt HBy.out).mono ?_
        rintro e y2 ⟨rfl, hb2⟩
        have HBz := hide (Below.next HBy.out hb2)
        clear hb2 HBy
        by_cases hki : kk = i
        · subst hki
          rw [HW1.out]
          have e1 : ((kk : Int) == (kk : Int)) = true := by simp
          have e2 : ((kk : Int) != (kk : Int)) = false := by simp
          go_wp2
          go_roundw
          case rel => exact ⟨kk + 1, by omega, by go_num, HBz.out⟩
          case measure => simp [intOf]; omega
        · rw [HW2.out kk hki]
          obtain ⟨wv, hwv⟩ : ∃ x, x = was kk := ⟨_, rfl⟩
          rw [← hwv]
          have e1 : ((kk : Int) == (i : Int)) = false := by simp; omega
          have e2 : ((kk : Int) != (i : Int)) = true := by simp; omega
          have e3 : (wv != wv) = false := by simp
          have e4 : ¬ (kk : Int) = (i : Int) := by omega
          clear hwv
          go_wp2
          go_roundw
          case rel => exact ⟨kk + 1, by omega, by go_num, HBz.out⟩
          case measure => simp [intOf]; omega
      · have o0 := (HXB.out.below hbw).c0
        have o1 := (HXB.out.below hbw).c1
        have hleI : ¬ (kk : Int) ≤ (k : Int) := by omega
        have HBw := hide hbw
        clear hbw
        go_wp2
        go_ret
        exact ⟨rfl, Below.next HFIN.out HBw.out⟩

end Go.Proofs.YtagldlchamlpdaaDoor
