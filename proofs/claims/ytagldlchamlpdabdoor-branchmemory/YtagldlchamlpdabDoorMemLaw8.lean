import Derived.Test.YtagldlchamlpdabDoorMem2
import Derived.Test.YtagldlchamlpdabDoorBInsF
import Derived.Test.YtagldlchamlpdabDoorPut2
import Derived.Deep.DeepCutAuto
namespace Go.Proofs.YtagldlchamlpdabDoor
open Go.RowKit

theorem RowAt.c4 {w : World} {b : Nat} {x0 x1 x2 x3 : Value} {t : TypeId} (h : RowAt w b #[x0, x1, x2, x3] t) : w.cell? ⟨b, 0, none⟩ = some x0 ∧ w.cell? ⟨b, 1, none⟩ = some x1 ∧ w.cell? ⟨b, 2, none⟩ = some x2 ∧ w.cell? ⟨b, 3, none⟩ = some x3 :=
  ⟨h.cell 0 (by simp), h.cell 1 (by simp), h.cell 2 (by simp), h.cell 3 (by simp)⟩
theorem StrR.form {w : World} {v : Value} {T : List ByteArray} (h : StrR w v T) : ∃ a c, v = .slice a T.length c := by
  obtain ⟨a, c, rfl, _⟩ := h; exact ⟨a, c, rfl⟩
/-- The law's Pick, as a number. -/
def pickE (i : Int) (n : Nat) : Nat := if Int.tmod i (n : Int) < 0 then (Int.tmod i (n : Int) + (n : Int)).toNat else (Int.tmod i (n : Int)).toNat
theorem kpickE_any (i : Int) (n : Nat) (w : World) (hn : 1 ≤ n) (hnb : n ≤ 1000000) :
    Calls Tryd.prog 15 #[.int .i64 i, .int .i64 (n : Int)] w fun e w' => (pickE i n < n ∧ e = .returned (.int .i64 (pickE i n : Int))) ∧ w = w' := by
  have hn1 : ¬ (n : Int) < 1 := by omega
  obtain ⟨r, hr⟩ : ∃ r, r = Int.tmod i (n : Int) := ⟨_, rfl⟩
  have hr' : Int.tmod i (n : Int) = r := hr.symm
  have hlt := Int.tmod_lt_of_pos i (show (0 : Int) < (n : Int) by omega)
  have hgt := Int.lt_tmod_of_pos i (show (0 : Int) < (n : Int) by omega)
  have HP : Hid (pickE i n = if r < 0 then (r + (n : Int)).toNat else r.toNat) := by show _ = _; unfold pickE; rw [hr']
  rw [hr'] at hlt hgt
  have hn0 : ¬ (n : Int) = 0 := by omega
  clear hr
  by_cases h0 : r < 0
  · have hw : IntKind.i64.wrap (r + (n : Int)) = r + (n : Int) := by rw [IntKind.wrap_i64]; omega
    have HQ : Hid (pickE i n = (r + (n : Int)).toNat) := by show _ = _; rw [HP.out, if_pos h0]
    clear HP
    go_enter Tryd.func15, Tryd.ntmps15
    go_wp2
    go_ret
    refine ⟨⟨by rw [HQ.out]; omega, ?_⟩, rfl⟩
    rw [HQ.out, show (((r + (n : Int)).toNat : Nat) : Int) = r + (n : Int) by omega]; rfl
  · have HQ : Hid (pickE i n = r.toNat) := by show _ = _; rw [HP.out, if_neg h0]
    clear HP
    go_enter Tryd.func15, Tryd.ntmps15
    go_wp2
    go_ret
    refine ⟨⟨by rw [HQ.out]; omega, ?_⟩, rfl⟩
    rw [HQ.out, show ((r.toNat : Nat) : Int) = r by omega]; rfl
theorem below_comp {B : Nat} {a b c : World} (h1 : Below B a b) (h2 : Below B b c) : Below B a c :=
  ⟨h2.os.trans h1.os, h2.tape.trans h1.tape, h2.output.trans h1.output, Nat.le_trans h1.size h2.size, fun j hj => (h2.block j hj).trans (h1.block j hj)⟩
theorem six {j : Nat} (h : j < 6) : j = 0 ∨ j = 1 ∨ j = 2 ∨ j = 3 ∨ j = 4 ∨ j = 5 := by omega
/-- A box with a list of the law's making in it. -/
def MadeAt (T : List ByteArray) (n lo : Nat) (w w' : World) (u : Value) : Prop :=
  ∃ (B g c : Nat), u = .pointer (some ⟨B, 0, none⟩) ∧ RowAt w' B #[.int .i64 2, .slice (some ⟨g, 0, none⟩) n c] 30 ∧ LkO w' lo (.slice (some ⟨g, 0, none⟩) n c) (linksTo T n) ∧ lo ≤ B ∧ Below lo w w'

set_option maxRecDepth 20000 in
set_option maxHeartbeats 60000000 in
theorem mem_any (A : Nat → Addr) (v : Value) (T : List ByteArray) (li ki : Int) (key : ByteArray) (w : World) (hT : T.length ≤ 8796093022207) (hr : StrR w v T) (hE : ErrsG 13 gAll A w) :
    Calls Tryd.prog 6 #[.agg #[v, .int .i64 li, .string key, .int .i64 ki]] w fun e w' => e = .returned (.bool true) ∧ Below w.heap.size w w' := by
  obtain ⟨a, cap, hv⟩ := hr.form
  subst hv
  obtain ⟨nT, hnT⟩ : ∃ n, n = T.length := ⟨_, rfl⟩
  rw [← hnT] at hr ⊢
  have q0 := below_new w (.cells #[.slice a nT cap, .int .i64 li, .string key, .int .i64 ki] 27)
  have x0 := RowAt.new w #[.slice a nT cap, .int .i64 li, .string key, .int .i64 ki] 27
  generalize hW0 : w.alloc (.cells #[.slice a nT cap, .int .i64 li, .string key, .int .i64 ki] 27) = W0 at *
  have HX := hide x0
  have HQ := hide q0
  have HE := hide (hE.keep q0)
  have HR := hide (hr.below q0)
  obtain ⟨n, hn⟩ : ∃ n, n = 8 + pickE li 40 := ⟨_, rfl⟩
  obtain ⟨pk, hpk⟩ : ∃ p, p = pickE li 40 := ⟨_, rfl⟩
  have HPK : Hid (∀ W, Calls Tryd.prog 15 #[.int .i64 li, .int .i64 40] W fun e w' => e = .returned (.int .i64 (pk : Int)) ∧ W = w') := fun W => by
    refine (kpickE_any li 40 W (by decide) (by decide)).mono ?_
    rintro e w' ⟨⟨_, rfl⟩, rfl⟩
    exact ⟨by rw [hpk], rfl⟩
  have hp40 : pk < 40 := by
    rw [hpk]
    unfold pickE
    have h1 := Int.tmod_lt_of_pos li (show (0 : Int) < ((40 : Nat) : Int) by decide)
    have h2 := Int.lt_tmod_of_pos li (show (0 : Int) < ((40 : Nat) : Int) by decide)
    split <;> omega
  have hnn : n = 8 + pk := by omega
  have hwn : IntKind.i64.wrap (8 + (pk : Int)) = (n : Int) := by rw [IntKind.wrap_i64]; omega
  have HN : Hid (8 ≤ n ∧ n ≤ 47) := ⟨by omega, by omega⟩
  have HMD : Hid (∀ W, Below W0.heap.size W0 W → Calls Tryd.prog 14 #[.slice a nT cap, .int .i64 (n : Int), .int .i64 100000] W fun e w' => ∃ g c, e = .returned (.agg #[.int .i64 2, .slice (some ⟨g, 0, none⟩) n c]) ∧ LkO w' W.heap.size (.slice (some ⟨g, 0, none⟩) n c) (linksTo T n) ∧ Below W.heap.size W w') := fun W h => by
    refine (made_any _ T n 100000 W (by have := HN.out; omega) (by omega) ⟨by decide, by decide⟩ (HR.out.below h)).mono ?_
    rintro e w' ⟨k, u, rfl, ho, hk1, hk2, hk3, hb⟩
    have hkn : k = n := by
      rcases hk3 with h3 | h3
      · exact h3
      · have := szB_linksTo_le T (k + 1); have := HN.out; omega
    subst hkn
    obtain ⟨g, c, rfl, _⟩ := ho.has (by rw [linksTo_len]; have := HN.out; omega)
    rw [linksTo_len] at ho ⊢
    exact ⟨g, c, rfl, ho, hb⟩
  clear hn hpk hp40 hnn hr hE q0 x0 hT hnT
  obtain ⟨p0, p1, _, _⟩ := HX.out.c4
  go_enter Tryd.func6, Tryd.ntmps6
  go_wp2_with fail
  have HA0 : Hid (Below W0.heap.size W0 W0) := Below.refl _ _
  have qa := below_new W0 (.cells #[.int .i64 0, .slice none 0 0] 30)
  have xa := RowAt.new W0 #[.int .i64 0, .slice none 0 0] 30
  have sa : (W0.alloc (.cells #[.int .i64 0, .slice none 0 0] 30)).heap.size = W0.heap.size + 1 := by simp
  obtain ⟨z0, z1, _, _⟩ := ((HX.out.below (HA0.out)).below qa).c4
  have b1 : ¬ w.heap.size = W0.heap.size := by have h1 := HX.out.lt; have h2 := (HA0.out).size; omega
  have b2 : ¬ W0.heap.size = w.heap.size := by omega
  generalize hW5 : W0.alloc (.cells #[.int .i64 0, .slice none 0 0] 30) = W5 at *
  have HX5 := hide xa
  have HQ5 := hide qa
  have HS5 := hide sa
  clear qa xa sa
  go_cut [3] (fun u wx => MadeAt T n W0.heap.size W0 wx u)
  case first =>
   as_aux_lemma =>
    go_region_held3 (fun w' => w'.cell? ⟨w.heap.size, 0, none⟩ = some (.slice a nT cap) ∧ w'.cell? ⟨w.heap.size, 1, none⟩ = some (.int .i64 li)) (go_keep)
      (first
        | (go_at_call 15; refine (HPK.out _).mono ?_; rintro e wp ⟨rfl, rfl⟩)
        | (go_at_call 14; refine (HMD.out _ ?_).mono ?_; (first | exact (HA0.out).drew | exact (Below.next (HA0.out) HQ5.out).drew); rintro e w5 ⟨g, c, rfl, ho, hb⟩; have HO5 := hide ho; have HB5 := hide hb; have m0 : w5.cell? ⟨w.heap.size, 0, none⟩ = some (.slice a nT cap) := (by first | exact (((HX.out.below (HA0.out)).below HQ5.out).drew.below hb).c4.1 | exact ((HX.out.below (HA0.out)).drew.below hb).c4.1); have m1 : w5.cell? ⟨w.heap.size, 1, none⟩ = some (.int .i64 li) := (by first | exact (((HX.out.below (HA0.out)).below HQ5.out).drew.below hb).c4.2.1 | exact ((HX.out.below (HA0.out)).drew.below hb).c4.2.1); try (have m2 := (HX5.out.drew.below hb).c0; have m3 := (HX5.out.drew.below hb).c1; have m4 := (HX5.out.drew.below hb).free 0; have m5 := (HX5.out.drew.below hb).free 1); have m6 := World.new_ne w5 _ m0; clear ho hb))
    all_goals first
      | (have hx := RowAt.new w5 #[.int .i64 2, .slice (some ⟨g, 0, none⟩) n c] 30
         have hq := below_new w5 (.cells #[.int .i64 2, .slice (some ⟨g, 0, none⟩) n c] 30)
         have hm : MadeAt T n W0.heap.size W0 (w5.alloc (.cells #[.int .i64 2, .slice (some ⟨g, 0, none⟩) n c] 30)) (.pointer (some ⟨w5.heap.size, 0, none⟩)) := ⟨_, g, c, rfl, hx, HO5.out.below hq, (undrewB HB5.out).size, Below.next (undrewB HB5.out) hq⟩
         have HM := hide hm
         clear hx hq hm
         go_wp2_with fail
         go_meet
         exact HM.out)
      | (have hx := ((HX5.out.drew.below HB5.out).two (.int .i64 2) (.slice (some ⟨g, 0, none⟩) n c))
         have hm : MadeAt T n W0.heap.size W0 ((w5.setCell ⟨W0.heap.size, 0, none⟩ (.int .i64 2)).setCell ⟨W0.heap.size, 1, none⟩ (.slice (some ⟨g, 0, none⟩) n c)) (.pointer (some ⟨W0.heap.size, 0, none⟩)) := ⟨_, g, c, rfl, hx, (HO5.out.put2 (g := W0.heap.size) (by have := HS5.out; show W0.heap.size < W5.heap.size; omega) _ _).mono (by have := HS5.out; show W0.heap.size ≤ W5.heap.size; omega), Nat.le_refl _, below_two (Below.next HQ5.out (undrewB HB5.out)) (Nat.le_refl _)⟩
         have HM := hide hm
         clear hx hm
         go_wp2_with fail
         go_meet
         exact HM.out)
  case rest =>
    clear hW5 HX5 HQ5 HS5 z0 z1 b1 b2
    obtain ⟨B3, g3, c3, hu3, hx3, ho3, hlo3, hb3⟩ := hcut
    subst hu3
    obtain ⟨W1, hW1⟩ : ∃ W, W = wc := ⟨_, rfl⟩
    subst hW1
    have HA1 := hide hb3
    have HX3 := hide hx3
    have HO3 := hide ho3
    have HL3 := hide hlo3
    clear hx3 ho3 hlo3 hb3 p0 p1
    obtain ⟨p0, p1, _, _⟩ := (HX.out.below HA1.out).c4
    go_wp2_with fail
    have qb := below_new W1 (.cells #[.int .i64 0, .slice none 0 0] 30)
    have xb := RowAt.new W1 #[.int .i64 0, .slice none 0 0] 30
    have sb : (W1.alloc (.cells #[.int .i64 0, .slice none 0 0] 30)).heap.size = W1.heap.size + 1 := by simp
    obtain ⟨z0, z1, _, _⟩ := ((HX.out.below (HA1.out)).below qb).c4
    have b1 : ¬ w.heap.size = W1.heap.size := by have h1 := HX.out.lt; have h2 := (HA1.out).size; omega
    have b2 : ¬ W1.heap.size = w.heap.size := by omega
    generalize hW5 : W1.alloc (.cells #[.int .i64 0, .slice none 0 0] 30) = W5 at *
    have HX5 := hide xb
    have HQ5 := hide qb
    have HS5 := hide sb
    clear qb xb sb
    go_cut [4] (fun u wx => MadeAt T n W1.heap.size W1 wx u)
    case first =>
     as_aux_lemma =>
      go_region_held3 (fun w' => w'.cell? ⟨w.heap.size, 0, none⟩ = some (.slice a nT cap) ∧ w'.cell? ⟨w.heap.size, 1, none⟩ = some (.int .i64 li)) (go_keep)
        (first
          | (go_at_call 15; refine (HPK.out _).mono ?_; rintro e wp ⟨rfl, rfl⟩)
          | (go_at_call 14; refine (HMD.out _ ?_).mono ?_; (first | exact (HA1.out).drew | exact (Below.next (HA1.out) HQ5.out).drew); rintro e w5 ⟨g, c, rfl, ho, hb⟩; have HO5 := hide ho; have HB5 := hide hb; have m0 : w5.cell? ⟨w.heap.size, 0, none⟩ = some (.slice a nT cap) := (by first | exact (((HX.out.below (HA1.out)).below HQ5.out).drew.below hb).c4.1 | exact ((HX.out.below (HA1.out)).drew.below hb).c4.1); have m1 : w5.cell? ⟨w.heap.size, 1, none⟩ = some (.int .i64 li) := (by first | exact (((HX.out.below (HA1.out)).below HQ5.out).drew.below hb).c4.2.1 | exact ((HX.out.below (HA1.out)).drew.below hb).c4.2.1); try (have m2 := (HX5.out.drew.below hb).c0; have m3 := (HX5.out.drew.below hb).c1; have m4 := (HX5.out.drew.below hb).free 0; have m5 := (HX5.out.drew.below hb).free 1); have m6 := World.new_ne w5 _ m0; clear ho hb))
      all_goals first
        | (have hx := RowAt.new w5 #[.int .i64 2, .slice (some ⟨g, 0, none⟩) n c] 30
           have hq := below_new w5 (.cells #[.int .i64 2, .slice (some ⟨g, 0, none⟩) n c] 30)
           have hm : MadeAt T n W1.heap.size W1 (w5.alloc (.cells #[.int .i64 2, .slice (some ⟨g, 0, none⟩) n c] 30)) (.pointer (some ⟨w5.heap.size, 0, none⟩)) := ⟨_, g, c, rfl, hx, HO5.out.below hq, (undrewB HB5.out).size, Below.next (undrewB HB5.out) hq⟩
           have HM := hide hm
           clear hx hq hm
           go_wp2_with fail
           go_meet
           exact HM.out)
        | (have hx := ((HX5.out.drew.below HB5.out).two (.int .i64 2) (.slice (some ⟨g, 0, none⟩) n c))
           have hm : MadeAt T n W1.heap.size W1 ((w5.setCell ⟨W1.heap.size, 0, none⟩ (.int .i64 2)).setCell ⟨W1.heap.size, 1, none⟩ (.slice (some ⟨g, 0, none⟩) n c)) (.pointer (some ⟨W1.heap.size, 0, none⟩)) := ⟨_, g, c, rfl, hx, (HO5.out.put2 (g := W1.heap.size) (by have := HS5.out; show W1.heap.size < W5.heap.size; omega) _ _).mono (by have := HS5.out; show W1.heap.size ≤ W5.heap.size; omega), Nat.le_refl _, below_two (Below.next HQ5.out (undrewB HB5.out)) (Nat.le_refl _)⟩
           have HM := hide hm
           clear hx hm
           go_wp2_with fail
           go_meet
           exact HM.out)
    case rest =>
      clear hW5 HX5 HQ5 HS5 z0 z1 b1 b2
      obtain ⟨B4, g4, c4, hu4, hx4, ho4, hlo4, hb4⟩ := hcut
      subst hu4
      obtain ⟨W2, hW2⟩ : ∃ W, W = wc := ⟨_, rfl⟩
      subst hW2
      obtain ⟨l, hl⟩ : ∃ l, l = linksTo T n := ⟨_, rfl⟩
      have hll : l.length = n := by rw [hl]; exact linksTo_len T n
      have HX3' := hide (HX3.out.below hb4)
      have HO3' := hide (HO3.out.below hb4)
      have HX4 := hide hx4
      have HO4 := hide ho4
      have HA2 := hide (Below.next HA1.out hb4)
      have HEW := hide (HE.out.keep HA2.out)
      have HE0 := hide HE.out
      have HA0' := hide HA2.out
      have HOUT := hide (Below.next HQ.out HA2.out)
      have HQW := hide HQ.out
      have HLO : Hid (W0.heap.size ≤ W1.heap.size ∧ W1.heap.size ≤ W2.heap.size ∧ W0.heap.size ≤ B3 ∧ B3 < W1.heap.size ∧ W1.heap.size ≤ B4 ∧ B4 < W2.heap.size) := ⟨HA1.out.size, hb4.size, HL3.out, HX3.out.lt, hlo4, hx4.lt⟩
      rw [← hl] at HO3' HO4
      have hsz : ∀ p ∈ l, p.1.size ≤ 255 := by
        rw [hl]
        intro p hp
        simp only [linksTo, List.mem_map] at hp
        obtain ⟨j, _, rfl⟩ := hp
        exact (keyAt_size T j).2
      have h5 : (l.getD 2 (⟨#[]⟩, 0)).2 = 5 := by
        rw [List.getD_eq_getElem?_getD, List.getElem?_eq_getElem (by rw [hll]; have := HN.out; omega)]
        subst hl
        rw [Option.getD_some, linksTo_get]
        rfl
      have HSZ := hide hsz
      have H5 := hide h5
      have HLL := hide hll
      have HRB := hide HO3'.out.at
      clear hx4 ho4 hlo4 hb4 hl hll hsz h5 HX3 HO3 HL3 HA1 HA2 HPK HMD p0 p1 hwn HX HQ HE HR
      have hok : OkK l := fun p hp => Nat.le_trans (HSZ.out p hp) (by decide)
      have HCUT : Hid (∀ W, Below W2.heap.size W2 W → Calls Tryd.prog 17 #[.agg #[.int .i64 2, .slice (some ⟨g3, 0, none⟩) n c3]] W fun e w' => ∃ (i : Nat) (ky : ByteArray) (fr : Int) (ga ca gb cb : Nat), e = .returned (.tuple #[.agg #[.int .i64 2, .slice (some ⟨ga, 0, none⟩) i ca], .string ky, .agg #[.int .i64 fr, .slice (some ⟨gb, 0, none⟩) (n - (i + 1)) cb], .nilIface]) ∧ CutN 3 (gapP (szsK l)) (szsK l) i 0 ∧ (1 ≤ i ∧ i + 1 < n) ∧ LkO w' W.heap.size (.slice (some ⟨ga, 0, none⟩) i ca) (l.take i) ∧ LkO w' W.heap.size (.slice (some ⟨gb, 0, none⟩) (n - (i + 1)) cb) (l.drop (i + 1)) ∧ ga ≠ gb ∧ Below W.heap.size W w') := fun W h => by
        refine (bcut_any A 2 _ l W hok (by have := HLL.out; have := HN.out; omega) (HRB.out.below h) (errC_all (HEW.out.keep h))).mono ?_
        rintro e w' ⟨⟨i, c, ky, f1, f2, u1, u2, ev, rfl, hcn, hno, hcs⟩, hb⟩
        have hc0 := fine_cut (by have := HLL.out; have := HN.out; omega) HSZ.out hcn
        subst hc0
        have hev := numOf_nil hno
        subst hev
        have hib : 1 ≤ i ∧ i + 1 < n := by
          rcases hcn with ⟨_, _, h⟩ | ⟨_, _, _, h⟩ | ⟨_, _, hbst, _⟩
          · cases h
          · cases h
          · have h1 := hbst.1.1; have h2 := hbst.1.2; have := HLL.out; have := HN.out; rw [szsK_len] at h2; omega
        rcases hcs with ⟨_, ⟨hi, rfl, rfl, rfl⟩, o1, o2, hne⟩ | ⟨h, _⟩
        · have e1 : (l.take i).length = i := by rw [List.length_take]; have := HLL.out; omega
          have e2 : (l.drop (i + 1)).length = n - (i + 1) := by rw [List.length_drop]; have := HLL.out; omega
          obtain ⟨ga, ca, h1, _⟩ := o1.has (by omega)
          obtain ⟨gb, cb, h2, _⟩ := o2.has (by omega)
          subst h1 h2
          rw [e1] at o1 hne ⊢
          rw [e2] at o2 hne ⊢
          exact ⟨i, _, _, ga, ca, gb, cb, rfl, hcn, hib, o1, o2, fun he => hne ga rfl (by rw [he]; rfl), hb⟩
        · exact absurd rfl h
      have HINS : Hid (∀ W, Below W2.heap.size W2 W → Calls Tryd.prog 21 #[.agg #[.int .i64 2, .slice (some ⟨g3, 0, none⟩) n c3], .int .i64 2, .agg #[.string ⟨#[107]⟩, .int .i64 7]] W fun e w' => ∃ ga ca, e = .returned (.tuple #[.agg #[.int .i64 2, .slice (some ⟨ga, 0, none⟩) (n + 1) ca], .nilIface]) ∧ LkO w' W.heap.size (.slice (some ⟨ga, 0, none⟩) (n + 1) ca) (insL l 2 (⟨#[107]⟩, 7)) ∧ Below W.heap.size W w') := fun W h => by
        refine (bins_any A 2 2 _ l ⟨#[107]⟩ 7 W (by have := HLL.out; have := HN.out; omega) (HRB.out.below h) (errC_all (HEW.out.keep h))).mono ?_
        rintro e w' ⟨hv, hb⟩
        rcases hv with ⟨_, u, rfl, ho⟩ | ⟨hg, _⟩
        · have e1 : (insL l (2 : Int).toNat (⟨#[107]⟩, 7)).length = n + 1 := by rw [insL_len l _ _ (by have := HLL.out; have := HN.out; show 2 ≤ l.length; omega), HLL.out]
          obtain ⟨ga, ca, h1, _⟩ := ho.has (by omega)
          rw [e1] at h1
          subst h1
          exact ⟨ga, ca, rfl, ho, hb⟩
        · simp only [hasC, Bool.and_eq_false_iff, decide_eq_false_iff_not] at hg
          have := HLL.out; have := HN.out; omega
      have HREM : Hid (∀ W, Below W2.heap.size W2 W → Calls Tryd.prog 22 #[.agg #[.int .i64 2, .slice (some ⟨g3, 0, none⟩) n c3], .int .i64 2] W fun e w' => ∃ ga ca, e = .returned (.tuple #[.agg #[.int .i64 2, .slice (some ⟨ga, 0, none⟩) (n - 1) ca], .nilIface]) ∧ LkO w' W.heap.size (.slice (some ⟨ga, 0, none⟩) (n - 1) ca) (remL l 2) ∧ Below W.heap.size W w') := fun W h => by
        refine (brem_any A 2 2 _ l W (by have := HLL.out; have := HN.out; omega) (HRB.out.below h) (errC_all (HEW.out.keep h))).mono ?_
        rintro e w' ⟨hv, hb⟩
        rcases hv with ⟨_, u, rfl, ho⟩ | ⟨hg, _⟩
        · have e1 : (remL l (2 : Int).toNat).length = n - 1 := by have := remL_len l 2 (by have := HLL.out; have := HN.out; omega); have := HLL.out; show (remL l 2).length = n - 1; omega
          obtain ⟨ga, ca, h1, _⟩ := ho.has (by have := HN.out; omega)
          rw [e1] at h1
          subst h1
          exact ⟨ga, ca, rfl, ho, hb⟩
        · simp only [hasLk, Bool.and_eq_false_iff, decide_eq_false_iff_not] at hg
          have := HLL.out; have := HN.out; omega
      have HPUT : Hid (∀ W, Below W2.heap.size W2 W → Calls Tryd.prog 23 #[.agg #[.int .i64 2, .slice (some ⟨g3, 0, none⟩) n c3], .int .i64 2, .int .i64 7] W fun e w' => ∃ ga ca, e = .returned (.tuple #[.agg #[.int .i64 2, .slice (some ⟨ga, 0, none⟩) n ca], .nilIface]) ∧ LkO w' W.heap.size (.slice (some ⟨ga, 0, none⟩) n ca) (putL l 2 7) ∧ Below W.heap.size W w') := fun W h => by
        refine (bput_any A 2 2 7 _ l W (by have := HLL.out; have := HN.out; omega) (HRB.out.below h) (errC_all (HEW.out.keep h))).mono ?_
        rintro e w' ⟨hv, hb⟩
        rcases hv with ⟨_, u, rfl, ho⟩ | ⟨hg, _⟩
        · have e1 : (putL l (2 : Int).toNat 7).length = n := by rw [putL_len, HLL.out]
          obtain ⟨ga, ca, h1, _⟩ := ho.has (by have := HN.out; omega)
          rw [e1] at h1
          subst h1
          exact ⟨ga, ca, rfl, ho, hb⟩
        · simp only [hasC, Bool.and_eq_false_iff, decide_eq_false_iff_not] at hg
          have := HLL.out; have := HN.out; omega
      have HJOI : Hid (∀ W, Below W2.heap.size W2 W → Calls Tryd.prog 18 #[.agg #[.int .i64 2, .slice (some ⟨g3, 0, none⟩) n c3], .string ⟨#[107]⟩, .agg #[.int .i64 2, .slice (some ⟨g3, 0, none⟩) n c3]] W fun e w' => ∃ ga ca, e = .returned (.agg #[.int .i64 2, .slice (some ⟨ga, 0, none⟩) (n + (n + 1)) ca]) ∧ LkO w' W.heap.size (.slice (some ⟨ga, 0, none⟩) (n + (n + 1)) ca) (joinL l ⟨#[107]⟩ 2 l) ∧ Below W.heap.size W w') := fun W h => by
        refine (bjoin_any 2 2 ⟨#[107]⟩ _ _ l l W (by have := HLL.out; have := HN.out; omega) (HRB.out.below h) (HRB.out.below h)).mono ?_
        rintro e w' ⟨u, rfl, ho, hb⟩
        have e1 : (joinL l ⟨#[107]⟩ 2 l).length = n + (n + 1) := by unfold joinL; rw [List.length_append, List.length_cons, HLL.out]
        obtain ⟨ga, ca, h1, _⟩ := ho.has (by have := HN.out; omega)
        rw [e1] at h1
        subst h1
        exact ⟨ga, ca, rfl, ho, hb⟩
      clear hok
      obtain ⟨Y0, hY0⟩ : ∃ W, W = W2 := ⟨_, rfl⟩
      have HB0 : Hid (Below W2.heap.size W2 Y0) := by rw [hY0]; exact Below.refl _ _
      have HY0 := hide hY0
      rw [← hY0]
      clear hY0
      have p0 := (HX3'.out.below HB0.out).c0
      have p1 := (HX3'.out.below HB0.out).c1
      go_wp2_with fail
      clear p0 p1
      refine (HCUT.out Y0 HB0.out).mono ?_
      rintro e v1 ⟨I, ky, fr, g1x, c1x, g1y, c1y, rfl, hcn, hib, ho, ho', hne, hb⟩
      have HCN := hide hcn
      have HIB := hide hib
      clear hcn hib
      have q1 := below_new v1 (.cells #[.int .i64 2, .slice (some ⟨g1x, 0, none⟩) I c1x] 30)
      have x1 := RowAt.new v1 #[.int .i64 2, .slice (some ⟨g1x, 0, none⟩) I c1x] 30
      have q2 := below_new (v1.alloc (.cells #[.int .i64 2, .slice (some ⟨g1x, 0, none⟩) I c1x] 30)) (.cells #[.int .i64 fr, .slice (some ⟨g1y, 0, none⟩) (n - (I + 1)) c1y] 30)
      have x2 := RowAt.new (v1.alloc (.cells #[.int .i64 2, .slice (some ⟨g1x, 0, none⟩) I c1x] 30)) #[.int .i64 fr, .slice (some ⟨g1y, 0, none⟩) (n - (I + 1)) c1y] 30
      have s2 : (v1.alloc (.cells #[.int .i64 2, .slice (some ⟨g1x, 0, none⟩) I c1x] 30)).heap.size = v1.heap.size + 1 := by simp
      rw [s2] at x2
      have q := Below.next q1 q2
      have HXx1 := hide (x1.below q2)
      have HXy1 := hide x2
      have HOx1 := hide (ho.below q)
      have HOy1 := hide (ho'.below q)
      have HNE1 := hide hne
      have HT1 := hide (Below.next hb q)
      have HB1 := hide (Below.next HB0.out HT1.out)
      clear ho ho' hb q q1 q2 x1 x2 s2 hne
      have p0 := (HX3'.out.below HB1.out).c0
      have p1 := (HX3'.out.below HB1.out).c1
      go_wp2_with fail
      clear p0 p1
      generalize (v1.alloc (.cells #[.int .i64 2, .slice (some ⟨g1x, 0, none⟩) I c1x] 30)).alloc (.cells #[.int .i64 fr, .slice (some ⟨g1y, 0, none⟩) (n - (I + 1)) c1y] 30) = Y1 at *
      obtain ⟨b1y, hby⟩ : ∃ b, b = v1.heap.size + 1 := ⟨_, rfl⟩
      obtain ⟨b1x, hbx⟩ : ∃ b, b = v1.heap.size := ⟨_, rfl⟩
      rw [← hby] at HXy1 ⊢
      rw [← hbx] at HXx1 ⊢
      clear hbx hby
      refine (HINS.out Y1 HB1.out).mono ?_
      rintro e v2 ⟨g2x, c2x, rfl, ho, hb⟩
      have q := below_new v2 (.cells #[.int .i64 2, .slice (some ⟨g2x, 0, none⟩) (n + 1) c2x] 30)
      have HXx2 := hide (RowAt.new v2 #[.int .i64 2, .slice (some ⟨g2x, 0, none⟩) (n + 1) c2x] 30)
      have HOx2 := hide (ho.below q)
      have HT2 := hide (Below.next hb q)
      have HB2 := hide (Below.next HB1.out HT2.out)
      clear ho hb q
      have p0 := (HX3'.out.below HB2.out).c0
      have p1 := (HX3'.out.below HB2.out).c1
      go_wp2_with fail
      clear p0 p1
      generalize v2.alloc (.cells #[.int .i64 2, .slice (some ⟨g2x, 0, none⟩) (n + 1) c2x] 30) = Y2 at *
      obtain ⟨b2x, hbx⟩ : ∃ b, b = v2.heap.size := ⟨_, rfl⟩
      rw [← hbx] at HXx2 ⊢
      clear hbx
      refine (HREM.out Y2 HB2.out).mono ?_
      rintro e v3 ⟨g3x, c3x, rfl, ho, hb⟩
      have q := below_new v3 (.cells #[.int .i64 2, .slice (some ⟨g3x, 0, none⟩) (n - 1) c3x] 30)
      have HXx3 := hide (RowAt.new v3 #[.int .i64 2, .slice (some ⟨g3x, 0, none⟩) (n - 1) c3x] 30)
      have HOx3 := hide (ho.below q)
      have HT3 := hide (Below.next hb q)
      have HB3 := hide (Below.next HB2.out HT3.out)
      clear ho hb q
      have p0 := (HX3'.out.below HB3.out).c0
      have p1 := (HX3'.out.below HB3.out).c1
      go_wp2_with fail
      clear p0 p1
      generalize v3.alloc (.cells #[.int .i64 2, .slice (some ⟨g3x, 0, none⟩) (n - 1) c3x] 30) = Y3 at *
      obtain ⟨b3x, hbx⟩ : ∃ b, b = v3.heap.size := ⟨_, rfl⟩
      rw [← hbx] at HXx3 ⊢
      clear hbx
      refine (HPUT.out Y3 HB3.out).mono ?_
      rintro e v4 ⟨g4x, c4x, rfl, ho, hb⟩
      have q := below_new v4 (.cells #[.int .i64 2, .slice (some ⟨g4x, 0, none⟩) n c4x] 30)
      have HXx4 := hide (RowAt.new v4 #[.int .i64 2, .slice (some ⟨g4x, 0, none⟩) n c4x] 30)
      have HOx4 := hide (ho.below q)
      have HT4 := hide (Below.next hb q)
      have HB4 := hide (Below.next HB3.out HT4.out)
      clear ho hb q
      have p0 := (HX3'.out.below HB4.out).c0
      have p1 := (HX3'.out.below HB4.out).c1
      go_wp2_with fail
      clear p0 p1
      generalize v4.alloc (.cells #[.int .i64 2, .slice (some ⟨g4x, 0, none⟩) n c4x] 30) = Y4 at *
      obtain ⟨b4x, hbx⟩ : ∃ b, b = v4.heap.size := ⟨_, rfl⟩
      rw [← hbx] at HXx4 ⊢
      clear hbx
      refine (HJOI.out Y4 HB4.out).mono ?_
      rintro e v5 ⟨g5x, c5x, rfl, ho, hb⟩
      have q := below_new v5 (.cells #[.int .i64 2, .slice (some ⟨g5x, 0, none⟩) (n + (n + 1)) c5x] 30)
      have HXx5 := hide (RowAt.new v5 #[.int .i64 2, .slice (some ⟨g5x, 0, none⟩) (n + (n + 1)) c5x] 30)
      have HOx5 := hide (ho.below q)
      have HT5 := hide (Below.next hb q)
      have HB5 := hide (Below.next HB4.out HT5.out)
      clear ho hb q
      have p0 := (HX3'.out.below HB5.out).c0
      have p1 := (HX3'.out.below HB5.out).c1
      go_wp2_with fail
      clear p0 p1
      generalize v5.alloc (.cells #[.int .i64 2, .slice (some ⟨g5x, 0, none⟩) (n + (n + 1)) c5x] 30) = Y5 at *
      obtain ⟨b5x, hbx⟩ : ∃ b, b = v5.heap.size := ⟨_, rfl⟩
      rw [← hbx] at HXx5 ⊢
      clear hbx
      refine (HCUT.out Y5 HB5.out).mono ?_
      rintro e v6 ⟨I2, ky2, fr2, g6x, c6x, g6y, c6y, rfl, hcn, hib, ho, ho', hne, hb⟩
      obtain ⟨hii, _⟩ := CutN.unique hcn HCN.out
      subst hii
      clear hcn hib
      have q1 := below_new v6 (.cells #[.int .i64 2, .slice (some ⟨g6x, 0, none⟩) I2 c6x] 30)
      have x1 := RowAt.new v6 #[.int .i64 2, .slice (some ⟨g6x, 0, none⟩) I2 c6x] 30
      have q2 := below_new (v6.alloc (.cells #[.int .i64 2, .slice (some ⟨g6x, 0, none⟩) I2 c6x] 30)) (.cells #[.int .i64 fr2, .slice (some ⟨g6y, 0, none⟩) (n - (I2 + 1)) c6y] 30)
      have x2 := RowAt.new (v6.alloc (.cells #[.int .i64 2, .slice (some ⟨g6x, 0, none⟩) I2 c6x] 30)) #[.int .i64 fr2, .slice (some ⟨g6y, 0, none⟩) (n - (I2 + 1)) c6y] 30
      have s2 : (v6.alloc (.cells #[.int .i64 2, .slice (some ⟨g6x, 0, none⟩) I2 c6x] 30)).heap.size = v6.heap.size + 1 := by simp
      rw [s2] at x2
      have q := Below.next q1 q2
      have HXx6 := hide (x1.below q2)
      have HXy6 := hide x2
      have HOx6 := hide (ho.below q)
      have HOy6 := hide (ho'.below q)
      have HNE6 := hide hne
      have HT6 := hide (Below.next hb q)
      have HB6 := hide (Below.next HB5.out HT6.out)
      clear ho ho' hb q q1 q2 x1 x2 s2 hne
      have p0 := (HX3'.out.below HB6.out).c0
      have p1 := (HX3'.out.below HB6.out).c1
      go_wp2_with fail
      clear p0 p1
      generalize (v6.alloc (.cells #[.int .i64 2, .slice (some ⟨g6x, 0, none⟩) I2 c6x] 30)).alloc (.cells #[.int .i64 fr2, .slice (some ⟨g6y, 0, none⟩) (n - (I2 + 1)) c6y] 30) = Y6 at *
      obtain ⟨b6y, hby⟩ : ∃ b, b = v6.heap.size + 1 := ⟨_, rfl⟩
      obtain ⟨b6x, hbx⟩ : ∃ b, b = v6.heap.size := ⟨_, rfl⟩
      rw [← hby] at HXy6 ⊢
      rw [← hbx] at HXx6 ⊢
      clear hbx hby
      refine (HINS.out Y6 HB6.out).mono ?_
      rintro e v7 ⟨g7x, c7x, rfl, ho, hb⟩
      have q := below_new v7 (.cells #[.int .i64 2, .slice (some ⟨g7x, 0, none⟩) (n + 1) c7x] 30)
      have HXx7 := hide (RowAt.new v7 #[.int .i64 2, .slice (some ⟨g7x, 0, none⟩) (n + 1) c7x] 30)
      have HOx7 := hide (ho.below q)
      have HT7 := hide (Below.next hb q)
      have HB7 := hide (Below.next HB6.out HT7.out)
      clear ho hb q
      have p0 := (HX3'.out.below HB7.out).c0
      have p1 := (HX3'.out.below HB7.out).c1
      go_wp2_with fail
      clear p0 p1
      generalize v7.alloc (.cells #[.int .i64 2, .slice (some ⟨g7x, 0, none⟩) (n + 1) c7x] 30) = Y7 at *
      obtain ⟨b7x, hbx⟩ : ∃ b, b = v7.heap.size := ⟨_, rfl⟩
      rw [← hbx] at HXx7 ⊢
      clear hbx
      refine (HREM.out Y7 HB7.out).mono ?_
      rintro e v8 ⟨g8x, c8x, rfl, ho, hb⟩
      have q := below_new v8 (.cells #[.int .i64 2, .slice (some ⟨g8x, 0, none⟩) (n - 1) c8x] 30)
      have HXx8 := hide (RowAt.new v8 #[.int .i64 2, .slice (some ⟨g8x, 0, none⟩) (n - 1) c8x] 30)
      have HOx8 := hide (ho.below q)
      have HT8 := hide (Below.next hb q)
      have HB8 := hide (Below.next HB7.out HT8.out)
      clear ho hb q
      have p0 := (HX3'.out.below HB8.out).c0
      have p1 := (HX3'.out.below HB8.out).c1
      go_wp2_with fail
      clear p0 p1
      generalize v8.alloc (.cells #[.int .i64 2, .slice (some ⟨g8x, 0, none⟩) (n - 1) c8x] 30) = Y8 at *
      obtain ⟨b8x, hbx⟩ : ∃ b, b = v8.heap.size := ⟨_, rfl⟩
      rw [← hbx] at HXx8 ⊢
      clear hbx
      refine (HPUT.out Y8 HB8.out).mono ?_
      rintro e v9 ⟨g9x, c9x, rfl, ho, hb⟩
      have q := below_new v9 (.cells #[.int .i64 2, .slice (some ⟨g9x, 0, none⟩) n c9x] 30)
      have HXx9 := hide (RowAt.new v9 #[.int .i64 2, .slice (some ⟨g9x, 0, none⟩) n c9x] 30)
      have HOx9 := hide (ho.below q)
      have HT9 := hide (Below.next hb q)
      have HB9 := hide (Below.next HB8.out HT9.out)
      clear ho hb q
      have p0 := (HX3'.out.below HB9.out).c0
      have p1 := (HX3'.out.below HB9.out).c1
      go_wp2_with fail
      clear p0 p1
      generalize v9.alloc (.cells #[.int .i64 2, .slice (some ⟨g9x, 0, none⟩) n c9x] 30) = Y9 at *
      obtain ⟨b9x, hbx⟩ : ∃ b, b = v9.heap.size := ⟨_, rfl⟩
      rw [← hbx] at HXx9 ⊢
      clear hbx
      refine (HJOI.out Y9 HB9.out).mono ?_
      rintro e v10 ⟨g10x, c10x, rfl, ho, hb⟩
      have q := below_new v10 (.cells #[.int .i64 2, .slice (some ⟨g10x, 0, none⟩) (n + (n + 1)) c10x] 30)
      have HXx10 := hide (RowAt.new v10 #[.int .i64 2, .slice (some ⟨g10x, 0, none⟩) (n + (n + 1)) c10x] 30)
      have HOx10 := hide (ho.below q)
      have HT10 := hide (Below.next hb q)
      have HB10 := hide (Below.next HB9.out HT10.out)
      clear ho hb q
      have HE10 : Hid (Below (v10.alloc (.cells #[.int .i64 2, .slice (some ⟨g10x, 0, none⟩) (n + (n + 1)) c10x] 30)).heap.size (v10.alloc (.cells #[.int .i64 2, .slice (some ⟨g10x, 0, none⟩) (n + (n + 1)) c10x] 30)) (v10.alloc (.cells #[.int .i64 2, .slice (some ⟨g10x, 0, none⟩) (n + (n + 1)) c10x] 30))) := Below.refl _ _
      have HE9 := hide (Below.next HT10.out HE10.out)
      have HE8 := hide (Below.next HT9.out HE9.out)
      have HE7 := hide (Below.next HT8.out HE8.out)
      have HE6 := hide (Below.next HT7.out HE7.out)
      have HE5 := hide (Below.next HT6.out HE6.out)
      have HE4 := hide (Below.next HT5.out HE5.out)
      have HE3 := hide (Below.next HT4.out HE4.out)
      have HE2 := hide (Below.next HT3.out HE3.out)
      have HE1 := hide (Below.next HT2.out HE2.out)
      obtain ⟨ROWA, hROWA⟩ : ∃ r : Array Value, r = #[.slice (some ⟨g1x, 0, none⟩) I2 c1x, .slice (some ⟨g1y, 0, none⟩) (n - (I2 + 1)) c1y, .slice (some ⟨g2x, 0, none⟩) (n + 1) c2x, .slice (some ⟨g3x, 0, none⟩) (n - 1) c3x, .slice (some ⟨g4x, 0, none⟩) n c4x, .slice (some ⟨g5x, 0, none⟩) (n + (n + 1)) c5x] := ⟨_, rfl⟩
      have qa := below_new (v10.alloc (.cells #[.int .i64 2, .slice (some ⟨g10x, 0, none⟩) (n + (n + 1)) c10x] 30)) (.cells #[.slice (some ⟨g1x, 0, none⟩) I2 c1x, .slice (some ⟨g1y, 0, none⟩) (n - (I2 + 1)) c1y, .slice (some ⟨g2x, 0, none⟩) (n + 1) c2x, .slice (some ⟨g3x, 0, none⟩) (n - 1) c3x, .slice (some ⟨g4x, 0, none⟩) n c4x, .slice (some ⟨g5x, 0, none⟩) (n + (n + 1)) c5x] 28)
      have pa0 := (HXx1.out.below HE1.out).c1
      have pa1 := (HXy1.out.below HE1.out).c1
      have pa2 := (HXx2.out.below HE2.out).c1
      have pa3 := (HXx3.out.below HE3.out).c1
      have pa4 := (HXx4.out.below HE4.out).c1
      have pa5 := (HXx5.out.below HE5.out).c1
      have pa6 := ((HXx6.out.below HE6.out).below qa).c1
      have pa7 := ((HXy6.out.below HE6.out).below qa).c1
      have pa8 := ((HXx7.out.below HE7.out).below qa).c1
      have pa9 := ((HXx8.out.below HE8.out).below qa).c1
      have pa10 := ((HXx9.out.below HE9.out).below qa).c1
      have pa11 := ((HXx10.out.below HE10.out).below qa).c1
      go_wp2_with fail
      clear pa0 pa1 pa2 pa3 pa4 pa5 pa6 pa7 pa8 pa9 pa10 pa11
      have qk := below_new ((v10.alloc (.cells #[.int .i64 2, .slice (some ⟨g10x, 0, none⟩) (n + (n + 1)) c10x] 30)).alloc (.cells #[.slice (some ⟨g1x, 0, none⟩) I2 c1x, .slice (some ⟨g1y, 0, none⟩) (n - (I2 + 1)) c1y, .slice (some ⟨g2x, 0, none⟩) (n + 1) c2x, .slice (some ⟨g3x, 0, none⟩) (n - 1) c3x, .slice (some ⟨g4x, 0, none⟩) n c4x, .slice (some ⟨g5x, 0, none⟩) (n + (n + 1)) c5x] 28)) (.cells #[.slice (some ⟨g6x, 0, none⟩) I2 c6x, .slice (some ⟨g6y, 0, none⟩) (n - (I2 + 1)) c6y, .slice (some ⟨g7x, 0, none⟩) (n + 1) c7x, .slice (some ⟨g8x, 0, none⟩) (n - 1) c8x, .slice (some ⟨g9x, 0, none⟩) n c9x, .slice (some ⟨g10x, 0, none⟩) (n + (n + 1)) c10x] 28)
      have xa := RowAt.new (v10.alloc (.cells #[.int .i64 2, .slice (some ⟨g10x, 0, none⟩) (n + (n + 1)) c10x] 30)) #[.slice (some ⟨g1x, 0, none⟩) I2 c1x, .slice (some ⟨g1y, 0, none⟩) (n - (I2 + 1)) c1y, .slice (some ⟨g2x, 0, none⟩) (n + 1) c2x, .slice (some ⟨g3x, 0, none⟩) (n - 1) c3x, .slice (some ⟨g4x, 0, none⟩) n c4x, .slice (some ⟨g5x, 0, none⟩) (n + (n + 1)) c5x] 28
      have xk := RowAt.new ((v10.alloc (.cells #[.int .i64 2, .slice (some ⟨g10x, 0, none⟩) (n + (n + 1)) c10x] 30)).alloc (.cells #[.slice (some ⟨g1x, 0, none⟩) I2 c1x, .slice (some ⟨g1y, 0, none⟩) (n - (I2 + 1)) c1y, .slice (some ⟨g2x, 0, none⟩) (n + 1) c2x, .slice (some ⟨g3x, 0, none⟩) (n - 1) c3x, .slice (some ⟨g4x, 0, none⟩) n c4x, .slice (some ⟨g5x, 0, none⟩) (n + (n + 1)) c5x] 28)) #[.slice (some ⟨g6x, 0, none⟩) I2 c6x, .slice (some ⟨g6y, 0, none⟩) (n - (I2 + 1)) c6y, .slice (some ⟨g7x, 0, none⟩) (n + 1) c7x, .slice (some ⟨g8x, 0, none⟩) (n - 1) c8x, .slice (some ⟨g9x, 0, none⟩) n c9x, .slice (some ⟨g10x, 0, none⟩) (n + (n + 1)) c10x] 28
      have sa : (v10.alloc (.cells #[.int .i64 2, .slice (some ⟨g10x, 0, none⟩) (n + (n + 1)) c10x] 30)).heap.size = v10.heap.size + 1 := by simp
      have sk : ((v10.alloc (.cells #[.int .i64 2, .slice (some ⟨g10x, 0, none⟩) (n + (n + 1)) c10x] 30)).alloc (.cells #[.slice (some ⟨g1x, 0, none⟩) I2 c1x, .slice (some ⟨g1y, 0, none⟩) (n - (I2 + 1)) c1y, .slice (some ⟨g2x, 0, none⟩) (n + 1) c2x, .slice (some ⟨g3x, 0, none⟩) (n - 1) c3x, .slice (some ⟨g4x, 0, none⟩) n c4x, .slice (some ⟨g5x, 0, none⟩) (n + (n + 1)) c5x] 28)).heap.size = v10.heap.size + 2 := by simp
      rw [sa] at xa
      rw [sk] at xk
      have xa2 := xa.below qk
      have qz := Below.next qa qk
      have HZ1 := hide (Below.next HE1.out qz)
      have HZ2 := hide (Below.next HE2.out qz)
      have HZ3 := hide (Below.next HE3.out qz)
      have HZ4 := hide (Below.next HE4.out qz)
      have HZ5 := hide (Below.next HE5.out qz)
      have HZ6 := hide (Below.next HE6.out qz)
      have HZ7 := hide (Below.next HE7.out qz)
      have HZ8 := hide (Below.next HE8.out qz)
      have HZ9 := hide (Below.next HE9.out qz)
      have HZ10 := hide (Below.next HE10.out qz)
      generalize (((v10.alloc (.cells #[.int .i64 2, .slice (some ⟨g10x, 0, none⟩) (n + (n + 1)) c10x] 30)).alloc (.cells #[.slice (some ⟨g1x, 0, none⟩) I2 c1x, .slice (some ⟨g1y, 0, none⟩) (n - (I2 + 1)) c1y, .slice (some ⟨g2x, 0, none⟩) (n + 1) c2x, .slice (some ⟨g3x, 0, none⟩) (n - 1) c3x, .slice (some ⟨g4x, 0, none⟩) n c4x, .slice (some ⟨g5x, 0, none⟩) (n + (n + 1)) c5x] 28)).alloc (.cells #[.slice (some ⟨g6x, 0, none⟩) I2 c6x, .slice (some ⟨g6y, 0, none⟩) (n - (I2 + 1)) c6y, .slice (some ⟨g7x, 0, none⟩) (n + 1) c7x, .slice (some ⟨g8x, 0, none⟩) (n - 1) c8x, .slice (some ⟨g9x, 0, none⟩) n c9x, .slice (some ⟨g10x, 0, none⟩) (n + (n + 1)) c10x] 28)) = Z at *
      obtain ⟨ra, hra⟩ : ∃ b, b = v10.heap.size + 1 := ⟨_, rfl⟩
      rw [show v10.heap.size + 2 = v10.heap.size + 1 + 1 from rfl, ← hra] at xk
      rw [← hra] at xa2 ⊢
      obtain ⟨rk, hrk⟩ : ∃ b, b = ra + 1 := ⟨_, rfl⟩
      rw [← hrk] at xk ⊢
      have HXA := hide xa2
      have HXK := hide xk
      obtain ⟨F, hF⟩ : ∃ F : Six, F = ⟨fun j => ([g1x, g1y, g2x, g3x, g4x, g5x] : List Nat).getD j 0, fun j => ([I2, (n - (I2 + 1)), (n + 1), (n - 1), n, (n + (n + 1))] : List Nat).getD j 0, fun j => ([c1x, c1y, c2x, c3x, c4x, c5x] : List Nat).getD j 0⟩ := ⟨_, rfl⟩
      obtain ⟨ls, hls⟩ : ∃ f : Nat → List Lk, f = fun j => ([l.take I2, l.drop (I2 + 1), insL l 2 (⟨#[107]⟩, 7), remL l 2, putL l 2 7, joinL l ⟨#[107]⟩ 2 l] : List (List Lk)).getD j [] := ⟨_, rfl⟩
      have hs : W2.heap.size = Y0.heap.size := by rw [HY0.out]
      have hs1 := HT1.out.size
      have hs2 := HT2.out.size
      have hs3 := HT3.out.size
      have hs4 := HT4.out.size
      have hs5 := HT5.out.size
      have hs6 := HT6.out.size
      have hs7 := HT7.out.size
      have hs8 := HT8.out.size
      have hs9 := HT9.out.size
      have hs10 := HT10.out.size
      have HCA : Hid (∀ j, j < 6 → Z.cell? ⟨ra, j, none⟩ = some (F.at j)) := fun j hj => by
        subst hF
        rcases six hj with rfl | rfl | rfl | rfl | rfl | rfl
        · exact HXA.out.cell 0 (by simp)
        · exact HXA.out.cell 1 (by simp)
        · exact HXA.out.cell 2 (by simp)
        · exact HXA.out.cell 3 (by simp)
        · exact HXA.out.cell 4 (by simp)
        · exact HXA.out.cell 5 (by simp)
      have HLA : Hid (∀ j, j < 6 → LkO Z W2.heap.size (F.at j) (ls j)) := fun j hj => by
        subst hF hls
        rcases six hj with rfl | rfl | rfl | rfl | rfl | rfl
        · exact (HOx1.out.below HZ1.out).mono (by omega)
        · exact (HOy1.out.below HZ1.out).mono (by omega)
        · exact (HOx2.out.below HZ2.out).mono (by omega)
        · exact (HOx3.out.below HZ3.out).mono (by omega)
        · exact (HOx4.out.below HZ4.out).mono (by omega)
        · exact (HOx5.out.below HZ5.out).mono (by omega)
      have HLK : Hid (∀ j, j < 6 → ∃ g c, Z.cell? ⟨rk, j, none⟩ = some (.slice (some ⟨g, 0, none⟩) (F.ln j) c) ∧ LkR Z (.slice (some ⟨g, 0, none⟩) (F.ln j) c) (ls j) ∧ Y5.heap.size ≤ g) := fun j hj => by
        subst hF hls
        rcases six hj with rfl | rfl | rfl | rfl | rfl | rfl
        · exact ⟨_, _, HXK.out.cell 0 (by simp), (HOx6.out.below HZ6.out).at, by have := (HOx6.out.blk g6x rfl).1; omega⟩
        · exact ⟨_, _, HXK.out.cell 1 (by simp), (HOy6.out.below HZ6.out).at, by have := (HOy6.out.blk g6y rfl).1; omega⟩
        · exact ⟨_, _, HXK.out.cell 2 (by simp), (HOx7.out.below HZ7.out).at, by have := (HOx7.out.blk g7x rfl).1; omega⟩
        · exact ⟨_, _, HXK.out.cell 3 (by simp), (HOx8.out.below HZ8.out).at, by have := (HOx8.out.blk g8x rfl).1; omega⟩
        · exact ⟨_, _, HXK.out.cell 4 (by simp), (HOx9.out.below HZ9.out).at, by have := (HOx9.out.blk g9x rfl).1; omega⟩
        · exact ⟨_, _, HXK.out.cell 5 (by simp), (HOx10.out.below HZ10.out).at, by have := (HOx10.out.blk g10x rfl).1; omega⟩
      have hg_g1x := HOx1.out.blk g1x rfl
      have hg_g1y := HOy1.out.blk g1y rfl
      have hg_g2x := HOx2.out.blk g2x rfl
      have hg_g3x := HOx3.out.blk g3x rfl
      have hg_g4x := HOx4.out.blk g4x rfl
      have hg_g5x := HOx5.out.blk g5x rfl
      have HLW : Hid (∀ j, j < 6 → W2.heap.size ≤ F.gs j ∧ F.gs j < Y5.heap.size) := fun j hj => by
        subst hF
        rcases six hj with rfl | rfl | rfl | rfl | rfl | rfl
        · show W2.heap.size ≤ g1x ∧ g1x < Y5.heap.size; omega
        · show W2.heap.size ≤ g1y ∧ g1y < Y5.heap.size; omega
        · show W2.heap.size ≤ g2x ∧ g2x < Y5.heap.size; omega
        · show W2.heap.size ≤ g3x ∧ g3x < Y5.heap.size; omega
        · show W2.heap.size ≤ g4x ∧ g4x < Y5.heap.size; omega
        · show W2.heap.size ≤ g5x ∧ g5x < Y5.heap.size; omega
      have HON : Hid (∀ i j, i < 6 → j < 6 → F.gs i = F.gs j → i = j) := fun i j hi hj he => by
        have hne := HNE1.out
        subst hF
        rcases six hi with rfl | rfl | rfl | rfl | rfl | rfl <;> rcases six hj with rfl | rfl | rfl | rfl | rfl | rfl <;> simp only [List.getD_cons_zero, List.getD_cons_succ] at he <;> omega
      have HLN : Hid (∀ j, j < 6 → (ls j).length = F.ln j ∧ (1 ≤ F.ln j ∧ F.ln j ≤ 200)) := fun j hj => by
        have h1 := ((HLA.out j hj).cnt).symm
        refine ⟨h1, ?_⟩
        have := HN.out
        have := HIB.out
        subst hF
        rcases six hj with rfl | rfl | rfl | rfl | rfl | rfl <;> simp only [List.getD_cons_zero, List.getD_cons_succ] <;> omega
      have HBX : Hid (RowAt Z b1x #[.int .i64 2, .slice (some ⟨g1x, 0, none⟩) I2 c1x] 30 ∧ RowAt Z b1y #[.int .i64 fr, .slice (some ⟨g1y, 0, none⟩) (n - (I2 + 1)) c1y] 30) := ⟨HXx1.out.below HZ1.out, HXy1.out.below HZ1.out⟩
      have HZ0 : Hid (Below W2.heap.size W2 Z) := by rw [HY0.out] at HT1; exact Below.next HT1.out HZ1.out
      have HHI : Hid (Y5.heap.size ≤ Z.heap.size ∧ W2.heap.size ≤ Y5.heap.size) := ⟨HZ5.out.size, by omega⟩
      have HRA : Hid (Y5.heap.size ≤ ra ∧ Y5.heap.size ≤ rk) := by
        have h10 : Y9.heap.size ≤ v10.heap.size + 1 := by simpa using hs10
        exact ⟨by omega, by omega⟩
      obtain ⟨hi, hhi⟩ : ∃ h, h = Y5.heap.size := ⟨_, rfl⟩
      rw [← hhi] at HLK HLW HHI HRA
      clear hhi hF hls hs xa xk xa2 qk qa qz sa sk hrk hra hROWA
      clear hs1 HT1 HE1 HZ1 HB1
      clear hs2 HT2 HE2 HZ2 HB2
      clear hs3 HT3 HE3 HZ3 HB3
      clear hs4 HT4 HE4 HZ4 HB4
      clear hs5 HT5 HE5 HZ5 HB5
      clear hs6 HT6 HE6 HZ6 HB6
      clear hs7 HT7 HE7 HZ7 HB7
      clear hs8 HT8 HE8 HZ8 HB8
      clear hs9 HT9 HE9 HZ9 HB9
      clear hs10 HT10 HE10 HZ10 HB10
      clear hg_g1x
      clear hg_g1y
      clear hg_g2x
      clear hg_g3x
      clear hg_g4x
      clear hg_g5x
      clear HOx1 HOy1 HOx2 HOx3 HOx4 HOx5 HOx6 HOy6 HOx7 HOx8 HOx9 HOx10 HXx1 HXy1 HXx2 HXx3 HXx4 HXx5 HXx6 HXy6 HXx7 HXx8 HXx9 HXx10 HNE1 HNE6 HCUT HINS HREM HPUT HJOI HB0 HY0 HXA HXK
      refine (linksof_any F ls ra Z HCA.out (fun j hj => (HLA.out j hj).at) (fun j hj => ⟨(HLN.out j hj).1, (HLN.out j hj).2.2⟩)).mono ?_
      rintro e V ⟨us, u, rfl, hul, hou, hcop, hbV⟩
      obtain ⟨rf, cf, hu⟩ : ∃ g c, u = .slice (some ⟨g, 0, none⟩) 6 c := by
        rcases hou.2 with ⟨_, h0⟩ | ⟨g, cap, cur, h', _⟩
        · cases h0
        · exact ⟨g, cap, h'⟩
      subst hu
      have HUL := hide hul
      have HOU := hide hou
      have HCOP := hide hcop
      have HBV := hide hbV
      have HFA : Hid (Fam F W2.heap.size hi V V (filled ls 0 0)) := by
        refine ⟨fun j hj => ?_, HLW.out, HON.out, fun j hj hf => ?_, Nat.le_trans HHI.out.1 hbV.size⟩
        · rw [filled_zero]; exact (HLA.out j hj).below hbV
        · have h1 := HLW.out j hj
          rcases ((HLA.out j hj).below hbV).2 with ⟨h', _⟩ | ⟨g, cap, cur, h', _, hg, _⟩
          · cases h'
          · have e : g = F.gs j := by have := (Value.slice.inj h').1; simp at this; exact this.symm
            subst e
            rcases hf with h | h | ⟨cs, t, fr, h2, h3⟩
            · omega
            · omega
            · rw [hg] at h2
              simp at h2
              exact h3 h2.2.1.symm
      have HALL : Hid (∀ W, Sep W2.heap.size hi V W → ∀ j, j < 6 → W.cell? ⟨ra, j, none⟩ = some (F.at j)) := fun W hs j hj =>
        hs.cell (p := ⟨ra, j, none⟩) ((hbV.cell (p := ⟨ra, j, none⟩) (World.block_lt_of_cell? Z _ (HCA.out j hj))).trans (HCA.out j hj)) (.inr (.inl HRA.out.1))
      clear hul hou hcop hbV HCA HLA
      go_wp2_with fail
      go_loopw [31] (fun x wr => ∃ ii : Nat, ii ≤ 6 ∧ x = .int .i64 (ii : Int) ∧ Fam F W2.heap.size hi V wr (filled ls ii 0) ∧ Sep W2.heap.size hi V wr) (fun x _ => 6 - (intOf x).toNat)
      case atStart => exact ⟨0, Nat.zero_le _, rfl, HFA.out, Sep.refl _ _ _⟩
      case round =>
       as_aux_lemma =>
        obtain ⟨ii, hii, rfl, hfam, hsep⟩ := hrel
        by_cases hlt : ii < 6
        · have hltI : (ii : Int) < 6 := by omega
          have HFM := hide hfam
          have HSP := hide hsep
          clear hfam hsep
          go_wp2_with fail
          go_loopw [32] (fun x wr => ∃ kk : Nat, kk ≤ (ls ii).length ∧ x = .int .i64 (kk : Int) ∧ Fam F W2.heap.size hi V wr (filled ls ii kk) ∧ Sep W2.heap.size hi V wr) (fun x _ => (ls ii).length - (intOf x).toNat)
          case atStart => exact ⟨0, Nat.zero_le _, rfl, HFM.out, HSP.out⟩
          case round =>
           as_aux_lemma =>
            obtain ⟨kk, hkk, rfl, hfam, hsep⟩ := hrel
            have hc := HALL.out wr hsep ii hlt
            have hlen := (hfam.len ii hlt)
            have hlsl := (HLN.out ii hlt).1
            have hown := hfam.own ii hlt
            unfold Six.at at hc hown
            have hown2 : wr.ownsRow W2.heap.size 54 2 (.slice (some ⟨F.gs ii, 0, none⟩) (F.ln ii) (F.cs ii)) (F.ln ii) (lks (filled ls ii kk ii)) := by
              have h := hown
              unfold LkO at h
              rwa [hlen] at h
            by_cases hk : kk < (ls ii).length
            · have hfs := hfam.fill hsep hlt hk
              obtain ⟨o1, z1⟩ : ∃ u, wr.cell? ⟨F.gs ii, kk * 2, none⟩ = some u := by
                rw [World.ownsRow.cellAt hown2 (kk * 2) (by omega)]
                exact ⟨_, List.getElem?_eq_getElem (by rw [lks_length, hlen]; omega)⟩
              obtain ⟨o2, z2⟩ : ∃ u, wr.cell? ⟨F.gs ii, kk * 2 + 1, none⟩ = some u := by
                rw [World.ownsRow.cellAt hown2 (kk * 2 + 1) (by omega)]
                exact ⟨_, List.getElem?_eq_getElem (by rw [lks_length, hlen]; omega)⟩
              have z3 : wr.frozen? ⟨F.gs ii, kk * 2, none⟩ = false := World.ownsRow.frozenAt hown2 _
              have z4 : wr.frozen? ⟨F.gs ii, kk * 2 + 1, none⟩ = false := World.ownsRow.frozenAt hown2 _
              have HFS := hide hfs
              have hkI : (kk : Int) < (F.ln ii : Int) := by omega
              have hk0 : (0 : Int) ≤ (kk : Int) := by omega
              have hi0 : (0 : Int) ≤ (ii : Int) := by omega
              have hwi : IntKind.i64.wrap (100 + (ii : Int)) = 100 + (ii : Int) := by rw [IntKind.wrap_i64]; omega
              have hkb : kk ≤ 200 := by have := HLN.out ii hlt; omega
              clear hfam hsep hown hown2 hfs hlen hlsl
              go_wp2
              go_roundw
              case rel => exact ⟨kk + 1, by omega, by go_num, HFS.out.1, HFS.out.2⟩
              case measure => simp [intOf]; omega
            · have hke : kk = (ls ii).length := by omega
              have HF2 : Hid (Fam F W2.heap.size hi V wr (filled ls (ii + 1) 0)) := by
                have e : filled ls ii kk = filled ls (ii + 1) 0 := by rw [hke]; exact funext (fun j => filled_next ls ii j)
                rw [← e]; exact hfam
              have HS2 := hide hsep
              have hkI : ¬ (kk : Int) < (F.ln ii : Int) := by omega
              have hi0 : (0 : Int) ≤ (ii : Int) := by omega
              clear hfam hsep hown hown2 hlen hlsl hke
              go_wp2
              go_roundw
              case rel => exact ⟨ii + 1, by omega, by go_num, HF2.out, HS2.out⟩
              case measure => simp [intOf]; omega
        · have hi6 : ii = 6 := by omega
          subst hi6
          have hltI : ¬ ((6 : Nat) : Int) < 6 := by omega
          have HFM := hide hfam
          have HSP := hide hsep
          clear hfam hsep HFA
          obtain ⟨MK, hMK⟩ : ∃ f : Nat → List Lk, f = filled ls 6 0 := ⟨_, rfl⟩
          rw [← hMK] at HFM
          have HMK := hide hMK
          clear hMK
          go_wp2_with fail
          go_loopw [30, 33] (fun x y wr => ∃ ii m : Nat, ii ≤ 6 ∧ x = .int .i64 (m : Int) ∧ y = .int .i64 (ii : Int) ∧ (64 * ii ≤ m ∧ m ≤ 300 * ii) ∧ Fam F W2.heap.size hi V wr MK ∧ Sep W2.heap.size hi V wr) (fun _ y _ => 6 - (intOf y).toNat)
          case atStart => exact ⟨0, 0, Nat.zero_le _, rfl, rfl, ⟨by omega, by omega⟩, HFM.out, HSP.out⟩
          case round =>
           as_aux_lemma =>
            obtain ⟨ii, m, hii, rfl, rfl, hm, hfam, hsep⟩ := hrel
            clear HFM HSP
            by_cases hlt2 : ii < 6
            · have hltI2 : (ii : Int) < 6 := by omega
              have hc := HALL.out wr hsep ii hlt2
              unfold Six.at at hc
              have hlb := (HLN.out ii hlt2).2
              obtain ⟨a1, c1, w1, hrun, hgr⟩ := (Grow.init hfam hsep hlt2).step hlt2 (by omega)
              rw [Nat.add_zero] at hrun
              have HGR := hide hgr
              have hi0 : (0 : Int) ≤ (ii : Int) := by omega
              have HM := hide hm
              clear hfam hsep hgr hm
              go_wp2_with (first | (at_builtin; refine wpList_append_run 28 rfl (.tmp 199) (.tmp 201) rfl rfl _ _ rfl rfl _ _ hrun ?_))
              clear hrun hc
              go_loopw [34, 35] (fun x y wq => ∃ (q c : Nat) (a : Option Addr), (1 ≤ q ∧ q ≤ 64) ∧ x = .slice a (F.ln ii + q) c ∧ y = .int .i64 (q : Int) ∧ Grow F W2.heap.size hi V wq MK ii q a c) (fun _ y _ => 64 - (intOf y).toNat)
              case atStart => exact ⟨1, c1, a1, ⟨by omega, by omega⟩, rfl, rfl, HGR.out⟩
              case round =>
               as_aux_lemma =>
                obtain ⟨q, c, a', hq, rfl, rfl, hgr⟩ := hrel
                clear HGR
                by_cases hq6 : q < 64
                · have hqI : (q : Int) < 64 := by omega
                  obtain ⟨a2, c2, w2, hrun, hgr2⟩ := hgr.step hlt2 (by omega)
                  have HG2 := hide hgr2
                  clear hgr hgr2
                  go_wp2_with (first | (at_builtin; refine wpList_append_run 28 rfl (.tmp 207) (.tmp 209) rfl rfl _ _ rfl rfl _ _ hrun ?_))
                  clear hrun
                  go_wp2
                  go_roundw
                  case rel => exact ⟨q + 1, c2, a2, ⟨by omega, by omega⟩, by rw [← Nat.add_assoc], by go_num, HG2.out⟩
                  case measure => simp [intOf]; omega
                · have hq64 : q = 64 := by omega
                  subst hq64
                  have hqI : ¬ ((64 : Nat) : Int) < 64 := by omega
                  have HG2 := hide hgr
                  have hmb := HM.out
                  have hwm : IntKind.i64.wrap ((m : Int) + ((F.ln ii : Int) + 64)) = ((m + (F.ln ii + 64) : Nat) : Int) := by rw [IntKind.wrap_i64]; omega
                  clear hgr
                  go_wp2
                  go_roundw
                  case rel => exact ⟨ii + 1, m + (F.ln ii + 64), by omega, by first | rfl | go_num, by go_num, ⟨by omega, by omega⟩, HG2.out.fam, HG2.out.sep⟩
                  case measure => simp [intOf]; omega
            · have hi6 : ii = 6 := by omega
              subst hi6
              have hltI2 : ¬ ((6 : Nat) : Int) < 6 := by omega
              have HFM := hide hfam
              have HSP := hide hsep
              have HM := hide hm
              clear hfam hsep hm
              have HCK : Hid (∀ ii, ii < 6 → ∀ kk, kk < F.ln ii → wr.cell? ⟨F.gs ii, kk * 2, none⟩ = some (.string ⟨#[109, 97, 114, 107]⟩) ∧ wr.cell? ⟨F.gs ii, kk * 2 + 1, none⟩ = some (.int .i64 (100 + (ii : Int)))) := fun ii hi3 kk hk => by
                have hown := HFM.out.own ii hi3
                have hlen := HFM.out.len ii hi3
                have hmk : MK ii = List.replicate (ls ii).length (mrk ii) := by rw [HMK.out]; unfold filled; rw [if_pos hi3]
                have hget : (MK ii)[kk]'(by omega) = mrk ii := by
                  have h1 : kk < (List.replicate (ls ii).length (mrk ii)).length := by rw [← hmk]; omega
                  have := List.getElem_replicate h1
                  simp [hmk]
                have hown2 : wr.ownsRow W2.heap.size 54 2 (.slice (some ⟨F.gs ii, 0, none⟩) (F.ln ii) (F.cs ii)) (F.ln ii) (lks (MK ii)) := by
                  have h := hown
                  unfold LkO Six.at at h
                  rwa [hlen] at h
                have hg := lks_get (MK ii) kk (by omega)
                rw [hget] at hg
                exact ⟨(World.ownsRow.cellAt hown2 (kk * 2) (by omega)).trans hg.1, (World.ownsRow.cellAt hown2 (kk * 2 + 1) (by omega)).trans hg.2⟩
              go_wp2_with fail
              go_loop [36] (fun x => ∃ ii : Nat, ii ≤ 6 ∧ x = .int .i64 (ii : Int)) (fun x => 6 - (intOf x).toNat)
              case atStart => exact ⟨0, Nat.zero_le _, rfl⟩
              case round =>
               as_aux_lemma =>
                obtain ⟨ii, hii2, rfl⟩ := hrel
                by_cases hlt3 : ii < 6
                · have hltI3 : (ii : Int) < 6 := by omega
                  have hi0 : (0 : Int) ≤ (ii : Int) := by omega
                  have hc := HALL.out wr HSP.out ii hlt3
                  unfold Six.at at hc
                  have hlb := (HLN.out ii hlt3).2
                  go_wp2_with fail
                  go_loop [37] (fun x => ∃ kk : Nat, kk ≤ F.ln ii ∧ x = .int .i64 (kk : Int)) (fun x => F.ln ii - (intOf x).toNat)
                  case atStart => exact ⟨0, Nat.zero_le _, rfl⟩
                  case round =>
                   as_aux_lemma =>
                    obtain ⟨kk, hkk, rfl⟩ := hrel
                    by_cases hk : kk < F.ln ii
                    · obtain ⟨z1, z2⟩ := HCK.out ii hlt3 kk hk
                      have hkI : (kk : Int) < (F.ln ii : Int) := by omega
                      have hk0 : (0 : Int) ≤ (kk : Int) := by omega
                      have hwi : IntKind.i64.wrap (100 + (ii : Int)) = 100 + (ii : Int) := by rw [IntKind.wrap_i64]; omega
                      have hne : (100 + (ii : Int) != 100 + (ii : Int)) = false := by simp
                      go_wp2
                      go_round
                      case rel => exact ⟨kk + 1, by omega, by go_num⟩
                      case measure => simp [intOf]; omega
                    · have hkI : ¬ (kk : Int) < (F.ln ii : Int) := by omega
                      go_wp2
                      go_round
                      case rel => exact ⟨ii + 1, by omega, by go_num⟩
                      case measure => simp [intOf]; omega
                · have hi6 : ii = 6 := by omega
                  subst hi6
                  have hltI3 : ¬ ((6 : Nat) : Int) < 6 := by omega
                  clear HCK HFM HMK
                  obtain ⟨Wg, hWg⟩ : ∃ W, W = wr := ⟨_, rfl⟩
                  subst hWg
                  have HSB : Hid (∀ q, q < 6 → ∃ kv fv : Value, Wg.cell? ⟨rk, q, none⟩ = some kv ∧ Wg.cell? ⟨rf, q, none⟩ = some fv ∧ (∃ g c, kv = .slice (some ⟨g, 0, none⟩) (F.ln q) c) ∧ (∃ a c, fv = .slice a (F.ln q) c) ∧ LkR Wg kv (ls q) ∧ LkR Wg fv (ls q)) := fun q hq => by
                    obtain ⟨g, c, hc1, hr1, hg1⟩ := HLK.out q hq
                    have hqs : q < us.length := by have := HUL.out; omega
                    obtain ⟨xa, xc, he, ho⟩ := HCOP.out q hqs
                    have hrf : Z.heap.size ≤ rf := (World.ownsRow.lt HOU.out rf rfl).1
                    have hcV : V.cell? ⟨rf, q, none⟩ = some (.slice xa (F.ln q) xc) := by
                      rw [World.ownsRow.cellAt HOU.out q (by omega), List.getElem?_eq_getElem hqs, he]
                    refine ⟨_, _, HSP.out.cell (p := ⟨rk, q, none⟩) ((HBV.out.cell (p := ⟨rk, q, none⟩) (World.block_lt_of_cell? Z _ hc1)).trans hc1) (.inr (.inl HRA.out.2)), HSP.out.cell (p := ⟨rf, q, none⟩) hcV (.inr (.inl (Nat.le_trans HHI.out.1 hrf))), ⟨g, c, rfl⟩, ⟨xa, xc, rfl⟩, HSP.out.lkR (hr1.below HBV.out) (fun k hk => ?_), HSP.out.lkR ho.at (fun k hk => .inr (.inl (Nat.le_trans HHI.out.1 (ho.blk k hk).1)))⟩
                    have : k = g := by simpa [Value.ownBlock] using hk.symm
                    rw [this]
                    exact .inr (.inl hg1)
                  go_wp2_with fail
                  go_loopw [38] (fun x wq => ∃ q : Nat, q ≤ 6 ∧ x = .int .i64 (q : Int) ∧ Below Wg.heap.size Wg wq) (fun x _ => 6 - (intOf x).toNat)
                  case atStart => exact ⟨0, Nat.zero_le _, rfl, Below.refl _ _⟩
                  case round =>
                   as_aux_lemma =>
                    obtain ⟨q, hq, rfl, hbq⟩ := hrel
                    by_cases hq6 : q < 6
                    · obtain ⟨kv, fv, k1, k2, ⟨gk, ck, rfl⟩, ⟨af, cf2, rfl⟩, k3, k4⟩ := HSB.out q hq6
                      have hqI : (q : Int) < 6 := by omega
                      have hq0 : (0 : Int) ≤ (q : Int) := by omega
                      have t1 := (hbq.cell (p := ⟨rk, q, none⟩) (World.block_lt_of_cell? Wg _ k1)).trans k1
                      have t2 := (hbq.cell (p := ⟨rf, q, none⟩) (World.block_lt_of_cell? Wg _ k2)).trans k2
                      have HSM := hide (sameb_same 0 _ _ (ls q) _ (by have := (HLN.out q hq6); omega) (k3.below hbq).drew (k4.below hbq).drew)
                      have HBQ := hide hbq
                      clear k1 k2 k3 k4 hbq
                      have hlsI : (0 : Int) ≤ (F.ln q : Int) := by omega
                      go_wp2_with fail
                      go_region_held3 (fun w' => w'.cell? ⟨rk, q, none⟩ = some (.slice (some ⟨gk, 0, none⟩) (F.ln q) ck) ∧ w'.cell? ⟨rf, q, none⟩ = some (.slice af (F.ln q) cf2)) (go_keep)
                        (first | (go_at_call 9; refine HSM.out.mono ?_; rintro e wz ⟨rfl, hbz⟩; have HBZ := hide (Below.next HBQ.out (undrewB hbz)); have m0 : wz.cell? ⟨rk, q, none⟩ = some (.slice (some ⟨gk, 0, none⟩) (F.ln q) ck) := ((undrewB hbz).cell (p := ⟨rk, q, none⟩) (World.block_lt_of_cell? wr _ t1)).trans t1; have m1 : wz.cell? ⟨rf, q, none⟩ = some (.slice af (F.ln q) cf2) := ((undrewB hbz).cell (p := ⟨rf, q, none⟩) (World.block_lt_of_cell? wr _ t2)).trans t2; clear hbz))
                      all_goals (
                        go_wp2
                        go_roundw
                        case rel => exact ⟨q + 1, by omega, by go_num, HBZ.out⟩
                        case measure => simp [intOf]; omega)
                    · have hq6e : q = 6 := by omega
                      subst hq6e
                      have hqI : ¬ ((6 : Nat) : Int) < 6 := by omega
                      have HBQ := hide hbq
                      clear hbq
                      have HTR : Hid (∀ (b : Nat) (cs : Array Value), RowAt Z b cs 30 → RowAt wr b cs 30) := fun b cs h => (HSP.out.row (h.below HBV.out) (by decide)).below HBQ.out
                      have HLT : Hid (∀ (g c base : Nat), g < W2.heap.size → LkO W2 base (.slice (some ⟨g, 0, none⟩) n c) l → LkO wr base (.slice (some ⟨g, 0, none⟩) n c) l) := fun g c base hg h => (HSP.out.lkO ((h.below HZ0.out).below HBV.out) (.inl hg)).below HBQ.out
                      have hx3 := HTR.out _ _ (HX3'.out.below HZ0.out)
                      have hx4 := HTR.out _ _ (HX4.out.below HZ0.out)
                      have ho3 := HLT.out _ _ _ (HO3'.out.blk g3 rfl).2 HO3'.out
                      have ho4 := HLT.out _ _ _ (HO4.out.blk g4 rfl).2 HO4.out
                      have hxx := HTR.out _ _ HBX.out.1
                      have hxy := HTR.out _ _ HBX.out.2
                      have hnx : b1x ≠ g3 := fun he => by
                        subst he
                        rcases (HO3'.out.below HZ0.out).2 with ⟨h', _⟩ | ⟨g, cap, cur, h', _, hg, _⟩
                        · cases h'
                        · have e : g = b1x := by have := (Value.slice.inj h').1; simp at this; exact this.symm
                          subst e
                          have h2 : Z.heap[g]? = _ := HBX.out.1
                          rw [hg] at h2
                          simp at h2
                      have hny : b1y ≠ g3 := fun he => by
                        subst he
                        rcases (HO3'.out.below HZ0.out).2 with ⟨h', _⟩ | ⟨g, cap, cur, h', _, hg, _⟩
                        · cases h'
                        · have e : g = b1y := by have := (Value.slice.inj h').1; simp at this; exact this.symm
                          subst e
                          have h2 : Z.heap[g]? = _ := HBX.out.2
                          rw [hg] at h2
                          simp at h2
                      have hbw : Below W0.heap.size W0 wr := Below.next (below_comp (Below.next (Below.next HA0'.out HZ0.out) HBV.out) (HSP.out.toBelow (by have := HLO.out; omega) (by have := HLO.out; have := HZ0.out.size; have := HBV.out.size; omega))) HBQ.out
                      have HSB2 := hide (sameb_same 2 _ _ l wr (by have := HLL.out; have := HN.out; omega) ho3.at ho4.at)
                      have HWr := hide hbw
                      have HX3w := hide hx3
                      have HO3w := hide ho3
                      have HXXw := hide hxx
                      have HXYw := hide hxy
                      have HNX := hide hnx
                      have HNY := hide hny
                      have p0 := hx3.c0
                      have p1 := hx3.c1
                      have p2 := hx4.c0
                      have p3 := hx4.c1
                      clear hbw hx3 hx4 ho3 ho4 hxx hxy hnx hny HTR HLT HSB HLN HCOP HUL HOU HALL HLK HON HLW HSP HBX HZ0 HBV HHI HRA
                      go_wp2_with fail
                      refine HSB2.out.mono ?_
                      rintro e v1 ⟨rfl, hb1⟩
                      have HB1 := hide hb1
                      clear hb1 p0 p1 p2 p3 HSB2
                      have p0 := (HX3w.out.below HB1.out).c0
                      have p1 := (HX3w.out.below HB1.out).c1
                      have HAN := hide (anew_any A g3 n c3 W0.heap.size l W0 v1 HLL.out HN.out.1 (by have := HN.out; omega) HSZ.out H5.out (HO3w.out.below HB1.out) HE0.out (Below.next HWr.out HB1.out) (Nat.le_refl _))
                      go_wp2_with fail
                      refine HAN.out.mono ?_
                      rintro e v2 ⟨rfl, hb2, hon⟩
                      have HB2 := hide hb2
                      have q1 := (hon.row (HXXw.out.below HB1.out) HNX.out).c1
                      have q2 := (hon.row (HXYw.out.below HB1.out) HNY.out).c1
                      clear hb2 hon p0 p1 HAN
                      have hm1 : (384 : Int) ≤ (m : Int) := by have := HM.out; omega
                      have hi1 : (0 : Int) < (I2 : Int) := by have := HIB.out; omega
                      have hi2 : (0 : Int) < ((n - (I2 + 1) : Nat) : Int) := by have := HIB.out; omega
                      go_wp2
                      go_ret
                      exact ⟨rfl, Below.next HQW.out HB2.out⟩

end Go.Proofs.YtagldlchamlpdabDoor
