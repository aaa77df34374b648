import Derived.Test.YtocfedakjcghnaaDoorCBegun
import Derived.Test.YtocfedakjcghnaaDoorCRef1
namespace Go.Proofs.YtocfedakjcghnaaDoor
open Go.RowKit

set_option maxHeartbeats 1000000 in
theorem great_any (a : Option Addr) (cap n : Nat) (l : List Int) (w : World) (hm : n ≤ 17592186044416) (e1 : l.length = n)
    (h1 : ∀ j (h : j < l.length), ∃ g o, a = some ⟨g, o, none⟩ ∧ w.cell? ⟨g, o + j, none⟩ = some (.int .i64 l[j])) :
    Calls Tryd.prog 24 #[.slice a n cap] w fun e w' => ∃ m : Int, e = .returned (.int .i64 m) ∧ (∀ j (h : j < l.length), l[j] ≤ m) ∧ w = w' := by
  have HE : Hid (l.length = n) := e1
  have H1 := hide h1
  clear e1 h1
  go_enter Tryd.func24, Tryd.ntmps24
  go_wp2
  go_loop [3, 4] (fun r i => ∃ (k : Nat) (m : Int), k ≤ n ∧ i = .int .i64 k ∧ r = .int .i64 m ∧ (∀ j (h : j < l.length), j < k → l[j] ≤ m)) (fun _ i => n - (intOf i).toNat)
  case atStart => exact ⟨0, 0, Nat.zero_le _, rfl, rfl, fun j h h' => by omega⟩
  case round =>
    obtain ⟨k, m, hk, rfl, rfl, hf⟩ := hrel
    have HF := hide hf
    clear hf
    by_cases hlt : k < n
    · have hk1 : k < l.length := by have := HE.out; omega
      obtain ⟨g, o, rfl, f1⟩ := H1.out k hk1
      obtain ⟨x, hx⟩ : ∃ x, x = l[k] := ⟨_, rfl⟩
      rw [← hx] at f1
      have HX := hide hx
      clear hx H1
      by_cases hx1 : m < x
      · go_wp2
        go_round
        case rel =>
          refine ⟨k + 1, x, by omega, by go_num, rfl, fun j hj hjk => ?_⟩
          by_cases hjj : j = k
          · subst hjj; rw [HX.out]; exact Int.le_refl _
          · have := HF.out j hj (by omega); omega
        case measure => simp [intOf]; omega
      · go_wp2
        go_round
        case rel =>
          refine ⟨k + 1, m, by omega, by go_num, rfl, fun j hj hjk => ?_⟩
          by_cases hjj : j = k
          · subst hjj; rw [← HX.out]; omega
          · exact HF.out j hj (by omega)
        case measure => simp [intOf]; omega
    · have HFF : Hid (∀ j (h : j < l.length), l[j] ≤ m) := fun j hj => HF.out j hj (by have := HE.out; omega)
      clear H1 HF
      go_wp2
      go_ret
      exact ⟨m, rfl, HFF.out, rfl⟩

set_option maxRecDepth 100000 in
set_option maxHeartbeats 16000000 in
theorem even_any (A : Nat → Addr) (v : Value) (l : List Int) (w : World) (hm : l.length ≤ 17592186043904) (hr : RowR w v (ints l)) (hE : ErrsG 4 gAll A w) :
    Calls Tryd.prog 8 #[v] w fun e w' => e = .returned (.bool true) ∧ Below w.heap.size w w' := by
  have HR := hide hr
  have HER := hide hE
  have hform : ∃ a c, v = .slice a l.length c := by
    obtain ⟨a, c, rfl, _⟩ := hr
    exact ⟨a, c, by rw [ints_length]⟩
  obtain ⟨va, vc, rfl⟩ := hform
  obtain ⟨n, hn⟩ : ∃ n, n = l.length := ⟨_, rfl⟩
  rw [← hn] at hm HR
  rw [← hn]
  have HE : Hid (l.length = n) := hn.symm
  clear hr hE hn
  go_enter Tryd.func8, Tryd.ntmps8
  go_wp2_with fail
  refine (begun_any A w HER.out).mono ?_
  rintro e w1 ⟨rfl, hb1⟩
  obtain ⟨a2, c2, w2, hrun2, ho2, hg2⟩ := append_row 49 3 _ 8 info3 Tryd.underlying49 rfl w1.heap.size 0 (.slice none 0 0) [] w1 (World.ownsRow_nil _ _ _ _) _ _ (HR.out.below hb1) (ints_one l) (by rw [ints_length, HE.out]; omega) (by decide) (Nat.le_refl _)
  rw [ints_length, HE.out, Nat.zero_add] at hrun2 ho2
  rw [List.nil_append] at ho2
  have hb2 : Below w1.heap.size w1 w2 := (Below.refl _ _).grown hg2 (Nat.le_refl _) (fun j hj => by cases hj)
  have hb12 := Below.next hb1 hb2
  obtain ⟨a3, c3, w3, hrun3, ho3, hg3⟩ := append_row 49 3 _ 8 info3 Tryd.underlying49 rfl w2.heap.size 0 (.slice none 0 0) [] w2 (World.ownsRow_nil _ _ _ _) _ _ (HR.out.below hb12) (ints_one l) (by rw [ints_length, HE.out]; omega) (by decide) (Nat.le_refl _)
  rw [ints_length, HE.out, Nat.zero_add] at hrun3 ho3
  rw [List.nil_append] at ho3
  have hb3 : Below w2.heap.size w2 w3 := (Below.refl _ _).grown hg3 (Nat.le_refl _) (fun j hj => by cases hj)
  have HB3 := hide (Below.next hb12 hb3)
  have HI2 := hide (rowR_of_owns (owns_below ho2 hb3))
  have HI3 := hide (rowR_of_owns ho3)
  clear hb1 hb2 hb3 hb12 ho2 ho3 hg2 hg3
  go_wp2_with (first | (at_builtin; refine wpList_append_run 49 rfl (.tmp 20) (.tmp 21) rfl rfl _ _ rfl rfl _ _ hrun2 ?_) | (at_builtin; refine wpList_append_run 49 rfl (.tmp 23) (.tmp 24) rfl rfl _ _ rfl rfl _ _ hrun3 ?_))
  clear hrun2 hrun3
  refine (cut_any A _ l w3 (by rw [HE.out]; omega) HI2.out.ints (errs_below HER.out HB3.out)).mono ?_
  rintro e w4 ⟨hcv, hb4⟩
  have HB4 := hide (Below.next HB3.out hb4)
  have HI4 := hide (HI3.out.below hb4)
  obtain ⟨i1, n1, ev1, rfl, hcn1, hno1⟩ := hcv.num
  have HC1 : Hid (CutV A 2 (gapC l) l (.returned (.tuple #[.int .i64 (i1 : Int), ev1]))) := hcv
  clear hb4 HB3 HI2 HI3 hcv hcn1 hno1
  go_wp2_with fail
  refine (pivot_any A _ l w4 (by rw [HE.out]; omega) HI4.out.ints (errs_below HER.out HB4.out)).mono ?_
  rintro e w5 ⟨hcv, hb5⟩
  have HBB := hide (Below.next HB4.out hb5)
  obtain ⟨i2, n2, ev2, rfl, hcn2, hno2⟩ := hcv.num
  have HC2 : Hid (CutV A 3 (gapP l) l (.returned (.tuple #[.int .i64 (i2 : Int), ev2]))) := hcv
  have hcells : ∀ j (h : j < l.length), ∃ g o, va = some ⟨g, o, none⟩ ∧ w5.cell? ⟨g, o + j, none⟩ = some (.int .i64 l[j]) := by
    obtain ⟨a', c', he, _, hc⟩ := (HR.out.below HBB.out).ints
    cases he
    exact hc
  have HFI := hide (xfine_any va vc n l w5 (by omega) HE.out hcells)
  have HGT := hide (great_any va vc n l w5 (by omega) HE.out hcells)
  have HSM := hide (fun u t (hut : u ≤ t) (htn : t ≤ n) (hF : FineL l) => xsum_any va vc n u t l w5 (by omega) HE.out hut htn hF hcells)
  clear hb5 HB4 HI4 hcv hcn2 hno2 hcells HR
  by_cases hF : FineL l
  · have HF2 : Hid (Calls Tryd.prog 23 #[.slice va n vc] w5 fun e w' => e = .returned (.bool true) ∧ w5 = w') := by
      refine HFI.out.mono ?_
      rintro e w' ⟨h | h, rfl⟩
      · exact ⟨h.2, rfl⟩
      · exact absurd hF h.1
    have HF := hide hF
    clear HFI hF
    by_cases hn2 : n < 2
    · have he1 : ev1 = .iface 86 (.pointer (some (A 3))) := by
        rcases HC1.out with ⟨_, h⟩ | ⟨h, _⟩ | ⟨h, _⟩
        · cases h; rfl
        · rw [HE.out] at h; omega
        · rw [HE.out] at h; omega
      have he2 : ev2 = .iface 86 (.pointer (some (A 3))) := by
        rcases HC2.out with ⟨_, h⟩ | ⟨h, _⟩ | ⟨h, _⟩
        · cases h; rfl
        · rw [HE.out] at h; omega
        · rw [HE.out] at h; omega
      subst he1 he2
      have t2 : ¬ (2 : Int) ≤ (n : Int) := by omega
      have t3 : ¬ (3 : Int) ≤ (n : Int) := by omega
      clear HC1 HC2 HSM
      go_wp2_with fail
      refine HF2.out.mono ?_
      rintro e wq ⟨rfl, rfl⟩
      go_wp2_with fail
      refine HGT.out.mono ?_
      rintro e wq ⟨m, rfl, hgr, rfl⟩
      clear hgr
      go_wp2
      go_ret
      exact ⟨rfl, HBB.out⟩
    · have hb1 : ev1 = .nilIface ∧ IsBest (gapC l) (n - 1) i1 := by
        rcases HC1.out with ⟨h, _⟩ | ⟨_, h, _⟩ | ⟨_, _, i, h, hi⟩
        · rw [HE.out] at h; omega
        · exact absurd HF.out h
        · simp only [Ending.returned.injEq, Value.tuple.injEq, Array.mk.injEq, List.cons.injEq, Value.int.injEq, true_and, and_true] at h
          have : i1 = i := by omega
          subst this
          rw [HE.out] at hi
          exact ⟨h.2, hi⟩
      obtain ⟨rfl, hbest1⟩ := hb1
      have HB1 := hide hbest1
      have t2 : (2 : Int) ≤ (n : Int) := by omega
      obtain ⟨T, hT⟩ : ∃ T, T = pre l n := ⟨_, rfl⟩
      have HTT := hide hT
      have HPB := hide (fun j hj => pre_bound HF.out j hj)
      have HPM := hide (fun i j h1 h2 => pre_mono HF.out i j h1 h2)
      have HA : Hid (∀ j, j ≤ n → Calls Tryd.prog 26 #[.slice va n vc, .int .i64 0, .int .i64 (j : Int)] w5 fun e w' => e = .returned (.int .i64 (pre l j)) ∧ w5 = w') := fun j hj => by
        have h := HSM.out 0 j (Nat.zero_le _) hj HF.out
        rw [pre_zero, Int.sub_zero] at h
        exact h
      have HBS : Hid (∀ j, j ≤ n → Calls Tryd.prog 26 #[.slice va n vc, .int .i64 (j : Int), .int .i64 (n : Int)] w5 fun e w' => e = .returned (.int .i64 (T - pre l j)) ∧ w5 = w') := fun j hj => by
        have h := HSM.out j n hj (Nat.le_refl _) HF.out
        rw [← HTT.out] at h
        exact h
      have HCC : Hid (∀ j, 1 ≤ j → j + 1 ≤ n → Calls Tryd.prog 25 #[.int .i64 (pre l j), .int .i64 (T - pre l j)] w5 fun e w' => e = .returned (.int .i64 ((gapC l j : Nat) : Int)) ∧ w5 = w') := fun j h1 h2 => by
        have b1 := HPB.out j (by rw [HE.out]; omega)
        have b2 := HPB.out n (by rw [HE.out]; omega)
        have b3 := HPM.out j n (by omega) (by rw [HE.out]; omega)
        rw [← HTT.out] at b2 b3
        have h := xapart_any (pre l j) (T - pre l j) w5 ⟨b1.1, by omega⟩ ⟨by omega, by omega⟩
        have e : gapC l j = (pre l j - (T - pre l j)).natAbs := by unfold gapC; rw [HE.out, ← HTT.out]
        rw [e]; exact h
      have HCP : Hid (∀ j, 1 ≤ j → j + 2 ≤ n → Calls Tryd.prog 25 #[.int .i64 (pre l j), .int .i64 (T - pre l (j + 1))] w5 fun e w' => e = .returned (.int .i64 ((gapP l j : Nat) : Int)) ∧ w5 = w') := fun j h1 h2 => by
        have b1 := HPB.out j (by rw [HE.out]; omega)
        have b2 := HPB.out n (by rw [HE.out]; omega)
        have b3 := HPM.out (j + 1) n (by omega) (by rw [HE.out]; omega)
        have b4 := HPB.out (j + 1) (by rw [HE.out]; omega)
        rw [← HTT.out] at b2 b3
        have h := xapart_any (pre l j) (T - pre l (j + 1)) w5 ⟨b1.1, by omega⟩ ⟨by omega, by omega⟩
        have e : gapP l j = (pre l j - (T - pre l (j + 1))).natAbs := by unfold gapP; rw [HE.out, ← HTT.out]
        rw [e]; exact h
      clear HC1 hbest1 hT HSM HPB HPM
      by_cases hn3 : n < 3
      · have he2 : ev2 = .iface 86 (.pointer (some (A 3))) := by
          rcases HC2.out with ⟨_, h⟩ | ⟨h, _⟩ | ⟨h, _⟩
          · cases h; rfl
          · rw [HE.out] at h; omega
          · rw [HE.out] at h; omega
        subst he2
        have t3 : ¬ (3 : Int) ≤ (n : Int) := by omega
        clear HC2
        go_wp2_with fail
        refine HF2.out.mono ?_
        rintro e wq ⟨rfl, rfl⟩
        go_wp2_with fail
        refine HGT.out.mono ?_
        rintro e wq ⟨m, rfl, hgr, rfl⟩
        have HGR := hide hgr
        clear hgr t2 t3
        have HGI := hide (HB1.out.2)
        have HIL : Hid (1 ≤ i1 ∧ i1 + 1 ≤ n) := ⟨HB1.out.1.1, by have := HB1.out.1; omega⟩
        have hi1 : ¬ (i1 : Int) < 1 := by have := HIL.out; omega
        have hi2 : ¬ (n : Int) - 1 < (i1 : Int) := by have := HIL.out; omega
        have hwn : IntKind.i64.wrap ((n : Int) - 1) = (n : Int) - 1 := by rw [IntKind.wrap_i64]; omega
        have HEV : Hid (((gapC l i1 : Nat) : Int) ≤ m) := cut_even HF.out (by rw [HE.out]; omega) HGR.out (by rw [HE.out]; exact HB1.out)
        have hle : ¬ m < ((gapC l i1 : Nat) : Int) := by have := HEV.out; omega
        have K1 := hide (HA.out i1 (by have := HIL.out; omega))
        have K2 := hide (HBS.out i1 (by have := HIL.out; omega))
        have K3 := hide (HCC.out i1 HIL.out.1 HIL.out.2)
        obtain ⟨d, hd⟩ : ∃ d, d = gapC l i1 := ⟨_, rfl⟩
        rw [← hd] at hle K3
        have HD := hide hd
        obtain ⟨pa, hpa⟩ : ∃ p, p = pre l i1 := ⟨_, rfl⟩
        obtain ⟨pb, hpb⟩ : ∃ p, p = T - pre l i1 := ⟨_, rfl⟩
        rw [← hpb] at K2 K3
        rw [← hpa] at K1 K3
        clear hd hpa hpb
        go_wp2_with fail
        refine K1.out.mono ?_
        rintro e wq ⟨rfl, rfl⟩
        go_wp2_with fail
        refine K2.out.mono ?_
        rintro e wq ⟨rfl, rfl⟩
        go_wp2_with fail
        refine K3.out.mono ?_
        rintro e wq ⟨rfl, rfl⟩
        go_wp2_with fail
        clear K1 K2 K3 hi1 hi2 hwn hle
        go_loop [13] (fun i => ∃ j : Nat, 1 ≤ j ∧ j + 1 ≤ n + 1 ∧ i = .int .i64 j) (fun i => n - (intOf i).toNat)
        case atStart => exact ⟨1, Nat.le_refl _, by have := HIL.out; omega, rfl⟩
        case round =>
          obtain ⟨j, hj1, hj2, rfl⟩ := hrel
          by_cases hlt : j + 1 ≤ n
          · have hltI : (j : Int) < (n : Int) := by omega
            have M1 := hide (HA.out j (by omega))
            have M2 := hide (HBS.out j (by omega))
            have M3 := hide (HCC.out j hj1 (by omega))
            have HJ := hide (HGI.out j hj1 (by omega))
            obtain ⟨o, ho⟩ : ∃ o, o = gapC l j := ⟨_, rfl⟩
            rw [← ho] at M3 HJ
            rw [← HD.out] at HJ
            obtain ⟨qa, hqa⟩ : ∃ p, p = pre l j := ⟨_, rfl⟩
            obtain ⟨qb, hqb⟩ : ∃ p, p = T - pre l j := ⟨_, rfl⟩
            rw [← hqb] at M2 M3
            rw [← hqa] at M1 M3
            have o1 : ¬ (o : Int) < (d : Int) := by have := HJ.out.1; omega
            clear ho hqa hqb
            by_cases hji : j < i1
            · have o2 : ((o : Int) == (d : Int)) = false := by
                rw [beq_eq_false_iff_ne]; have := HJ.out.2 hji; omega
              have hjI : (j : Int) < (i1 : Int) := by omega
              go_wp2_with fail
              refine M1.out.mono ?_
              rintro e wq ⟨rfl, rfl⟩
              go_wp2_with fail
              refine M2.out.mono ?_
              rintro e wq ⟨rfl, rfl⟩
              go_wp2_with fail
              refine M3.out.mono ?_
              rintro e wq ⟨rfl, rfl⟩
              go_wp2
              all_goals
                go_round
                case rel => exact ⟨j + 1, by omega, by omega, by go_num⟩
                case measure => simp [intOf]; omega
            · have hjI : ¬ (j : Int) < (i1 : Int) := by omega
              go_wp2_with fail
              refine M1.out.mono ?_
              rintro e wq ⟨rfl, rfl⟩
              go_wp2_with fail
              refine M2.out.mono ?_
              rintro e wq ⟨rfl, rfl⟩
              go_wp2_with fail
              refine M3.out.mono ?_
              rintro e wq ⟨rfl, rfl⟩
              go_wp2
              go_round
              case rel => exact ⟨j + 1, by omega, by omega, by go_num⟩
              case measure => simp [intOf]; omega
          · have hltI : ¬ (j : Int) < (n : Int) := by omega
            go_wp2
            go_ret
            exact ⟨rfl, HBB.out⟩
      · have hb2 : ev2 = .nilIface ∧ IsBest (gapP l) (n - 2) i2 := by
          rcases HC2.out with ⟨h, _⟩ | ⟨_, h, _⟩ | ⟨_, _, i, h, hi⟩
          · rw [HE.out] at h; omega
          · exact absurd HF.out h
          · simp only [Ending.returned.injEq, Value.tuple.injEq, Array.mk.injEq, List.cons.injEq, Value.int.injEq, true_and, and_true] at h
            have : i2 = i := by omega
            subst this
            rw [HE.out] at hi
            exact ⟨h.2, hi⟩
        obtain ⟨rfl, hbest2⟩ := hb2
        have HB2 := hide hbest2
        have t3 : (3 : Int) ≤ (n : Int) := by omega
        clear HC2 hbest2
        go_wp2_with fail
        refine HF2.out.mono ?_
        rintro e wq ⟨rfl, rfl⟩
        go_wp2_with fail
        refine HGT.out.mono ?_
        rintro e wq ⟨m, rfl, hgr, rfl⟩
        have HGR := hide hgr
        clear hgr t2 t3
        have HGI := hide (HB1.out.2)
        have HIL : Hid (1 ≤ i1 ∧ i1 + 1 ≤ n) := ⟨HB1.out.1.1, by have := HB1.out.1; omega⟩
        have hi1 : ¬ (i1 : Int) < 1 := by have := HIL.out; omega
        have hi2 : ¬ (n : Int) - 1 < (i1 : Int) := by have := HIL.out; omega
        have hwn : IntKind.i64.wrap ((n : Int) - 1) = (n : Int) - 1 := by rw [IntKind.wrap_i64]; omega
        have HEV : Hid (((gapC l i1 : Nat) : Int) ≤ m) := cut_even HF.out (by rw [HE.out]; omega) HGR.out (by rw [HE.out]; exact HB1.out)
        have hle : ¬ m < ((gapC l i1 : Nat) : Int) := by have := HEV.out; omega
        have K1 := hide (HA.out i1 (by have := HIL.out; omega))
        have K2 := hide (HBS.out i1 (by have := HIL.out; omega))
        have K3 := hide (HCC.out i1 HIL.out.1 HIL.out.2)
        obtain ⟨d, hd⟩ : ∃ d, d = gapC l i1 := ⟨_, rfl⟩
        rw [← hd] at hle K3
        have HD := hide hd
        obtain ⟨pa, hpa⟩ : ∃ p, p = pre l i1 := ⟨_, rfl⟩
        obtain ⟨pb, hpb⟩ : ∃ p, p = T - pre l i1 := ⟨_, rfl⟩
        rw [← hpb] at K2 K3
        rw [← hpa] at K1 K3
        clear hd hpa hpb
        go_wp2_with fail
        refine K1.out.mono ?_
        rintro e wq ⟨rfl, rfl⟩
        go_wp2_with fail
        refine K2.out.mono ?_
        rintro e wq ⟨rfl, rfl⟩
        go_wp2_with fail
        refine K3.out.mono ?_
        rintro e wq ⟨rfl, rfl⟩
        go_wp2_with fail
        clear K1 K2 K3 hi1 hi2 hwn hle
        go_loop [13] (fun i => ∃ j : Nat, 1 ≤ j ∧ j + 1 ≤ n + 1 ∧ i = .int .i64 j) (fun i => n - (intOf i).toNat)
        case atStart => exact ⟨1, Nat.le_refl _, by have := HIL.out; omega, rfl⟩
        case round =>
          obtain ⟨j, hj1, hj2, rfl⟩ := hrel
          by_cases hlt : j + 1 ≤ n
          · have hltI : (j : Int) < (n : Int) := by omega
            have M1 := hide (HA.out j (by omega))
            have M2 := hide (HBS.out j (by omega))
            have M3 := hide (HCC.out j hj1 (by omega))
            have HJ := hide (HGI.out j hj1 (by omega))
            obtain ⟨o, ho⟩ : ∃ o, o = gapC l j := ⟨_, rfl⟩
            rw [← ho] at M3 HJ
            rw [← HD.out] at HJ
            obtain ⟨qa, hqa⟩ : ∃ p, p = pre l j := ⟨_, rfl⟩
            obtain ⟨qb, hqb⟩ : ∃ p, p = T - pre l j := ⟨_, rfl⟩
            rw [← hqb] at M2 M3
            rw [← hqa] at M1 M3
            have o1 : ¬ (o : Int) < (d : Int) := by have := HJ.out.1; omega
            clear ho hqa hqb
            by_cases hji : j < i1
            · have o2 : ((o : Int) == (d : Int)) = false := by
                rw [beq_eq_false_iff_ne]; have := HJ.out.2 hji; omega
              have hjI : (j : Int) < (i1 : Int) := by omega
              go_wp2_with fail
              refine M1.out.mono ?_
              rintro e wq ⟨rfl, rfl⟩
              go_wp2_with fail
              refine M2.out.mono ?_
              rintro e wq ⟨rfl, rfl⟩
              go_wp2_with fail
              refine M3.out.mono ?_
              rintro e wq ⟨rfl, rfl⟩
              go_wp2
              all_goals
                go_round
                case rel => exact ⟨j + 1, by omega, by omega, by go_num⟩
                case measure => simp [intOf]; omega
            · have hjI : ¬ (j : Int) < (i1 : Int) := by omega
              go_wp2_with fail
              refine M1.out.mono ?_
              rintro e wq ⟨rfl, rfl⟩
              go_wp2_with fail
              refine M2.out.mono ?_
              rintro e wq ⟨rfl, rfl⟩
              go_wp2_with fail
              refine M3.out.mono ?_
              rintro e wq ⟨rfl, rfl⟩
              go_wp2
              go_round
              case rel => exact ⟨j + 1, by omega, by omega, by go_num⟩
              case measure => simp [intOf]; omega
          · have hltI : ¬ (j : Int) < (n : Int) := by omega
            clear HGI HIL HD hltI
            have HGI := hide (HB2.out.2)
            have HIL : Hid (1 ≤ i2 ∧ i2 + 2 ≤ n) := ⟨HB2.out.1.1, by have := HB2.out.1; omega⟩
            have hi1 : ¬ (i2 : Int) < 1 := by have := HIL.out; omega
            have hi2 : ¬ (n : Int) - 2 < (i2 : Int) := by have := HIL.out; omega
            have hwn : IntKind.i64.wrap ((n : Int) - 2) = (n : Int) - 2 := by rw [IntKind.wrap_i64]; omega
            have hwi : IntKind.i64.wrap ((i2 : Int) + 1) = ((i2 + 1 : Nat) : Int) := by rw [IntKind.wrap_i64]; have := HIL.out; omega
            have HEV : Hid (((gapP l i2 : Nat) : Int) ≤ m) := pivot_even HF.out (by rw [HE.out]; omega) HGR.out (by rw [HE.out]; exact HB2.out)
            have hle : ¬ m < ((gapP l i2 : Nat) : Int) := by have := HEV.out; omega
            have K1 := hide (HA.out i2 (by have := HIL.out; omega))
            have K2 := hide (HBS.out (i2 + 1) (by have := HIL.out; omega))
            have K3 := hide (HCP.out i2 HIL.out.1 HIL.out.2)
            obtain ⟨d, hd⟩ : ∃ d, d = gapP l i2 := ⟨_, rfl⟩
            rw [← hd] at hle K3
            have HD := hide hd
            obtain ⟨pa, hpa⟩ : ∃ p, p = pre l i2 := ⟨_, rfl⟩
            obtain ⟨pb, hpb⟩ : ∃ p, p = T - pre l (i2 + 1) := ⟨_, rfl⟩
            rw [← hpb] at K2 K3
            rw [← hpa] at K1 K3
            clear hd hpa hpb
            go_wp2_with fail
            refine K1.out.mono ?_
            rintro e wq ⟨rfl, rfl⟩
            go_wp2_with fail
            refine K2.out.mono ?_
            rintro e wq ⟨rfl, rfl⟩
            go_wp2_with fail
            refine K3.out.mono ?_
            rintro e wq ⟨rfl, rfl⟩
            go_wp2_with fail
            clear K1 K2 K3 hi1 hi2 hwn hle hwi
            go_loop [16] (fun i => ∃ j : Nat, 1 ≤ j ∧ j + 2 ≤ n + 1 ∧ i = .int .i64 j) (fun i => n - (intOf i).toNat)
            case atStart => exact ⟨1, Nat.le_refl _, by have := HIL.out; omega, rfl⟩
            case round =>
              obtain ⟨j, hj1, hj2, rfl⟩ := hrel
              have hwm : IntKind.i64.wrap ((n : Int) - 1) = (n : Int) - 1 := by rw [IntKind.wrap_i64]; omega
              by_cases hlt : j + 2 ≤ n
              · have hltI : (j : Int) < (n : Int) - 1 := by omega
                have M1 := hide (HA.out j (by omega))
                have M2 := hide (HBS.out (j + 1) (by omega))
                have M3 := hide (HCP.out j hj1 (by omega))
                have HJ := hide (HGI.out j hj1 (by omega))
                obtain ⟨o, ho⟩ : ∃ o, o = gapP l j := ⟨_, rfl⟩
                rw [← ho] at M3 HJ
                rw [← HD.out] at HJ
                obtain ⟨qa, hqa⟩ : ∃ p, p = pre l j := ⟨_, rfl⟩
                obtain ⟨qb, hqb⟩ : ∃ p, p = T - pre l (j + 1) := ⟨_, rfl⟩
                rw [← hqb] at M2 M3
                rw [← hqa] at M1 M3
                have o1 : ¬ (o : Int) < (d : Int) := by have := HJ.out.1; omega
                have hwj : IntKind.i64.wrap ((j : Int) + 1) = ((j + 1 : Nat) : Int) := by rw [IntKind.wrap_i64]; omega
                clear ho hqa hqb
                by_cases hji : j < i2
                · have o2 : ((o : Int) == (d : Int)) = false := by
                    rw [beq_eq_false_iff_ne]; have := HJ.out.2 hji; omega
                  have hjI : (j : Int) < (i2 : Int) := by omega
                  go_wp2_with fail
                  refine M1.out.mono ?_
                  rintro e wq ⟨rfl, rfl⟩
                  go_wp2_with fail
                  refine M2.out.mono ?_
                  rintro e wq ⟨rfl, rfl⟩
                  go_wp2_with fail
                  refine M3.out.mono ?_
                  rintro e wq ⟨rfl, rfl⟩
                  go_wp2
                  all_goals
                    go_round
                    case rel => exact ⟨j + 1, by omega, by omega, by go_num⟩
                    case measure => simp [intOf]; omega
                · have hjI : ¬ (j : Int) < (i2 : Int) := by omega
                  go_wp2_with fail
                  refine M1.out.mono ?_
                  rintro e wq ⟨rfl, rfl⟩
                  go_wp2_with fail
                  refine M2.out.mono ?_
                  rintro e wq ⟨rfl, rfl⟩
                  go_wp2_with fail
                  refine M3.out.mono ?_
                  rintro e wq ⟨rfl, rfl⟩
                  go_wp2
                  go_round
                  case rel => exact ⟨j + 1, by omega, by omega, by go_num⟩
                  case measure => simp [intOf]; omega
              · have hltI : ¬ (j : Int) < (n : Int) - 1 := by omega
                go_wp2
                go_ret
                exact ⟨rfl, HBB.out⟩
  · have HF2 : Hid (Calls Tryd.prog 23 #[.slice va n vc] w5 fun e w' => e = .returned (.bool false) ∧ w5 = w') := by
      refine HFI.out.mono ?_
      rintro e w' ⟨h | h, rfl⟩
      · exact absurd h.1 hF
      · exact ⟨h.2, rfl⟩
    obtain ⟨x1, he1⟩ : ∃ x, ev1 = .iface 86 (.pointer (some (A x))) := by
      rcases HC1.out with ⟨_, h⟩ | ⟨_, _, h⟩ | ⟨_, h, _⟩
      · cases h; exact ⟨3, rfl⟩
      · cases h; exact ⟨0, rfl⟩
      · exact absurd h hF
    obtain ⟨x2, he2⟩ : ∃ x, ev2 = .iface 86 (.pointer (some (A x))) := by
      rcases HC2.out with ⟨_, h⟩ | ⟨_, _, h⟩ | ⟨_, h, _⟩
      · cases h; exact ⟨3, rfl⟩
      · cases h; exact ⟨0, rfl⟩
      · exact absurd h hF
    subst he1 he2
    clear HC1 HC2 HSM HFI hF
    go_wp2_with fail
    refine HF2.out.mono ?_
    rintro e wq ⟨rfl, rfl⟩
    go_wp2_with fail
    refine HGT.out.mono ?_
    rintro e wq ⟨m, rfl, hgr, rfl⟩
    clear hgr
    go_wp2
    go_ret
    exact ⟨rfl, HBB.out⟩

end Go.Proofs.YtocfedakjcghnaaDoor
