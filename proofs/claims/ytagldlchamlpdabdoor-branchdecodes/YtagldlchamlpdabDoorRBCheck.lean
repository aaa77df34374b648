import Derived.Test.YtagldlchamlpdabDoorRBChk
import Derived.Test.YtagldlchamlpdabDoorBCheck
namespace Go.Proofs.YtagldlchamlpdabDoor
open Go.RowKit

theorem all_take_succ (l : List Lk) (k : Nat) (h : k < l.length) : (l.take (k + 1)).all mayK = ((l.take k).all mayK && mayK l[k]) := by
  rw [List.take_succ_eq_append_getElem h, List.all_append]; simp

set_option maxRecDepth 20000 in
set_option maxHeartbeats 4000000 in
theorem rbcheck_any (f : Int) (v : Value) (l : List Lk) (root : Bool) (w : World) (hm : l.length ≤ 5864062014805) (hr : LkR w v l) :
    Calls Tryd.prog 67 #[.agg #[.int .i64 f, v], .bool root] w fun e w' => e = .returned (.int .i64 (numE (chkB f l root) : Int)) ∧ Below w.heap.size w w' := by
  rw [← chkV_eq f l root hm]
  obtain ⟨a, cap, hv⟩ := hr.form
  subst hv
  obtain ⟨n, hn⟩ : ∃ n, n = l.length := ⟨_, rfl⟩
  rw [← hn] at hr hm ⊢
  have q0 := below_new w (.cells #[.int .i64 f, .slice a n cap] 30)
  have x0 := RowAt.new w #[.int .i64 f, .slice a n cap] 30
  generalize hW0 : w.alloc (.cells #[.int .i64 f, .slice a n cap] 30) = W0 at *
  have p0 := x0.c0
  have p1 := x0.c1
  have HQ := hide q0
  have HX := hide x0
  have HR := hide (hr.below q0)
  have HN := hide hn
  have HNN := hide hn
  have HM := hide hm
  have H1 : Hid (∀ W, Below W0.heap.size W0 W → Calls Tryd.prog 87 #[.agg #[.int .i64 f, .slice a n cap]] W fun e w' => e = .returned (.int .i64 (wsz (szB l))) ∧ Below W.heap.size W w') := fun W h => rbsize_any f _ l W (by have := HNN.out; have := HM.out; omega) (HR.out.below h)
  have H4 : Hid (∀ W, Below W0.heap.size W0 W → Calls Tryd.prog 86 #[.agg #[.int .i64 f, .slice a n cap]] W fun e w' => e = .returned (.bool (decide (¬ (kids f l).Nodup))) ∧ Below W.heap.size W w') := fun W h => ralike_any f _ l W (by have := HNN.out; have := HM.out; omega) (HR.out.below h)
  obtain ⟨b1, hb1⟩ : ∃ b, b = (childB f && l.all mayK) := ⟨_, rfl⟩
  obtain ⟨b2, hb2⟩ : ∃ b, b = decide (RiseK l) := ⟨_, rfl⟩
  obtain ⟨b3, hb3⟩ : ∃ b, b = decide (¬ (kids f l).Nodup) := ⟨_, rfl⟩
  obtain ⟨x, hx⟩ : ∃ x, x = wsz (szB l) := ⟨_, rfl⟩
  rw [← hb1, ← hb2, ← hb3, ← hx]
  rw [← hb3] at H4
  rw [← hx] at H1
  have HB1 := hide hb1
  have HB2 := hide hb2
  clear hn hr q0 x0 hb1 hb2 hb3 hx
  have HM2 : Hid (n ≤ 5864062014805) := HM.out
  obtain ⟨Q, hQ⟩ : ∃ Q : Ending → World → Prop, Q = fun e w' => e = .returned (.int .i64 (numE (chkV n b1 b2 b3 root x) : Int)) ∧ Below w.heap.size w w' := ⟨_, rfl⟩
  rw [← hQ]
  have HQQ := hide hQ
  clear hQ
  by_cases h0 : n = 0
  · subst h0
    go_enter Tryd.func67, Tryd.ntmps67
    go_wp2
    rw [HQQ.out]
    exact ⟨rfl, HQ.out⟩
  · have hd0 : ((n : Int) == 0) = false := by rw [beq_eq_false_iff_ne]; omega
    have HV1 : Hid (chkV n b1 b2 b3 root x = if b1 = false then some 0 else if b2 = false then some 11 else if b3 = true then some 4 else if (4072 : Int) < x then some 2 else if root = false ∧ x < 1777 then some 3 else none) := by show _ = _; unfold chkV; rw [if_neg h0]
    have HC := hide (rchild_any f W0)
    have HT0 : Hid (childB f = (childB f && (l.take 0).all mayK)) := by show _ = _; simp
    go_enter Tryd.func67, Tryd.ntmps67
    go_wp2_with fail
    refine HC.out.mono ?_
    rintro e w1 ⟨rfl, rfl⟩
    clear HC p0 p1
    go_wp2
    go_loopw [5, 6] (fun fi i wr => ∃ k : Nat, k ≤ n ∧ i = .int .i64 k ∧ fi = .bool (childB f && (l.take k).all mayK) ∧ Below W0.heap.size W0 wr) (fun _ i _ => n - (intOf i).toNat)
    case atStart => exact ⟨0, Nat.zero_le _, rfl, congrArg Value.bool HT0.out, Below.refl _ _⟩
    case round =>
      obtain ⟨k, hk, rfl, rfl, hbw⟩ := hrel
      clear HT0
      have p1 := (HX.out.below hbw).c1
      by_cases hlt : k < n
      · have hkl : k < l.length := by have := HN.out; omega
        obtain ⟨g, o, rfl, c1, c2⟩ := (HR.out.below hbw).spot k hkl
        have hltI : (k : Int) < (n : Int) := by omega
        have j0 : (0 : Int) ≤ (k : Int) := by omega
        have HS : Hid ((childB f && (l.take (k + 1)).all mayK) = ((childB f && (l.take k).all mayK) && (childB l[k].2 && decide (1 ≤ l[k].1.size) && decide (l[k].1.size ≤ 255)))) := by
          show _ = _
          rw [all_take_succ l k hkl, Bool.and_assoc]
          congr 2
          unfold mayK childB
          rw [Bool.eq_iff_iff]
          simp only [Bool.and_eq_true, decide_eq_true_eq]
          constructor
          · rintro ⟨a1, a2, a3, a4⟩; exact ⟨⟨⟨a3, a4⟩, a1⟩, a2⟩
          · rintro ⟨⟨⟨a3, a4⟩, a1⟩, a2⟩; exact ⟨a1, a2, a3, a4⟩
        have HCH := hide (rchild_any l[k].2 wr)
        obtain ⟨fi, hfi⟩ : ∃ fi, fi = (childB f && (l.take k).all mayK) := ⟨_, rfl⟩
        rw [← hfi] at HS ⊢
        obtain ⟨fn, hfn⟩ : ∃ fn, fn = (childB f && (l.take (k + 1)).all mayK) := ⟨_, rfl⟩
        rw [← hfn] at HS
        have HFN := hide hfn
        clear hfn
        generalize l[k].1 = s1 at *
        generalize l[k].2 = s2 at *
        generalize childB s2 = cb at *
        have HBW := hide hbw
        clear hbw hfi
        by_cases h1 : 1 ≤ s1.size
        · have i1 : (1 : Int) ≤ (s1.size : Int) := by omega
          by_cases h2 : s1.size ≤ 255
          · have i2 : (s1.size : Int) ≤ 255 := by omega
            go_wp2_with fail
            refine HCH.out.mono ?_
            rintro e w1 ⟨rfl, rfl⟩
            cases fi <;> cases cb
            all_goals
              go_wp2
              go_roundw
              case rel => exact ⟨k + 1, by omega, by go_num, by rw [← HFN.out, HS.out, decide_eq_true h1, decide_eq_true h2]; rfl, HBW.out⟩
              case measure => simp [intOf]; omega
          · have i2 : ¬ (s1.size : Int) ≤ 255 := by omega
            go_wp2_with fail
            refine HCH.out.mono ?_
            rintro e w1 ⟨rfl, rfl⟩
            cases fi <;> cases cb
            all_goals
              go_wp2
              go_roundw
              case rel => exact ⟨k + 1, by omega, by go_num, by rw [← HFN.out, HS.out, decide_eq_true h1, decide_eq_false h2]; first | rfl | exact congrArg Value.bool (decide_eq_false (by omega)), HBW.out⟩
              case measure => simp [intOf]; omega
        · have i1 : ¬ (1 : Int) ≤ (s1.size : Int) := by omega
          go_wp2_with fail
          refine HCH.out.mono ?_
          rintro e w1 ⟨rfl, rfl⟩
          cases fi <;> cases cb
          all_goals
            go_wp2
            go_roundw
            case rel => exact ⟨k + 1, by omega, by go_num, by rw [← HFN.out, HS.out, decide_eq_false h1]; simp, HBW.out⟩
            case measure => simp [intOf]; omega
      · have hall : l.take k = l := by rw [List.take_of_length_le]; have := HN.out; omega
        rw [hall, ← HB1.out]
        have hltI : ¬ (k : Int) < (n : Int) := by omega
        have HBW := hide hbw
        clear hall hbw
        cases b1 with
        | false =>
          go_wp2
          rw [HQQ.out]
          exact ⟨by rw [HV1.out]; rfl, Below.next HQ.out HBW.out⟩
        | true =>
          go_wp2
          clear p1
          go_loopw [9] (fun i wr2 => ∃ k : Nat, 1 ≤ k ∧ k ≤ n ∧ i = .int .i64 k ∧ (∀ i (hi : i + 1 < l.length), i + 1 < k → ltK l[i].1 l[i + 1].1 = true) ∧ Below W0.heap.size W0 wr2) (fun i _ => n - (intOf i).toNat)
          case atStart => exact ⟨1, Nat.le_refl _, by omega, rfl, fun i _ h => absurd h (by omega), HBW.out⟩
          case round =>
            obtain ⟨m, hm1, hmn, rfl, hpre, hbw⟩ := hrel
            have HP := hide hpre
            clear hpre HBW
            have p1 := (HX.out.below hbw).c1
            by_cases hlt : m < n
            · have hkl : m < l.length := by have := HN.out; omega
              have hk1l : m - 1 < l.length := by omega
              obtain ⟨g, o, ha, c1, c2⟩ := (HR.out.below hbw).spot m hkl
              subst ha
              obtain ⟨g', o', ha', d1, d2⟩ := (HR.out.below hbw).spot (m - 1) hk1l
              cases ha'
              have HST : Hid (ltK (l[m - 1]'hk1l).1 l[m].1 = true → ∀ i (hi : i + 1 < l.length), i + 1 < m + 1 → ltK l[i].1 l[i + 1].1 = true) := fun h => riseK_step hkl HP.out (fun _ => h)
              have HNO : Hid (ltK (l[m - 1]'hk1l).1 l[m].1 = false → ¬ RiseK l) := fun h hr => by
                have := hr (m - 1) (by omega)
                simp only [show m - 1 + 1 = m by omega] at this
                rw [h] at this; cases this
              obtain ⟨k1, hk1⟩ : ∃ k1, k1 = m - 1 := ⟨_, rfl⟩
              have hw1 : IntKind.i64.wrap ((m : Int) - 1) = (k1 : Int) := by rw [IntKind.wrap_i64]; omega
              have hltI2 : (m : Int) < (n : Int) := by omega
              have j0 : (0 : Int) ≤ (m : Int) := by omega
              have j1 : (k1 : Int) < (n : Int) := by omega
              have j2 : (0 : Int) ≤ (k1 : Int) := by omega
              generalize (l[m - 1]'hk1l).1 = y1 at *
              generalize l[m].1 = x1 at *
              rw [← hk1] at d1
              have HBW := hide hbw
              clear hbw hk1 c2 d2 hk1l
              cases hb : ltK y1 x1 with
              | true =>
                have hbl : Op.bytesLess x1.toList y1.toList = false := ltK_asymm hb
                have hbe : (x1.toList == y1.toList) = false := by
                  rw [beq_eq_false_iff_ne]
                  intro he
                  have : ltK y1 x1 = false := by unfold ltK; rw [he]; exact bless_irrefl _
                  rw [hb] at this; cases this
                have hbe2 : ¬ x1.toList = y1.toList := by simpa using hbe
                have HS2 := hide (HST.out hb)
                clear hb HST HNO
                go_wp2
                go_quiet (fail)
                go_wp2
                go_roundw
                case rel => exact ⟨m + 1, by omega, by omega, by go_num, HS2.out, below_drewN' HBW.out _⟩
                case measure => simp [intOf]; omega
              | false =>
                have HS2 := hide (HNO.out hb)
                by_cases hxy : ltK x1 y1 = true
                · have hbl : Op.bytesLess x1.toList y1.toList = true := hxy
                  clear hb hxy HST HNO
                  go_wp2
                  go_quiet (fail)
                  go_wp2
                  rw [HQQ.out]
                  have hb2 : b2 = false := by rw [HB2.out]; exact decide_eq_false HS2.out
                  exact ⟨by rw [HV1.out, hb2]; rfl, below_drewN' (Below.next HQ.out HBW.out) _⟩
                · have hxe : x1 = y1 := ltK_total (by cases h : ltK x1 y1 <;> simp_all) hb
                  subst hxe
                  have hbl : (x1.toList == x1.toList) = true := by simp
                  clear hb hxy HST HNO
                  go_wp2
                  go_quiet (fail)
                  go_wp2
                  rw [HQQ.out]
                  have hb2 : b2 = false := by rw [HB2.out]; exact decide_eq_false HS2.out
                  exact ⟨by rw [HV1.out, hb2]; rfl, below_drewN' (Below.next HQ.out HBW.out) _⟩
            · have hltI2 : ¬ (m : Int) < (n : Int) := by omega
              have hb2 : b2 = true := by
                rw [HB2.out]
                exact decide_eq_true (fun i hi => HP.out i hi (by have := HN.out; omega))
              subst hb2
              have p0 := (HX.out.below hbw).c0
              have HBW := hide hbw
              clear hbw HP
              go_wp2_with fail
              refine (H4.out _ HBW.out).mono ?_
              rintro e w3 ⟨rfl, hb3⟩
              have HB3 := hide (Below.next HBW.out hb3)
              clear hb3 H4 p0 p1 HBW
              cases b3 with
              | true =>
                go_wp2
                rw [HQQ.out]
                exact ⟨by rw [HV1.out]; rfl, Below.next HQ.out HB3.out⟩
              | false =>
                have p0 := (HX.out.below HB3.out).c0
                have p1 := (HX.out.below HB3.out).c1
                go_wp2_with fail
                refine (H1.out _ HB3.out).mono ?_
                rintro e w4 ⟨rfl, hb4⟩
                have HB4 := hide (Below.next HB3.out hb4)
                clear hb4 H1 p0 p1 HB3
                have HB := hide (Below.next HQ.out HB4.out)
                by_cases h4 : (4072 : Int) < x
                · have hv2 : chkV n true true false root x = some 2 := by rw [HV1.out]; simp [h4]
                  have HV2 := hide hv2
                  clear hv2
                  go_wp2
                  rw [HQQ.out]
                  exact ⟨by rw [HV2.out]; rfl, HB.out⟩
                · cases root with
                  | true =>
                    have hv2 : chkV n true true false true x = none := by rw [HV1.out]; simp [h4]
                    have HV2 := hide hv2
                    clear hv2
                    go_wp2
                    rw [HQQ.out]
                    exact ⟨by rw [HV2.out]; rfl, HB.out⟩
                  | false =>
                    by_cases h5 : x < 1777
                    · have hv2 : chkV n true true false false x = some 3 := by rw [HV1.out]; simp [h4, h5]
                      have HV2 := hide hv2
                      clear hv2
                      go_wp2
                      rw [HQQ.out]
                      exact ⟨by rw [HV2.out]; rfl, HB.out⟩
                    · have hv2 : chkV n true true false false x = none := by rw [HV1.out]; simp [h4, h5]
                      have HV2 := hide hv2
                      clear hv2
                      go_wp2
                      rw [HQQ.out]
                      exact ⟨by rw [HV2.out]; rfl, HB.out⟩

end Go.Proofs.YtagldlchamlpdabDoor
