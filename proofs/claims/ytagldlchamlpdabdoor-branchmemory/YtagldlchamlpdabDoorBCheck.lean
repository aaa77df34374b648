import Derived.Test.YtagldlchamlpdabDoorBChk1
import Derived.Test.YtagldlchamlpdabDoorBChk2
import Derived.Test.YtagldlchamlpdabDoorTwn2
import Derived.Test.YtagldlchamlpdabDoorLErr
namespace Go.Proofs.YtagldlchamlpdabDoor
open Go.RowKit

/-- The refusals that the branch knows lie in their variables. -/
def ErrK (A : Nat → Addr) (w : World) : Prop := ErrsG 5 gAll A w ∧ w.cell? ⟨7, 0, none⟩ = some (.iface 167 (.pointer (some (A 11))))
theorem ErrK.below {A : Nat → Addr} {w w' : World} (h : ErrK A w) (hb : Below w.heap.size w w') : ErrK A w' :=
  ⟨h.1.keep hb, (hb.cell (p := ⟨7, 0, none⟩) (World.block_lt_of_cell? w _ h.2)).trans h.2⟩
theorem errK_all {A : Nat → Addr} {w : World} (h : ErrsG 13 gAll A w) : ErrK A w := ⟨h.weak (by decide), (h.1 11 (by decide)).1⟩
theorem ErrK.c {A : Nat → Addr} {w : World} (h : ErrK A w) : ErrC A w := ⟨h.1.weak (by decide), h.2⟩

/-- What Check answers, by what it asks. -/
def chkV (n : Nat) (b1 b2 b3 root : Bool) (x : Int) : Option Nat :=
  if n = 0 then some 3 else if b1 = false then some 0 else if b2 = false then some 11 else if b3 = true then some 4 else if (4072 : Int) < x then some 2 else if root = false ∧ x < 1777 then some 3 else none
theorem chkV_eq (f : Int) (l : List Lk) (root : Bool) (hm : l.length ≤ 5864062014805) : chkV l.length (childB f && l.all mayK) (decide (RiseK l)) (decide (¬ (kids f l).Nodup)) root (wsz (szB l)) = chkB f l root := by
  unfold chkV chkB
  by_cases h0 : l = []
  · subst h0; rfl
  · rw [if_neg (by simpa using h0), if_neg h0]
    cases h1 : (childB f && l.all mayK) with
    | false => simp
    | true =>
      simp only [Bool.true_eq_false, if_false]
      have ha : l.all mayK = true := by
        rw [Bool.and_eq_true] at h1; exact h1.2
      have hs := szB_may ha
      have hw : wsz (szB l) = (szB l : Int) := wsz_small (by omega)
      rw [hw]
      by_cases h2 : RiseK l
      · simp only [h2, decide_true, Bool.true_eq_false, if_false, not_true_eq_false]
        by_cases h3 : (kids f l).Nodup
        · simp only [h3, not_true_eq_false, decide_false, Bool.false_eq_true, if_false]
          by_cases h4 : 4072 < szB l
          · rw [if_pos (by omega), if_pos h4]
          · rw [if_neg (by omega), if_neg h4]
            by_cases h5 : root = false ∧ szB l < 1777
            · rw [if_pos ⟨h5.1, by omega⟩, if_pos h5]
            · rw [if_neg (fun h => h5 ⟨h.1, by omega⟩), if_neg h5]
        · simp [h3]
      · simp [h2]

set_option maxRecDepth 20000 in
set_option maxHeartbeats 4000000 in
theorem bcheck_any (A : Nat → Addr) (f : Int) (v : Value) (l : List Lk) (root : Bool) (w : World) (hok : OkK l) (hm : l.length ≤ 5864062014805) (hr : LkR w v l) (hE : ErrK A w) :
    Calls Tryd.prog 11 #[.agg #[.int .i64 f, v], .bool root] w fun e w' => e = .returned (errV A (chkB f l root)) ∧ Below w.heap.size w w' := by
  rw [← chkV_eq f l root hm]
  obtain ⟨a, cap, hv⟩ := hr.form
  subst hv
  obtain ⟨n, hn⟩ : ∃ n, n = l.length := ⟨_, rfl⟩
  rw [← hn] at hr hm ⊢
  have q0 := below_new w (.cells #[.int .i64 f, .slice a n cap] 30)
  have x0 := RowAt.new w #[.int .i64 f, .slice a n cap] 30
  generalize hW0 : w.alloc (.cells #[.int .i64 f, .slice a n cap] 30) = W0 at *
  have p0 := x0.c0
  have p1 := x0.c1
  have HQ := hide q0
  have HX := hide x0
  have HE := hide (hE.below q0)
  have HR := hide (hr.below q0)
  have H1 := hide (bsize_any f _ l W0 hok (by omega) HR.out)
  have H2 : Hid (∀ W, Below W0.heap.size W0 W → Calls Tryd.prog 30 #[.agg #[.int .i64 f, .slice a n cap]] W fun e w' => e = .returned (.bool (childB f && l.all mayK)) ∧ Below W.heap.size W w') := fun W h => allmay_any f _ l W (by omega) (HR.out.below h)
  have H3 : Hid (∀ W, Below W0.heap.size W0 W → Calls Tryd.prog 31 #[.slice a n cap] W fun e w' => e = .returned (.bool (decide (RiseK l))) ∧ Below W.heap.size W w') := fun W h => rising_any _ l W (by omega) (HR.out.below h)
  have H4 : Hid (∀ W, Below W0.heap.size W0 W → Calls Tryd.prog 32 #[.agg #[.int .i64 f, .slice a n cap]] W fun e w' => e = .returned (.bool (decide (¬ (kids f l).Nodup))) ∧ Below W.heap.size W w') := fun W h => twins_any f _ l W (by omega) (HR.out.below h)
  obtain ⟨b1, hb1⟩ : ∃ b, b = (childB f && l.all mayK) := ⟨_, rfl⟩
  obtain ⟨b2, hb2⟩ : ∃ b, b = decide (RiseK l) := ⟨_, rfl⟩
  obtain ⟨b3, hb3⟩ : ∃ b, b = decide (¬ (kids f l).Nodup) := ⟨_, rfl⟩
  obtain ⟨x, hx⟩ : ∃ x, x = wsz (szB l) := ⟨_, rfl⟩
  rw [← hb1] at H2 ⊢
  rw [← hb2] at H3 ⊢
  rw [← hb3] at H4 ⊢
  rw [← hx] at H1 ⊢
  clear hn hr hE hok q0 x0 hb1 hb2 hb3 hx HR
  have HC : Hid (∀ W k, Below W0.heap.size W0 W → k < 5 → W.cell? ⟨gAll k, 0, none⟩ = some (.iface 167 (.pointer (some (A k))))) := fun W k h hk => ((HE.out.below h).1.1 k hk).1
  go_enter Tryd.func11, Tryd.ntmps11
  go_wp2_with fail
  refine H1.out.mono ?_
  rintro e w1 ⟨rfl, hb1⟩
  have HB1 := hide hb1
  have o0 := (HX.out.below hb1).c0
  have o1 := (HX.out.below hb1).c1
  clear hb1 H1 p0 p1
  by_cases h0 : n = 0
  · subst h0
    have c3 : w1.cell? ⟨3, 0, none⟩ = some (.iface 167 (.pointer (some (A 3)))) := HC.out w1 3 HB1.out (by decide)
    have HB := hide (Below.next HQ.out HB1.out)
    clear H2 H3 H4
    go_wp2
    go_ret
    exact ⟨rfl, HB.out⟩
  · have hd0 : ((n : Int) == 0) = false := by rw [beq_eq_false_iff_ne]; omega
    have HV1 : Hid (chkV n b1 b2 b3 root x = if b1 = false then some 0 else if b2 = false then some 11 else if b3 = true then some 4 else if (4072 : Int) < x then some 2 else if root = false ∧ x < 1777 then some 3 else none) := by show _ = _; unfold chkV; rw [if_neg h0]
    go_wp2_with fail
    refine (H2.out _ HB1.out).mono ?_
    rintro e w2 ⟨rfl, hb2⟩
    have HB2 := hide (Below.next HB1.out hb2)
    clear hb2 H2 o0 o1 HB1
    have o0 := (HX.out.below HB2.out).c0
    have o1 := (HX.out.below HB2.out).c1
    cases b1 with
    | false =>
      have c0 : w2.cell? ⟨1, 0, none⟩ = some (.iface 167 (.pointer (some (A 0)))) := HC.out w2 0 HB2.out (by decide)
      have HB := hide (Below.next HQ.out HB2.out)
      clear H3 H4
      go_wp2
      go_ret
      exact ⟨by rw [HV1.out]; rfl, HB.out⟩
    | true =>
      go_wp2_with fail
      refine (H3.out _ HB2.out).mono ?_
      rintro e w3 ⟨rfl, hb3⟩
      have HB3 := hide (Below.next HB2.out hb3)
      clear hb3 H3 o0 o1 HB2
      have o0 := (HX.out.below HB3.out).c0
      have o1 := (HX.out.below HB3.out).c1
      cases b2 with
      | false =>
        have c11 : w3.cell? ⟨7, 0, none⟩ = some (.iface 167 (.pointer (some (A 11)))) := (HE.out.below HB3.out).2
        have HB := hide (Below.next HQ.out HB3.out)
        clear H4
        go_wp2
        go_ret
        exact ⟨by rw [HV1.out]; rfl, HB.out⟩
      | true =>
        go_wp2_with fail
        refine (H4.out _ HB3.out).mono ?_
        rintro e w4 ⟨rfl, hb4⟩
        have HB4 := hide (Below.next HB3.out hb4)
        clear hb4 H4 o0 o1 HB3
        cases b3 with
        | true =>
          have c4 : w4.cell? ⟨4, 0, none⟩ = some (.iface 167 (.pointer (some (A 4)))) := HC.out w4 4 HB4.out (by decide)
          have HB := hide (Below.next HQ.out HB4.out)
          go_wp2
          go_ret
          exact ⟨by rw [HV1.out]; rfl, HB.out⟩
        | false =>
          have HB := hide (Below.next HQ.out HB4.out)
          by_cases h4 : (4072 : Int) < x
          · have c2 : w4.cell? ⟨2, 0, none⟩ = some (.iface 167 (.pointer (some (A 2)))) := HC.out w4 2 HB4.out (by decide)
            have hv2 : chkV n true true false root x = some 2 := by rw [HV1.out]; simp [h4]
            have HV2 := hide hv2
            clear hv2
            go_wp2
            go_ret
            exact ⟨by rw [HV2.out]; rfl, HB.out⟩
          · cases root with
            | true =>
              have hv2 : chkV n true true false true x = none := by rw [HV1.out]; simp [h4]
              have HV2 := hide hv2
              clear hv2
              go_wp2
              go_ret
              exact ⟨by rw [HV2.out]; rfl, HB.out⟩
            | false =>
              by_cases h5 : x < 1777
              · have c3 : w4.cell? ⟨3, 0, none⟩ = some (.iface 167 (.pointer (some (A 3)))) := HC.out w4 3 HB4.out (by decide)
                have hv2 : chkV n true true false false x = some 3 := by rw [HV1.out]; simp [h4, h5]
                have HV2 := hide hv2
                clear hv2
                go_wp2
                go_ret
                exact ⟨by rw [HV2.out]; rfl, HB.out⟩
              · have hv2 : chkV n true true false false x = none := by rw [HV1.out]; simp [h4, h5]
                have HV2 := hide hv2
                clear hv2
                go_wp2
                go_ret
                exact ⟨by rw [HV2.out]; rfl, HB.out⟩

end Go.Proofs.YtagldlchamlpdabDoor
