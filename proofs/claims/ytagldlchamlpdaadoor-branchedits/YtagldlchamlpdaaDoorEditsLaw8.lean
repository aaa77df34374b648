import Derived.Test.YtagldlchamlpdaaDoorBRet
import Derived.Test.YtagldlchamlpdaaDoorBPick2
import Derived.Test.YtagldlchamlpdaaDoorLErrB
import Derived.Test.YtagldlchamlpdaaDoorBSame
import Derived.Test.YtagldlchamlpdaaDoorBInsF
import Derived.Test.YtagldlchamlpdaaDoorBPutF
import Derived.Test.YtagldlchamlpdaaDoorRBEd1
import Derived.Test.YtagldlchamlpdaaDoorRBEd2
import Derived.Test.YtagldlchamlpdaaDoorRBEd3
namespace Go.Proofs.YtagldlchamlpdaaDoor
open Go.RowKit

theorem RowAt.c7 {w : World} {b : Nat} {x0 x1 x2 x3 x4 x5 x6 : Value} {t : TypeId} (h : RowAt w b #[x0, x1, x2, x3, x4, x5, x6] t) : w.cell? ⟨b, 0, none⟩ = some x0 ∧ w.cell? ⟨b, 1, none⟩ = some x1 ∧ w.cell? ⟨b, 2, none⟩ = some x2 ∧ w.cell? ⟨b, 3, none⟩ = some x3 ∧ w.cell? ⟨b, 4, none⟩ = some x4 ∧ w.cell? ⟨b, 5, none⟩ = some x5 :=
  ⟨h.cell 0 (by simp), h.cell 1 (by simp), h.cell 2 (by simp), h.cell 3 (by simp), h.cell 4 (by simp), h.cell 5 (by simp)⟩
theorem PickAt.uniq {l : List Lk} {key : ByteArray} {p q : Nat} (h : PickAt l key p) (k : PickAt l key q) : p = q := by
  rcases Nat.lt_trichotomy p q with hl | hl | hl
  · obtain ⟨j, rfl⟩ : ∃ j, q = j + 1 := ⟨q - 1, by omega⟩
    have h1 := h.2.1 j (by have := k.1; omega) (by omega)
    rw [k.2.2 j (by have := k.1; omega) rfl] at h1
    cases h1
  · exact hl
  · obtain ⟨j, rfl⟩ : ∃ j, p = j + 1 := ⟨p - 1, by omega⟩
    have h1 := k.2.1 j (by have := h.1; omega) (by omega)
    rw [h.2.2 j (by have := h.1; omega) rfl] at h1
    cases h1
/-- The refusal where there is none of that number. -/
def noE (b : Bool) : Option Nat := if b then none else some 0
theorem noE_kinds (b : Bool) : noE b = none ∨ noE b = some 0 ∨ noE b = some 2 ∨ noE b = some 3 ∨ noE b = some 4 ∨ noE b = some 11 := by
  cases b
  · exact .inr (.inl rfl)
  · exact .inl rfl

set_option maxRecDepth 20000 in
set_option maxHeartbeats 16000000 in
theorem edits_any (A : Nat → Addr) (f : Int) (l : List Lk) (a : Option Addr) (c : Nat) (key lk : ByteArray) (i lc : Int) (root : Bool) (w : World) (hl : l.length ≤ 5864062014634) (hr : LkR w (.slice a l.length c) l) (hE : ErrsG 13 gAll A w) :
    Calls Tryd.prog 5 #[.agg #[.int .i64 f, .slice a l.length c, .string key, .int .i64 i, .string lk, .int .i64 lc, .bool root]] w fun e w' => e = .returned (.bool true) ∧ Below w.heap.size w w' := by
  obtain ⟨n, hn⟩ : ∃ n, n = l.length := ⟨_, rfl⟩
  rw [← hn] at hr ⊢
  have q0 := below_new w (.cells #[.int .i64 f, .slice a n c, .string key, .int .i64 i, .string lk, .int .i64 lc, .bool root] 55)
  have x0 := RowAt.new w #[.int .i64 f, .slice a n c, .string key, .int .i64 i, .string lk, .int .i64 lc, .bool root] 55
  generalize hW0 : w.alloc (.cells #[.int .i64 f, .slice a n c, .string key, .int .i64 i, .string lk, .int .i64 lc, .bool root] 55) = W0 at *
  have HX0 := hide x0
  have HQ0 := hide q0
  have HR := hide (hr.below q0)
  have HE := hide (hE.keep q0)
  have HN := hide hn
  have HL := hide hl
  obtain ⟨p0, p1, p2, p3, p4, p5⟩ := x0.c7
  clear q0 x0 hr hE hn hl
  go_enter Tryd.func5, Tryd.ntmps5
  go_wp2_with fail
  refine (lent_any f _ l W0 (by have := HL.out; omega) HR.out).mono ?_
  rintro e w1 ⟨ua, uc, rfl, ho1, hb1⟩
  rw [← HN.out] at ho1 ⊢
  have q1 := below_new w1 (.cells #[.int .i64 f, .slice ua n uc] 27)
  have x1 := RowAt.new w1 #[.int .i64 f, .slice ua n uc] 27
  generalize hW1 : w1.alloc (.cells #[.int .i64 f, .slice ua n uc] 27) = W1 at *
  have HB1 := hide (Below.next hb1 q1)
  have HX1 := hide x1
  have ho2 := ho1.below q1
  have htk : (l ++ marksK 4).take n = l := by rw [HN.out, List.take_left]
  have r1 := ho2.at.take (m := n) (by rw [HN.out]; omega)
  rw [htk] at r1
  have HM := hide ho2.at
  have HR1 := hide r1
  have HXW := hide (HX0.out.below HB1.out)
  have HRX := hide (HR.out.below HB1.out)
  have HEW := hide (HE.out.keep HB1.out)
  have HBO := hide (Below.next HQ0.out HB1.out)
  have HLm : Hid (l.length ≤ 5864062014800) := by have := HL.out; show _ ≤ _; omega
  clear ho1 ho2 hb1 q1 x1 p0 p1 p2 p3 p4 p5 htk r1 HB1 HX0 HQ0 HR HE hW0
  obtain ⟨hc, hhc⟩ : ∃ b, b = hasC l i := ⟨_, rfl⟩
  obtain ⟨hk, hhk⟩ : ∃ b, b = hasLk l i := ⟨_, rfl⟩
  obtain ⟨ev, hev⟩ : ∃ x, x = errV A (noE hc) := ⟨_, rfl⟩
  obtain ⟨nm, hnm⟩ : ∃ x : Int, x = (numE (noE hc) : Int) := ⟨_, rfl⟩
  obtain ⟨ew, hew⟩ : ∃ x, x = errV A (noE hk) := ⟨_, rfl⟩
  obtain ⟨nw, hnw⟩ : ∃ x : Int, x = (numE (noE hk) : Int) := ⟨_, rfl⟩
  obtain ⟨ch, hch⟩ : ∃ x : Int, x = if hc then childN f l i else 0 := ⟨_, rfl⟩
  obtain ⟨f2, hf2⟩ : ∃ x : Int, x = if hc then putF f i.toNat lc else 0 := ⟨_, rfl⟩
  obtain ⟨l2, hl2⟩ : ∃ x : List Lk, x = if hc then putL l i.toNat lc else [] := ⟨_, rfl⟩
  obtain ⟨f3, hf3⟩ : ∃ x : Int, x = if hc then f else 0 := ⟨_, rfl⟩
  obtain ⟨l3, hl3⟩ : ∃ x : List Lk, x = if hc then insL l i.toNat (lk, lc) else [] := ⟨_, rfl⟩
  obtain ⟨f4, hf4⟩ : ∃ x : Int, x = if hk then f else 0 := ⟨_, rfl⟩
  obtain ⟨l4, hl4⟩ : ∃ x : List Lk, x = if hk then remL l i.toNat else [] := ⟨_, rfl⟩
  obtain ⟨m2, hm2⟩ : ∃ x, x = l2.length := ⟨_, rfl⟩
  obtain ⟨m3, hm3⟩ : ∃ x, x = l3.length := ⟨_, rfl⟩
  obtain ⟨m4, hm4⟩ : ∃ x, x = l4.length := ⟨_, rfl⟩
  have HPI : Hid (∀ W, Below W1.heap.size W1 W → Calls Tryd.prog 23 #[.agg #[.int .i64 f, .slice ua n uc], .string key] W fun e w' => ∃ p : Nat, e = .returned (.int .i64 (p : Int)) ∧ PickAt l key p ∧ Below W.heap.size W w') := fun W h => by
    refine (bpick_any f _ l key W (by have := HL.out; omega) (HR1.out.below h)).mono ?_
    rintro e w' ⟨⟨p, rfl, hp⟩, hb⟩
    exact ⟨p, rfl, hp, hb⟩
  have HRPI : Hid (∀ W, Below W1.heap.size W1 W → Calls Tryd.prog 25 #[.agg #[.int .i64 f, .slice a n c], .string key] W fun e w' => ∃ p : Nat, e = .returned (.int .i64 (p : Int)) ∧ PickAt l key p ∧ Below W.heap.size W w') := fun W h => by
    refine (rbpick_any f _ l key W (by have := HL.out; omega) (HRX.out.below h)).mono ?_
    rintro e w' ⟨⟨p, rfl, hp⟩, hb⟩
    exact ⟨p, rfl, hp, hb⟩
  have HCH : Hid (∀ W, Below W1.heap.size W1 W → Calls Tryd.prog 12 #[.agg #[.int .i64 f, .slice ua n uc], .int .i64 i] W fun e w' => e = .returned (.tuple #[.int .i64 ch, ev]) ∧ Below W.heap.size W w') := fun W h => by
    refine (bchild_any A f i _ l W (by have := HL.out; omega) (HR1.out.below h) (errC_all (HEW.out.keep h))).mono ?_
    rintro e w' ⟨rfl, hb⟩
    refine ⟨?_, hb⟩
    rw [hch, hev, hhc]
    unfold ChildV noE errV
    cases hasC l i <;> rfl
  have HRCH : Hid (∀ W, Below W1.heap.size W1 W → Calls Tryd.prog 24 #[.agg #[.int .i64 f, .slice a n c], .int .i64 i] W fun e w' => e = .returned (.tuple #[.int .i64 ch, .int .i64 nm]) ∧ Below W.heap.size W w') := fun W h => by
    refine (rbchild_any f i _ l W (by have := HL.out; omega) (HRX.out.below h)).mono ?_
    rintro e w' ⟨rfl, hb⟩
    refine ⟨?_, hb⟩
    rw [hch, hnm, hhc]
    unfold RChildV noE numE
    cases hasC l i <;> rfl
  have HPU : Hid (∀ W, Below W1.heap.size W1 W → Calls Tryd.prog 15 #[.agg #[.int .i64 f, .slice ua n uc], .int .i64 i, .int .i64 lc] W fun e w' => ∃ va vc, e = .returned (.tuple #[.agg #[.int .i64 f2, .slice va m2 vc], ev]) ∧ LkO w' W.heap.size (.slice va m2 vc) l2 ∧ Below W.heap.size W w') := fun W h => by
    refine (bput_any A f i lc _ l W HLm.out (HR1.out.below h) (errC_all (HEW.out.keep h))).mono ?_
    rintro e w' ⟨hv, hb⟩
    rcases hv with ⟨hg, u, rfl, ho⟩ | ⟨hg, rfl⟩
    · rw [← hhc] at hg
      subst hg
      obtain ⟨va, vc, hu⟩ := ho.form
      have e1 : l2 = putL l i.toNat lc := by rw [hl2]; rfl
      have e2 : f2 = putF f i.toNat lc := by rw [hf2]; rfl
      rw [← e1] at ho hu
      rw [← hm2] at hu
      subst hu
      refine ⟨va, vc, ?_, ho, hb⟩
      rw [e2, hev]
      rfl
    · rw [← hhc] at hg
      subst hg
      have e1 : l2 = [] := by rw [hl2]; rfl
      have e2 : f2 = 0 := by rw [hf2]; rfl
      have e3 : m2 = 0 := by rw [hm2, e1]; rfl
      refine ⟨none, 0, ?_, ?_, hb⟩
      · rw [e2, e3, hev]
        rfl
      · rw [e1, e3]
        exact LkO.nil _ _
  have HRPU : Hid (∀ W, Below W1.heap.size W1 W → Calls Tryd.prog 26 #[.agg #[.int .i64 f, .slice a n c], .int .i64 i, .int .i64 lc] W fun e w' => ∃ va vc, e = .returned (.tuple #[.agg #[.int .i64 f2, .slice va m2 vc], .int .i64 nm]) ∧ LkO w' W.heap.size (.slice va m2 vc) l2 ∧ Below W.heap.size W w') := fun W h => by
    refine (rbput_any f i lc _ l W HLm.out (HRX.out.below h)).mono ?_
    rintro e w' ⟨hv, hb⟩
    rcases hv with ⟨hg, u, rfl, ho⟩ | ⟨hg, rfl⟩
    · rw [← hhc] at hg
      subst hg
      obtain ⟨va, vc, hu⟩ := ho.form
      have e1 : l2 = putL l i.toNat lc := by rw [hl2]; rfl
      have e2 : f2 = putF f i.toNat lc := by rw [hf2]; rfl
      rw [← e1] at ho hu
      rw [← hm2] at hu
      subst hu
      refine ⟨va, vc, ?_, ho, hb⟩
      rw [e2, hnm]
      rfl
    · rw [← hhc] at hg
      subst hg
      have e1 : l2 = [] := by rw [hl2]; rfl
      have e2 : f2 = 0 := by rw [hf2]; rfl
      have e3 : m2 = 0 := by rw [hm2, e1]; rfl
      refine ⟨none, 0, ?_, ?_, hb⟩
      · rw [e2, e3, hnm]
        rfl
      · rw [e1, e3]
        exact LkO.nil _ _
  have HIN : Hid (∀ W, Below W1.heap.size W1 W → Calls Tryd.prog 11 #[.agg #[.int .i64 f, .slice ua n uc], .int .i64 i, .agg #[.string lk, .int .i64 lc]] W fun e w' => ∃ va vc, e = .returned (.tuple #[.agg #[.int .i64 f3, .slice va m3 vc], ev]) ∧ LkO w' W.heap.size (.slice va m3 vc) l3 ∧ Below W.heap.size W w') := fun W h => by
    refine (bins_any A f i _ l lk lc W HLm.out (HR1.out.below h) (errC_all (HEW.out.keep h))).mono ?_
    rintro e w' ⟨hv, hb⟩
    rcases hv with ⟨hg, u, rfl, ho⟩ | ⟨hg, rfl⟩
    · rw [← hhc] at hg
      subst hg
      obtain ⟨va, vc, hu⟩ := ho.form
      have e1 : l3 = insL l i.toNat (lk, lc) := by rw [hl3]; rfl
      have e2 : f3 = f := by rw [hf3]; rfl
      rw [← e1] at ho hu
      rw [← hm3] at hu
      subst hu
      refine ⟨va, vc, ?_, ho, hb⟩
      rw [e2, hev]
      rfl
    · rw [← hhc] at hg
      subst hg
      have e1 : l3 = [] := by rw [hl3]; rfl
      have e2 : f3 = 0 := by rw [hf3]; rfl
      have e3 : m3 = 0 := by rw [hm3, e1]; rfl
      refine ⟨none, 0, ?_, ?_, hb⟩
      · rw [e2, e3, hev]
        rfl
      · rw [e1, e3]
        exact LkO.nil _ _
  have HRIN : Hid (∀ W, Below W1.heap.size W1 W → Calls Tryd.prog 27 #[.agg #[.int .i64 f, .slice a n c], .int .i64 i, .agg #[.string lk, .int .i64 lc]] W fun e w' => ∃ va vc, e = .returned (.tuple #[.agg #[.int .i64 f3, .slice va m3 vc], .int .i64 nm]) ∧ LkO w' W.heap.size (.slice va m3 vc) l3 ∧ Below W.heap.size W w') := fun W h => by
    refine (rbins_any f i _ l lk lc W HLm.out (HRX.out.below h)).mono ?_
    rintro e w' ⟨hv, hb⟩
    rcases hv with ⟨hg, u, rfl, ho⟩ | ⟨hg, rfl⟩
    · rw [← hhc] at hg
      subst hg
      obtain ⟨va, vc, hu⟩ := ho.form
      have e1 : l3 = insL l i.toNat (lk, lc) := by rw [hl3]; rfl
      have e2 : f3 = f := by rw [hf3]; rfl
      rw [← e1] at ho hu
      rw [← hm3] at hu
      subst hu
      refine ⟨va, vc, ?_, ho, hb⟩
      rw [e2, hnm]
      rfl
    · rw [← hhc] at hg
      subst hg
      have e1 : l3 = [] := by rw [hl3]; rfl
      have e2 : f3 = 0 := by rw [hf3]; rfl
      have e3 : m3 = 0 := by rw [hm3, e1]; rfl
      refine ⟨none, 0, ?_, ?_, hb⟩
      · rw [e2, e3, hnm]
        rfl
      · rw [e1, e3]
        exact LkO.nil _ _
  have HRE : Hid (∀ W, Below W1.heap.size W1 W → Calls Tryd.prog 13 #[.agg #[.int .i64 f, .slice ua n uc], .int .i64 i] W fun e w' => ∃ va vc, e = .returned (.tuple #[.agg #[.int .i64 f4, .slice va m4 vc], ew]) ∧ LkO w' W.heap.size (.slice va m4 vc) l4 ∧ Below W.heap.size W w') := fun W h => by
    refine (brem_any A f i _ l W HLm.out (HR1.out.below h) (errC_all (HEW.out.keep h))).mono ?_
    rintro e w' ⟨hv, hb⟩
    rcases hv with ⟨hg, u, rfl, ho⟩ | ⟨hg, rfl⟩
    · rw [← hhk] at hg
      subst hg
      obtain ⟨va, vc, hu⟩ := ho.form
      have e1 : l4 = remL l i.toNat := by rw [hl4]; rfl
      have e2 : f4 = f := by rw [hf4]; rfl
      rw [← e1] at ho hu
      rw [← hm4] at hu
      subst hu
      refine ⟨va, vc, ?_, ho, hb⟩
      rw [e2, hew]
      rfl
    · rw [← hhk] at hg
      subst hg
      have e1 : l4 = [] := by rw [hl4]; rfl
      have e2 : f4 = 0 := by rw [hf4]; rfl
      have e3 : m4 = 0 := by rw [hm4, e1]; rfl
      refine ⟨none, 0, ?_, ?_, hb⟩
      · rw [e2, e3, hew]
        rfl
      · rw [e1, e3]
        exact LkO.nil _ _
  have HRRE : Hid (∀ W, Below W1.heap.size W1 W → Calls Tryd.prog 28 #[.agg #[.int .i64 f, .slice a n c], .int .i64 i] W fun e w' => ∃ va vc, e = .returned (.tuple #[.agg #[.int .i64 f4, .slice va m4 vc], .int .i64 nw]) ∧ LkO w' W.heap.size (.slice va m4 vc) l4 ∧ Below W.heap.size W w') := fun W h => by
    refine (rbrem_any f i _ l W HLm.out (HRX.out.below h)).mono ?_
    rintro e w' ⟨hv, hb⟩
    rcases hv with ⟨hg, u, rfl, ho⟩ | ⟨hg, rfl⟩
    · rw [← hhk] at hg
      subst hg
      obtain ⟨va, vc, hu⟩ := ho.form
      have e1 : l4 = remL l i.toNat := by rw [hl4]; rfl
      have e2 : f4 = f := by rw [hf4]; rfl
      rw [← e1] at ho hu
      rw [← hm4] at hu
      subst hu
      refine ⟨va, vc, ?_, ho, hb⟩
      rw [e2, hnw]
      rfl
    · rw [← hhk] at hg
      subst hg
      have e1 : l4 = [] := by rw [hl4]; rfl
      have e2 : f4 = 0 := by rw [hf4]; rfl
      have e3 : m4 = 0 := by rw [hm4, e1]; rfl
      refine ⟨none, 0, ?_, ?_, hb⟩
      · rw [e2, e3, hnw]
        rfl
      · rw [e1, e3]
        exact LkO.nil _ _
  have HNV : Hid (∀ W, Below W1.heap.size W1 W → Calls Tryd.prog 19 #[ev] W fun e w' => e = .returned (.int .i64 nm) ∧ W = w') := fun W h => by
    rw [hev, hnm]; exact num_errK A (noE hc) W (HEW.out.keep h) (noE_kinds hc)
  have HNW : Hid (∀ W, Below W1.heap.size W1 W → Calls Tryd.prog 19 #[ew] W fun e w' => e = .returned (.int .i64 nw) ∧ W = w') := fun W h => by
    rw [hew, hnw]; exact num_errK A (noE hk) W (HEW.out.keep h) (noE_kinds hk)
  have HRET : Hid (∀ W, Below W1.heap.size W1 W → Calls Tryd.prog 22 #[.slice ua (n + 4) uc, .agg #[.int .i64 f, .slice a n c]] W fun e w' => e = .returned (.bool true) ∧ Below W.heap.size W w') := fun W h => returned_true f _ _ l W (by have := HL.out; omega) (HM.out.below h) (HRX.out.below h)
  have HL2 : Hid (l2.length ≤ 140737488355328) := by
    show _ ≤ _
    rw [hl2]
    have := HL.out
    cases hc
    · exact Nat.zero_le _
    · have := putL_len l i.toNat lc
      simp only [if_true]
      omega
  have HL3 : Hid (l3.length ≤ 140737488355328) := by
    show _ ≤ _
    rw [hl3]
    have := HL.out
    cases hc
    · exact Nat.zero_le _
    · simp only [if_true, insL, List.length_append, List.length_cons, List.length_take, List.length_drop]
      omega
  have HL4 : Hid (l4.length ≤ 140737488355328) := by
    show _ ≤ _
    rw [hl4]
    have := HL.out
    cases hk
    · exact Nat.zero_le _
    · simp only [if_true, remL, List.length_append, List.length_take, List.length_drop]
      omega
  have hnn : (nm != nm) = false := by simp
  have hnn2 : (nw == nw) = true := by simp
  have hcc : (ch != ch) = false := by simp
  clear hhc hhk hev hnm hew hnw hch hf2 hl2 hf3 hl3 hf4 hl4 hm2 hm3 hm4
  have HB0 : Hid (Below W1.heap.size W1 W1) := Below.refl _ _
  have o0 := (HX1.out.below HB0.out).c0
  have o1 := (HX1.out.below HB0.out).c1
  obtain ⟨p0, p1, p2, p3, p4, p5⟩ := (HXW.out.below HB0.out).c7
  go_wp2_with fail
  clear o0 o1 p0 p1 p2 p3 p4 p5
  refine (HPI.out W1 HB0.out).mono ?_
  rintro e w2 ⟨p, rfl, hp, hb⟩
  have HB2 := hide (Below.next HB0.out hb)
  have HP := hide hp
  clear hb hp HPI HB0
  have o0 := (HX1.out.below HB2.out).c0
  have o1 := (HX1.out.below HB2.out).c1
  obtain ⟨p0, p1, p2, p3, p4, p5⟩ := (HXW.out.below HB2.out).c7
  go_wp2_with fail
  clear o0 o1 p0 p1 p2 p3 p4 p5
  refine (HCH.out w2 HB2.out).mono ?_
  rintro e w3 ⟨rfl, hb⟩
  have HB3 := hide (Below.next HB2.out hb)
  clear hb HCH HB2
  have o0 := (HX1.out.below HB3.out).c0
  have o1 := (HX1.out.below HB3.out).c1
  obtain ⟨p0, p1, p2, p3, p4, p5⟩ := (HXW.out.below HB3.out).c7
  go_wp2_with fail
  clear o0 o1 p0 p1 p2 p3 p4 p5
  refine (HRCH.out w3 HB3.out).mono ?_
  rintro e w4 ⟨rfl, hb⟩
  have HB4 := hide (Below.next HB3.out hb)
  clear hb HRCH HB3
  have o0 := (HX1.out.below HB4.out).c0
  have o1 := (HX1.out.below HB4.out).c1
  obtain ⟨p0, p1, p2, p3, p4, p5⟩ := (HXW.out.below HB4.out).c7
  go_wp2_with fail
  clear o0 o1 p0 p1 p2 p3 p4 p5
  refine (HRPI.out w4 HB4.out).mono ?_
  rintro e w5 ⟨p', rfl, hp', hb⟩
  have hpp := HP.out.uniq hp'
  subst hpp
  have hpn : ((p : Int) != (p : Int)) = false := by simp
  have HB5 := hide (Below.next HB4.out hb)
  clear hb HRPI HB4 hp' HP
  go_wp2_with fail
  refine (HNV.out w5 HB5.out).mono ?_
  rintro e w6 ⟨rfl, rfl⟩
  have o0 := (HX1.out.below HB5.out).c0
  have o1 := (HX1.out.below HB5.out).c1
  obtain ⟨p0, p1, p2, p3, p4, p5⟩ := (HXW.out.below HB5.out).c7
  go_wp2_with fail
  clear o0 o1 p0 p1 p2 p3 p4 p5
  clear hpn
  refine (HPU.out w5 HB5.out).mono ?_
  rintro e w7 ⟨va, vc, rfl, ho7, hb7⟩
  have q8 := below_new w7 (.cells #[.int .i64 f2, .slice va m2 vc] 27)
  have x8 := RowAt.new w7 #[.int .i64 f2, .slice va m2 vc] 27
  have HB8 := hide (Below.next HB5.out (Below.next hb7 q8))
  have HO8 := hide (ho7.below q8)
  have HS8 : Hid (W1.heap.size ≤ w7.heap.size) := Nat.le_trans HB5.out.size hb7.size
  have HS8b : Hid (w7.heap.size < (w7.alloc (.cells #[.int .i64 f2, .slice va m2 vc] 27)).heap.size) := x8.lt
  have HX8 := hide x8
  clear q8 x8 hb7 ho7 HPU HB5
  have o0 := (HX1.out.below HB8.out).c0
  have o1 := (HX1.out.below HB8.out).c1
  obtain ⟨p0, p1, p2, p3, p4, p5⟩ := (HXW.out.below HB8.out).c7
  go_wp2_with fail
  clear o0 o1 p0 p1 p2 p3 p4 p5
  generalize w7.alloc (.cells #[.int .i64 f2, .slice va m2 vc] 27) = W8 at *
  obtain ⟨ba, hba⟩ : ∃ b, b = w7.heap.size := ⟨_, rfl⟩
  rw [← hba] at HX8 HS8 HS8b ⊢
  refine (HRPU.out W8 HB8.out).mono ?_
  rintro e w9 ⟨vb, vd, rfl, ho9, hb9⟩
  have q10 := below_new w9 (.cells #[.int .i64 f2, .slice vb m2 vd] 27)
  have x10 := RowAt.new w9 #[.int .i64 f2, .slice vb m2 vd] 27
  have hb10 := Below.next hb9 q10
  have HB10 := hide (Below.next HB8.out hb10)
  have HRa := hide (HO8.out.below hb10).at
  have HRb := hide (ho9.below q10).at
  have HXa := hide (HX8.out.below hb10)
  have HXb := hide x10
  have HSb : Hid (W1.heap.size ≤ w9.heap.size ∧ ba < w9.heap.size) := ⟨Nat.le_trans HB8.out.size hb9.size, Nat.lt_of_lt_of_le HS8b.out hb9.size⟩
  clear q10 x10 hb9 ho9 hb10 HRPU HB8 HX8 HO8 HS8b hba
  have y0 := HXa.out.c0
  have y1 := HXa.out.c1
  have y2 := HXb.out.c0
  have y3 := HXb.out.c1
  go_wp2_with fail
  clear y0 y1 y2 y3
  generalize w9.alloc (.cells #[.int .i64 f2, .slice vb m2 vd] 27) = W10 at *
  obtain ⟨bb, hbb⟩ : ∃ b, b = w9.heap.size := ⟨_, rfl⟩
  rw [← hbb] at HXb HSb ⊢
  have hab : ¬ ba = bb := by have := HSb.out; omega
  have hba : ¬ bb = ba := by omega
  refine (sameb_same f2 _ _ l2 W10 HL2.out HRa.out HRb.out).mono ?_
  rintro e w11 ⟨rfl, hb⟩
  have HB11 := hide (Below.next HB10.out hb)
  have HXa1 := hide (HXa.out.below hb)
  have HXb1 := hide (HXb.out.below hb)
  clear hb HB10 HXa HXb HRa HRb hbb HL2
  go_wp2_with fail
  refine (HNV.out w11 HB11.out).mono ?_
  rintro e w12 ⟨rfl, rfl⟩
  have o0 := (HX1.out.below HB11.out).c0
  have o1 := (HX1.out.below HB11.out).c1
  obtain ⟨p0, p1, p2, p3, p4, p5⟩ := (HXW.out.below HB11.out).c7
  go_wp2_with fail
  clear o0 o1 p0 p1 p2 p3 p4 p5
  refine (HIN.out w11 HB11.out).mono ?_
  rintro e wau ⟨vau, vcu, rfl, hoau, hbau⟩
  have HBau := hide (Below.next HB11.out hbau)
  have HOau := hide hoau
  have HSzu : Hid (ba < w11.heap.size ∧ bb < w11.heap.size) := ⟨HXa1.out.lt, HXb1.out.lt⟩
  have hxau := HXa1.out.below hbau
  have hxbu := HXb1.out.below hbau
  have y0 := hxau.c0
  have y1 := hxau.c1
  have y2 := hxau.free 0
  have y3 := hxau.free 1
  have HXAu := hide hxau
  have HXBu := hide hxbu
  have NAu : ¬ w.heap.size = ba := by have h1 := HXW.out.lt; have h2 := HS8.out; omega
  have NBu : ¬ ba = w.heap.size := by omega
  have NCu : ¬ w.heap.size = bb := by have h1 := HXW.out.lt; have h2 := HSb.out; omega
  have NDu : ¬ bb = w.heap.size := by omega
  have o0 := (HX1.out.below HBau.out).c0
  have o1 := (HX1.out.below HBau.out).c1
  obtain ⟨p0, p1, p2, p3, p4, p5⟩ := (HXW.out.below HBau.out).c7
  clear hoau hbau hxau hxbu HIN HB11 HXa1 HXb1
  go_wp2_with fail
  clear o0 o1 p0 p1 p2 p3 p4 p5 y0 y1 y2 y3
  have hxcu := HXAu.out.two (.int .i64 f3) (.slice vau m3 vcu)
  have hxdu := (HXBu.out.other (j := 0) hba (.int .i64 f3)).other (j := 1) hba (.slice vau m3 vcu)
  have hbcu := below_two (x := .int .i64 f3) (y := .slice vau m3 vcu) HBau.out HS8.out
  have hocu := HOau.out.put2 (g := ba) HSzu.out.1 (.int .i64 f3) (.slice vau m3 vcu)
  generalize (wau.setCell ⟨ba, 0, none⟩ (.int .i64 f3)).setCell ⟨ba, 1, none⟩ (.slice vau m3 vcu) = Wcu at *
  have HXCu := hide hxcu
  have HXDu := hide hxdu
  have HBcu := hide hbcu
  have HOcu := hide hocu
  clear hxcu hxdu hbcu hocu HBau HOau HXAu HXBu
  refine (HRIN.out Wcu HBcu.out).mono ?_
  rintro e wdu ⟨vbu, vdu, rfl, hodu, hbdu⟩
  have HBdu := hide (Below.next HBcu.out hbdu)
  have HSyu : Hid (ba < Wcu.heap.size ∧ bb < Wcu.heap.size) := ⟨HXCu.out.lt, HXDu.out.lt⟩
  have hxeu := HXCu.out.below hbdu
  have hxfu := HXDu.out.below hbdu
  have y0 := hxfu.c0
  have y1 := hxfu.c1
  have y2 := hxfu.free 0
  have y3 := hxfu.free 1
  have y4 := hxeu.c0
  have y5 := hxeu.c1
  have HXEu := hide hxeu
  have HXFu := hide hxfu
  have HOeu := hide (HOcu.out.below hbdu)
  have HOdu := hide hodu
  clear hodu hbdu hxeu hxfu HRIN HBcu HXCu HXDu HOcu
  go_wp2_with fail
  clear y0 y1 y2 y3 y4 y5
  have hxgu := (HXEu.out.other (j := 0) hab (.int .i64 f3)).other (j := 1) hab (.slice vbu m3 vdu)
  have hxhu := HXFu.out.two (.int .i64 f3) (.slice vbu m3 vdu)
  have hbhu := below_two (b := bb) (x := .int .i64 f3) (y := .slice vbu m3 vdu) HBdu.out HSb.out.1
  have hohu := (HOdu.out.put2 (g := bb) HSyu.out.2 (.int .i64 f3) (.slice vbu m3 vdu)).at
  have hogu := (HOeu.out.put2 (g := bb) HSzu.out.2 (.int .i64 f3) (.slice vbu m3 vdu)).at
  generalize (wdu.setCell ⟨bb, 0, none⟩ (.int .i64 f3)).setCell ⟨bb, 1, none⟩ (.slice vbu m3 vdu) = Weu at *
  have HXGu := hide hxgu
  have HXHu := hide hxhu
  have HBhu := hide hbhu
  have HSMu := hide (sameb_same f3 _ _ l3 Weu HL3.out hogu hohu)
  clear hxgu hxhu hbhu hohu hogu HBdu HXEu HXFu HOeu HOdu HSzu HSyu NAu NBu NCu NDu
  refine HSMu.out.mono ?_
  rintro e wfu ⟨rfl, hbfu⟩
  have HBfu := hide (Below.next HBhu.out hbfu)
  have HXau := hide (HXGu.out.below hbfu)
  have HXbu := hide (HXHu.out.below hbfu)
  clear hbfu HSMu HBhu HXGu HXHu
  go_wp2_with fail
  refine (HNV.out wfu HBfu.out).mono ?_
  rintro e wgu ⟨rfl, rfl⟩
  have o0 := (HX1.out.below HBfu.out).c0
  have o1 := (HX1.out.below HBfu.out).c1
  obtain ⟨p0, p1, p2, p3, p4, p5⟩ := (HXW.out.below HBfu.out).c7
  go_wp2_with fail
  clear o0 o1 p0 p1 p2 p3 p4 p5
  refine (HRE.out wfu HBfu.out).mono ?_
  rintro e wav ⟨vav, vcv, rfl, hoav, hbav⟩
  have HBav := hide (Below.next HBfu.out hbav)
  have HOav := hide hoav
  have HSzv : Hid (ba < wfu.heap.size ∧ bb < wfu.heap.size) := ⟨HXau.out.lt, HXbu.out.lt⟩
  have hxav := HXau.out.below hbav
  have hxbv := HXbu.out.below hbav
  have y0 := hxav.c0
  have y1 := hxav.c1
  have y2 := hxav.free 0
  have y3 := hxav.free 1
  have HXAv := hide hxav
  have HXBv := hide hxbv
  have NAv : ¬ w.heap.size = ba := by have h1 := HXW.out.lt; have h2 := HS8.out; omega
  have NBv : ¬ ba = w.heap.size := by omega
  have NCv : ¬ w.heap.size = bb := by have h1 := HXW.out.lt; have h2 := HSb.out; omega
  have NDv : ¬ bb = w.heap.size := by omega
  have o0 := (HX1.out.below HBav.out).c0
  have o1 := (HX1.out.below HBav.out).c1
  obtain ⟨p0, p1, p2, p3, p4, p5⟩ := (HXW.out.below HBav.out).c7
  clear hoav hbav hxav hxbv HRE HBfu HXau HXbu
  go_wp2_with fail
  clear o0 o1 p0 p1 p2 p3 p4 p5 y0 y1 y2 y3
  have hxcv := HXAv.out.two (.int .i64 f4) (.slice vav m4 vcv)
  have hxdv := (HXBv.out.other (j := 0) hba (.int .i64 f4)).other (j := 1) hba (.slice vav m4 vcv)
  have hbcv := below_two (x := .int .i64 f4) (y := .slice vav m4 vcv) HBav.out HS8.out
  have hocv := HOav.out.put2 (g := ba) HSzv.out.1 (.int .i64 f4) (.slice vav m4 vcv)
  generalize (wav.setCell ⟨ba, 0, none⟩ (.int .i64 f4)).setCell ⟨ba, 1, none⟩ (.slice vav m4 vcv) = Wcv at *
  have HXCv := hide hxcv
  have HXDv := hide hxdv
  have HBcv := hide hbcv
  have HOcv := hide hocv
  clear hxcv hxdv hbcv hocv HBav HOav HXAv HXBv
  refine (HRRE.out Wcv HBcv.out).mono ?_
  rintro e wdv ⟨vbv, vdv, rfl, hodv, hbdv⟩
  have HBdv := hide (Below.next HBcv.out hbdv)
  have HSyv : Hid (ba < Wcv.heap.size ∧ bb < Wcv.heap.size) := ⟨HXCv.out.lt, HXDv.out.lt⟩
  have hxev := HXCv.out.below hbdv
  have hxfv := HXDv.out.below hbdv
  have y0 := hxfv.c0
  have y1 := hxfv.c1
  have y2 := hxfv.free 0
  have y3 := hxfv.free 1
  have y4 := hxev.c0
  have y5 := hxev.c1
  have HXEv := hide hxev
  have HXFv := hide hxfv
  have HOev := hide (HOcv.out.below hbdv)
  have HOdv := hide hodv
  clear hodv hbdv hxev hxfv HRRE HBcv HXCv HXDv HOcv
  go_wp2_with fail
  clear y0 y1 y2 y3 y4 y5
  have hxgv := (HXEv.out.other (j := 0) hab (.int .i64 f4)).other (j := 1) hab (.slice vbv m4 vdv)
  have hxhv := HXFv.out.two (.int .i64 f4) (.slice vbv m4 vdv)
  have hbhv := below_two (b := bb) (x := .int .i64 f4) (y := .slice vbv m4 vdv) HBdv.out HSb.out.1
  have hohv := (HOdv.out.put2 (g := bb) HSyv.out.2 (.int .i64 f4) (.slice vbv m4 vdv)).at
  have hogv := (HOev.out.put2 (g := bb) HSzv.out.2 (.int .i64 f4) (.slice vbv m4 vdv)).at
  generalize (wdv.setCell ⟨bb, 0, none⟩ (.int .i64 f4)).setCell ⟨bb, 1, none⟩ (.slice vbv m4 vdv) = Wev at *
  have HXGv := hide hxgv
  have HXHv := hide hxhv
  have HBhv := hide hbhv
  have HSMv := hide (sameb_same f4 _ _ l4 Wev HL4.out hogv hohv)
  clear hxgv hxhv hbhv hohv hogv HBdv HXEv HXFv HOev HOdv HSzv HSyv NAv NBv NCv NDv
  refine HSMv.out.mono ?_
  rintro e wfv ⟨rfl, hbfv⟩
  have HBfv := hide (Below.next HBhv.out hbfv)
  have HXav := hide (HXGv.out.below hbfv)
  have HXbv := hide (HXHv.out.below hbfv)
  clear hbfv HSMv HBhv HXGv HXHv
  go_wp2_with fail
  refine (HNW.out wfv HBfv.out).mono ?_
  rintro e wgv ⟨rfl, rfl⟩
  have o0 := (HX1.out.below HBfv.out).c0
  have o1 := (HX1.out.below HBfv.out).c1
  obtain ⟨p0, p1, p2, p3, p4, p5⟩ := (HXW.out.below HBfv.out).c7
  go_wp2_with fail
  clear o0 o1 p0 p1 p2 p3 p4 p5
  refine (HRET.out wfv HBfv.out).mono ?_
  rintro e wz ⟨rfl, hbz⟩
  have HBz := hide (Below.next HBO.out (Below.next HBfv.out hbz))
  clear hbz
  go_wp2
  go_ret
  exact ⟨rfl, HBz.out⟩

end Go.Proofs.YtagldlchamlpdaaDoor
