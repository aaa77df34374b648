import Derived.Test.YtkdmocnjpajfkaaDoorDSame
import Derived.Test.YtkdmocnjpajfkaaDoorDSta
import Derived.Test.YtkdmocnjpajfkaaDoorDLst
import Derived.Test.YtkdmocnjpajfkaaDoorDCmp
import Derived.Test.YtkdmocnjpajfkaaDoorDPat
import Derived.Test.YtkdmocnjpajfkaaDoorDInv
import Derived.Test.YtkdmocnjpajfkaaDoorErrs
namespace Go.Proofs.YtkdmocnjpajfkaaDoor
open Go.RowKit
attribute [local go_sem ↓] Go.wp_at_zero Go.wp_at_succ

theorem boxed_get (w : World) (l : List Value) (t : TypeId) (i : Nat) (u : Value) (h : l[i]? = some u) : (w.alloc (.cells l.toArray t)).cell? ⟨w.heap.size, i, none⟩ = some u := by
  obtain ⟨h1, h2⟩ := List.getElem?_eq_some_iff.1 h
  have := (boxed_new w l.toArray t).2 i (by simpa using h1)
  rw [h2] at this
  exact this
theorem prR_lits (w : World) (l : List Pr) (t : TypeId) : PrR (w.alloc (.cells (prs l).toArray t)) (.slice (some ⟨w.heap.size, 0, none⟩) l.length l.length) l := by
  refine ⟨_, _, rfl, Nat.le_refl _, fun h => (by cases h), fun j hj => ⟨_, 0, rfl, ?_, ?_⟩⟩
  · rw [Nat.zero_add]; exact boxed_get w _ t _ _ (prs_get l j hj).1
  · rw [Nat.zero_add]; exact boxed_get w _ t _ _ (prs_get l j hj).2
theorem chR_lits (w : World) (l : List Ch) (t : TypeId) : ChR (w.alloc (.cells (chs l).toArray t)) (.slice (some ⟨w.heap.size, 0, none⟩) l.length l.length) l := by
  refine ⟨_, _, rfl, Nat.le_refl _, fun h => (by cases h), fun j hj => ⟨_, 0, rfl, ?_⟩⟩
  rw [Nat.zero_add]
  exact ⟨boxed_get w _ t _ _ (chs_get l j hj 0 (by omega)), boxed_get w _ t _ _ (chs_get l j hj 1 (by omega)), boxed_get w _ t _ _ (chs_get l j hj 2 (by omega)), boxed_get w _ t _ _ (chs_get l j hj 3 (by omega)), boxed_get w _ t _ _ (chs_get l j hj 4 (by omega))⟩
def bA : List Pr := [(⟨#[97]⟩, ⟨#[49]⟩), (⟨#[98]⟩, ⟨#[50]⟩)]
def bB : List Pr := [(⟨#[98]⟩, ⟨#[51]⟩), (⟨#[99]⟩, ⟨#[52]⟩)]
def bL : List Ch := [(⟨#[97]⟩, ⟨true, false, ⟨#[49]⟩, ⟨#[]⟩⟩), (⟨#[98]⟩, ⟨true, true, ⟨#[50]⟩, ⟨#[51]⟩⟩), (⟨#[99]⟩, ⟨false, true, ⟨#[]⟩, ⟨#[52]⟩⟩)]
theorem lt97 : ltK ⟨#[97]⟩ ⟨#[98]⟩ = true := by kernel_rfl
theorem lt98 : ltK ⟨#[98]⟩ ⟨#[99]⟩ = true := by kernel_rfl
theorem bA_kr : KR bA := (riseB_iff _).1 (by simp [bA, riseB, lt97])
theorem bB_kr : KR bB := (riseB_iff _).1 (by simp [bB, riseB, lt98])
theorem b_side : side bA bB = [(⟨#[97]⟩, some ⟨#[49]⟩, none), (⟨#[98]⟩, some ⟨#[50]⟩, some ⟨#[51]⟩), (⟨#[99]⟩, none, some ⟨#[52]⟩)] := by
  have h1 := ltK_irrefl ⟨#[98]⟩
  simp [bA, bB, side, lt97, h1]
theorem b_lists : listsD bA bB = bL := by
  unfold listsD
  rw [b_side]
  decide

/-- The two refusals that the laws of diff meet. -/
def gLO (i : Nat) : Nat := ([1, 0] : List Nat).getD i 0
theorem b_ok : OkL bA ∧ OkL bB ∧ OkC bL := by
  refine ⟨?_, ?_, ?_⟩ <;> (intro p hp; simp [bA, bB, bL] at hp; rcases hp with rfl | rfl | rfl <;> decide)
theorem b_rise : riseB bA = true ∧ riseB bB = true ∧ riseB bL = true := ⟨(riseB_iff _).2 bA_kr, (riseB_iff _).2 bB_kr, (riseB_iff _).2 (by rw [← b_lists]; exact lists_kr bA_kr bB_kr)⟩
theorem b_patch : patchD bA bL = some bB := by rw [← b_lists]; exact patch_lists bA_kr bB_kr
theorem b_back : patchD bB (invertD bL) = some bA := by rw [← b_lists, inv_lists bA_kr bB_kr]; exact patch_lists bB_kr bA_kr
theorem b_none : patchD bB bL = none := by
  cases h : patchD bB bL with
  | none => rfl
  | some m =>
    have h1 := patch_ok (k := ⟨#[97]⟩) (c := ⟨true, false, ⟨#[49]⟩, ⟨#[]⟩⟩) bB_kr ((riseB_iff _).1 b_rise.2.2) h (by simp [bL, lk])
    have h2 : lk bB (⟨#[97]⟩ : ByteArray) = none := by decide
    rw [h2] at h1
    exact absurd h1.1 (by decide)
theorem okc_inv {l : List Ch} (h : OkC l) : OkC (invertD l) := by
  intro c hc
  obtain ⟨d, hd, rfl⟩ := List.mem_map.1 hc
  exact ⟨(h d hd).1, (h d hd).2.2, (h d hd).2.1⟩
set_option maxHeartbeats 4000000 in
theorem begun_any (A : Nat → Addr) (w : World) (hE : ErrsG 2 gLO A w) : Calls Tryd.prog 9 #[] w fun e w' => e = .returned (.bool true) ∧ Below w.heap.size w w' := by
  have HE := hide hE
  have hl := (hE.1 0 (by decide)).1
  have ho := (hE.1 1 (by decide)).1
  have HGL : Hid (w.cell? ⟨1, 0, none⟩ = some (.iface 105 (.pointer (some (A 0))))) := hl
  have HGO : Hid (w.cell? ⟨0, 0, none⟩ = some (.iface 105 (.pointer (some (A 1))))) := ho
  clear hl ho hE
  obtain ⟨W1, hW1⟩ : ∃ W1, w.alloc (.cells (prs bA).toArray 48) = W1 := ⟨_, rfl⟩
  obtain ⟨W2, hW2⟩ : ∃ W2, W1.alloc (.cells (prs bB).toArray 48) = W2 := ⟨_, rfl⟩
  have b1 : Below w.heap.size w W1 := by rw [← hW1]; exact (Below.refl _ w).alloc (Nat.le_refl _) _
  have b2 : Below W1.heap.size W1 W2 := by rw [← hW2]; exact (Below.refl _ W1).alloc (Nat.le_refl _) _
  have pA : PrR W1 (.slice (some ⟨w.heap.size, 0, none⟩) 2 2) bA := by rw [← hW1]; exact prR_lits w bA 48
  have pB : PrR W2 (.slice (some ⟨W1.heap.size, 0, none⟩) 2 2) bB := by rw [← hW2]; exact prR_lits W1 bB 48
  have HPA := hide (pA.below b2)
  have HPB := hide pB
  have HB2 := hide (Below.next b1 b2)
  have HL : Hid (∀ V, Below W2.heap.size W2 V → Calls Tryd.prog 11 #[.slice (some ⟨w.heap.size, 0, none⟩) 2 2, .slice (some ⟨W1.heap.size, 0, none⟩) 2 2] V fun e w' => ∃ v, e = .returned (.tuple #[v, .nilIface]) ∧ ChO w' V.heap.size v bL ∧ Below V.heap.size V w') := fun V hV => by
    refine (lists_any _ _ bA bB V (HPA.out.below hV) (HPB.out.below hV) b_ok.1 b_ok.2.1 (by decide) _ (cell_bel (Below.next HB2.out hV) HGO.out)).mono ?_
    rintro e w' ⟨hb, ⟨h, _⟩ | ⟨_, v, rfl, hown⟩⟩
    · rw [b_rise.1, b_rise.2.1] at h; cases h
    · rw [b_lists] at hown; exact ⟨v, rfl, hown, hb⟩
  simp only [prs, bA, bB, List.flatMap_cons, List.flatMap_nil, List.append_nil, List.cons_append, List.nil_append] at hW1 hW2
  clear b1 b2 pA pB
  go_enter Tryd.func9, Tryd.ntmps9
  go_wp2_with fail
  refine (HL.out W2 (Below.refl _ _)).mono ?_
  rintro e W3 ⟨v, rfl, hown, hb3⟩
  obtain ⟨W4, hW4⟩ : ∃ W4, W3.alloc (.cells (chs bL).toArray 41) = W4 := ⟨_, rfl⟩
  have b4 : Below W3.heap.size W3 W4 := by rw [← hW4]; exact (Below.refl _ W3).alloc (Nat.le_refl _) _
  have HPL : Hid (ChR W4 (.slice (some ⟨W3.heap.size, 0, none⟩) 3 3) bL) := by rw [← hW4]; exact chR_lits W3 bL 41
  have HV := hide (hown.at.below b4)
  have hb24 := Below.next hb3 b4
  have HPA4 := hide (HPA.out.below hb24)
  have HPB4 := hide (HPB.out.below hb24)
  have HB4 := hide (Below.next HB2.out hb24)
  simp only [chs, bL, chC, List.flatMap_cons, List.flatMap_nil, List.append_nil, List.cons_append, List.nil_append] at hW4
  obtain ⟨av, cv, rfl⟩ := hown.form
  have hl3 : bL.length = 3 := rfl
  rw [hl3] at HV ⊢
  clear hown hb3 b4 hb24 hl3 HL HPA HPB HB2 hW1 hW2
  have HP1 : Hid (∀ V, Below W4.heap.size W4 V → Calls Tryd.prog 15 #[.slice (some ⟨w.heap.size, 0, none⟩) 2 2, .slice av 3 cv] V fun e w' => ∃ v, e = .returned (.tuple #[v, .nilIface]) ∧ PrO w' V.heap.size v bB ∧ Below V.heap.size V w') := fun V hV => by
    refine (patch_any _ _ bA bL V (HPA4.out.below hV) (HV.out.below hV) b_ok.1 b_ok.2.2 (by decide) _ _ (cell_bel (Below.next HB4.out hV) HGO.out) (cell_bel (Below.next HB4.out hV) HGL.out)).mono ?_
    rintro e w' ⟨hb, ⟨h, _⟩ | ⟨_, h, _⟩ | ⟨_, v, l, h, rfl, hown⟩⟩
    · rw [b_rise.1, b_rise.2.2] at h; cases h
    · rw [b_patch] at h; cases h
    · rw [b_patch] at h; cases h; exact ⟨v, rfl, hown, hb⟩
  have HP2 : Hid (∀ V x, Below W4.heap.size W4 V → ChR V x (invertD bL) → Calls Tryd.prog 15 #[.slice (some ⟨W1.heap.size, 0, none⟩) 2 2, x] V fun e w' => ∃ v, e = .returned (.tuple #[v, .nilIface]) ∧ PrO w' V.heap.size v bA ∧ Below V.heap.size V w') := fun V x hV hx => by
    refine (patch_any _ _ bB (invertD bL) V (HPB4.out.below hV) hx b_ok.2.1 (okc_inv b_ok.2.2) (by decide) _ _ (cell_bel (Below.next HB4.out hV) HGO.out) (cell_bel (Below.next HB4.out hV) HGL.out)).mono ?_
    rintro e w' ⟨hb, ⟨h, _⟩ | ⟨_, h, _⟩ | ⟨_, v, l, h, rfl, hown⟩⟩
    · rw [b_rise.2.1, (riseB_iff _).2 (inv_kr ((riseB_iff _).1 b_rise.2.2))] at h; cases h
    · rw [b_back] at h; cases h
    · rw [b_back] at h; cases h; exact ⟨v, rfl, hown, hb⟩
  have HP3 : Hid (∀ V, Below W4.heap.size W4 V → Calls Tryd.prog 15 #[.slice (some ⟨W1.heap.size, 0, none⟩) 2 2, .slice av 3 cv] V fun e w' => e = .returned (.tuple #[.slice none 0 0, .iface 105 (.pointer (some (A 0)))]) ∧ Below V.heap.size V w') := fun V hV => by
    refine (patch_any _ _ bB bL V (HPB4.out.below hV) (HV.out.below hV) b_ok.2.1 b_ok.2.2 (by decide) _ _ (cell_bel (Below.next HB4.out hV) HGO.out) (cell_bel (Below.next HB4.out hV) HGL.out)).mono ?_
    rintro e w' ⟨hb, ⟨h, _⟩ | ⟨_, h, rfl⟩ | ⟨_, v, l, h, _⟩⟩
    · rw [b_rise.2.1, b_rise.2.2] at h; cases h
    · exact ⟨rfl, hb⟩
    · rw [b_none] at h; cases h
  have HI : Hid (∀ V, Below W4.heap.size W4 V → Calls Tryd.prog 14 #[.slice av 3 cv] V fun e w' => ∃ v, e = .returned v ∧ ChO w' V.heap.size v (invertD bL) ∧ Below V.heap.size V w') := fun V hV => invert_any _ bL V (HV.out.below hV) b_ok.2.2 (by decide)
  go_wp2_with fail
  refine (HP1.out W4 (Below.refl _ _)).mono ?_
  rintro e W5 ⟨v6, rfl, hown6, hb5⟩
  have HV6 := hide hown6.at
  obtain ⟨a6, c6, rfl⟩ := hown6.form
  have HB5 := hide hb5
  clear hown6 hb5 HP1
  go_wp2_with fail
  refine (HI.out W5 HB5.out).mono ?_
  rintro e W6 ⟨v7, rfl, hown7, hb6⟩
  obtain ⟨a7, c7, rfl⟩ := hown7.form
  have HB6 := hide (Below.next HB5.out hb6)
  have HV6a := hide (HV6.out.below hb6)
  have HV7 := hide hown7.at
  clear hown7 hb6 HV6 HI HB5
  go_wp2_with fail
  refine (HP2.out W6 _ HB6.out HV7.out).mono ?_
  rintro e W7 ⟨v8, rfl, hown8, hb7⟩
  obtain ⟨a8, c8, rfl⟩ := hown8.form
  have HB7 := hide (Below.next HB6.out hb7)
  have HV6 := hide (HV6a.out.below hb7)
  have HV8 := hide hown8.at
  clear hown8 hb7 HV6a HP2 HV7 HB6
  go_wp2_with fail
  refine (HP3.out W7 HB7.out).mono ?_
  rintro e W8 ⟨rfl, hb8⟩
  have HB8 := hide (Below.next HB7.out hb8)
  have HV6a := hide (HV6.out.below hb8)
  have HV8a := hide (HV8.out.below hb8)
  clear hb8 HP3 HV6 HV8 HB7
  have HBW := hide (Below.next HB4.out HB8.out)
  have g1 := cell_bel HBW.out HGL.out
  have e1 := eq_same A 0
  have HS1 : Hid (∀ V, Below W8.heap.size W8 V → Calls Tryd.prog 13 #[.slice av 3 cv, .slice (some ⟨W3.heap.size, 0, none⟩) 3 3] V fun e w' => e = .returned (.bool true) ∧ Below V.heap.size V w') := fun V hV => samec_same _ _ bL V (by decide) (HV.out.below (Below.next HB8.out hV)) (HPL.out.below (Below.next HB8.out hV))
  have HS2 : Hid (∀ V, Below W8.heap.size W8 V → Calls Tryd.prog 20 #[.slice a6 2 c6, .slice (some ⟨W1.heap.size, 0, none⟩) 2 2] V fun e w' => e = .returned (.bool true) ∧ Below V.heap.size V w') := fun V hV => samep_same _ _ bB V (by decide) (HV6a.out.below hV) (HPB4.out.below (Below.next HB8.out hV))
  have HS3 : Hid (∀ V, Below W8.heap.size W8 V → Calls Tryd.prog 20 #[.slice a8 2 c8, .slice (some ⟨w.heap.size, 0, none⟩) 2 2] V fun e w' => e = .returned (.bool true) ∧ Below V.heap.size V w') := fun V hV => samep_same _ _ bA V (by decide) (HV8a.out.below hV) (HPA4.out.below (Below.next HB8.out hV))
  rw [show bB.length = 2 from rfl, show bA.length = 2 from rfl]
  go_wp2_with fail
  refine (HS1.out W8 (Below.refl _ _)).mono ?_
  rintro e W9 ⟨rfl, hb9⟩
  have HB9 := hide hb9
  clear hb9 g1 HS1
  go_wp2_with fail
  refine (HS2.out W9 HB9.out).mono ?_
  rintro e Wa ⟨rfl, hba⟩
  have HBa := hide (Below.next HB9.out hba)
  clear hba
  go_wp2_with fail
  refine (HS3.out Wa HBa.out).mono ?_
  rintro e Wb ⟨rfl, hbb⟩
  have HBb := hide (Below.next HBW.out (Below.next HBa.out hbb))
  clear hbb
  go_wp2
  go_ret
  exact ⟨rfl, HBb.out⟩
end Go.Proofs.YtkdmocnjpajfkaaDoor
