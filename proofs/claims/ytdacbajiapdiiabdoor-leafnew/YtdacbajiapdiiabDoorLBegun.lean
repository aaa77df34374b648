import Derived.Test.YtdacbajiapdiiabDoorLEncode
import Derived.Test.YtdacbajiapdiiabDoorLDecode
import Derived.Test.YtdacbajiapdiiabDoorPrEq
namespace Go.Proofs.YtdacbajiapdiiabDoor
open Go.RowKit

def p0 : Pr := (⟨#[97]⟩, ⟨#[49]⟩)
theorem chk0 : chk [p0] true = none := chk_of (fun p hp => by simp at hp; subst hp; rfl) (fun i h => by simp at h) (by decide) (by simp) (fun h => by cases h)
theorem enc_size {l : List Pr} (h : chk l true = none) : (encL l).size = 4072 := by
  obtain ⟨h1, h2, h3, h4, h5⟩ := chk_none h
  rw [← bsize]; simp only [encL]
  exact layL_len _ (by rw [size_cellP]; exact h3)

set_option maxRecDepth 20000 in
set_option maxHeartbeats 2000000 in
theorem begun_any (A : Nat → Addr) (w : World) (hE : ErrC A w) :
    Calls Tryd.prog 14 #[] w fun e w' => e = .returned (.bool true) ∧ Below w.heap.size w w' := by
  have hb0 := below_new w (.cells #[.string p0.1, .string p0.2] 45)
  have HEN := hide (lenc_any A _ [p0] _ (fun p hp => by simp at hp; subst hp; decide) (by decide) (prR_lit w p0 45) (hE.below hb0))
  have HB0 := hide hb0
  have HE0 := hide (hE.below hb0)
  clear hb0 hE
  go_enter Tryd.func14, Tryd.ntmps14
  go_wp2_with fail
  refine HEN.out.mono ?_
  rintro e w1 ⟨hv, hb1⟩
  have hv2 : e = .returned (.tuple #[.string (encL [p0]), .nilIface]) := by
    rcases hv with ⟨_, h⟩ | ⟨k, h, _⟩
    · exact h
    · rw [chk0] at h; cases h
  subst hv2
  have HB1 := hide (Below.next HB0.out hb1)
  have HDC := hide (ldec_any A 1 (encL [p0]) w1 (HE0.out.below hb1))
  have HSZ := hide (enc_size chk0)
  have HED : Hid (DecOk 1 (encL [p0]).data.toList ∧ decL 1 (encL [p0]).data.toList = [p0]) := enc_dec chk0
  obtain ⟨S, hS⟩ : ∃ S, S = encL [p0] := ⟨_, rfl⟩
  rw [← hS] at HDC HSZ HED ⊢
  clear hv hb1 HEN HB0 HE0 hS
  go_wp2_with fail
  refine HDC.out.mono ?_
  rintro e w2 ⟨hv, hb2⟩
  rcases hv with ⟨_, _, u, rfl, ho⟩ | ⟨hn, _⟩
  · have ho2 : PrO w2 w1.heap.size u [p0] := by
      have := ho
      rw [show ((1 : Int).toNat) = 1 from rfl, HED.out.2] at this
      exact this
    obtain ⟨a, c, rfl, _, _, hc⟩ := ho2.at
    obtain ⟨g, o, rfl, c1, c2⟩ := hc 0 (by simp)
    simp only [List.getElem_cons_zero, p0, Nat.zero_mul, Nat.add_zero] at c1 c2
    have HB2 := hide (Below.next HB1.out hb2)
    have d1 : ((S.size : Int) == 4072) = true := by rw [HSZ.out]; rfl
    have hsf := fun w => pr_self w ⟨#[97]⟩ ⟨#[49]⟩
    clear ho ho2 hc hb2 HDC HED HSZ HB1
    simp only [List.length_singleton]
    go_wp2
    go_ret
    exact ⟨rfl, HB2.out⟩
  · exact absurd ⟨by decide, HED.out.1⟩ hn

end Go.Proofs.YtdacbajiapdiiabDoor
