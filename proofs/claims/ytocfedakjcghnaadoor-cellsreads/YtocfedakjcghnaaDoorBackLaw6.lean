import Derived.Test.YtocfedakjcghnaaDoorCBegun
import Derived.Test.YtocfedakjcghnaaDoorSameS
namespace Go.Proofs.YtocfedakjcghnaaDoor
open Go.RowKit

theorem lay_bytes (l : List ByteArray) (h : sizeL l ≤ 4072) : (⟨(layL l).toArray⟩ : ByteArray).size = 4072 := by
  show (layL l).toArray.size = 4072
  rw [List.size_toArray]; exact layL_len l h

set_option maxRecDepth 100000 in
set_option maxHeartbeats 8000000 in
theorem back_any (A : Nat → Addr) (v : Value) (l : List ByteArray) (w : World) (hm : l.length ≤ 1048576) (hs : sizeL l ≤ 1152921504606846976) (hr : RowR w v (strs l)) (hE : ErrsG 4 gAll A w) :
    Calls Tryd.prog 6 #[v] w fun e w' => e = .returned (.bool true) ∧ Below w.heap.size w w' := by
  have HR := hide hr
  have HER := hide hE
  have hform : ∃ a c, v = .slice a l.length c := by
    obtain ⟨a, c, rfl, _⟩ := hr
    exact ⟨a, c, by rw [strs_length]⟩
  obtain ⟨va, vc, rfl⟩ := hform
  obtain ⟨n, hn⟩ : ∃ n, n = l.length := ⟨_, rfl⟩
  rw [← hn] at hm HR
  rw [← hn]
  have HE : Hid (l.length = n) := hn.symm
  have HS := hide hs
  clear hr hE hn hs
  go_enter Tryd.func6, Tryd.ntmps6
  go_wp2_with fail
  refine (begun_any A w HER.out).mono ?_
  rintro e w1 ⟨rfl, hb1⟩
  have hcells : ∀ j (h : j < l.length), ∃ g o, va = some ⟨g, o, none⟩ ∧ w1.cell? ⟨g, o + j, none⟩ = some (.string l[j]) := by
    obtain ⟨a', c', he, _, hc⟩ := (HR.out.below hb1).strs
    cases he
    exact hc
  have HC := hide hcells
  have HB1 := hide hb1
  clear hcells hb1
  go_wp2_with fail
  go_loop [3, 4] (fun r i => ∃ k : Nat, k ≤ n ∧ i = .int .i64 k ∧ r = .int .i64 ((2 * k + (flatTo l k).length : Nat) : Int)) (fun _ i => n - (intOf i).toNat)
  case atStart => exact ⟨0, Nat.zero_le _, rfl, rfl⟩
  case round =>
    obtain ⟨k, hk, rfl, rfl⟩ := hrel
    by_cases hlt : k < n
    · have hkl : k < l.length := by have := HE.out; omega
      obtain ⟨g, o, rfl, f1⟩ := HC.out k hkl
      have HF := hide (flatTo_succ l k hkl)
      have HL := hide (endL_mono l (k + 1) l.length (by omega) (Nat.le_refl _))
      have hfl : (flatTo l (k + 1)).length = (flatTo l k).length + l[k].size := by rw [HF.out, List.length_append, bsize]
      have hel : endL l (k + 1) = 2 * l.length + (flatTo l (k + 1)).length := rfl
      have hbd : 2 * k + 2 + (flatTo l (k + 1)).length ≤ 1152921504606846976 := by
        have h1 := HL.out
        have h2 : endL l l.length ≤ 1152921504606846976 := HS.out
        have := HE.out
        omega
      obtain ⟨x, hx⟩ : ∃ x, x = l[k] := ⟨_, rfl⟩
      rw [← hx] at f1 hfl
      obtain ⟨p, hp⟩ : ∃ p, p = 2 * k + (flatTo l k).length := ⟨_, rfl⟩
      rw [← hp]
      obtain ⟨q, hq⟩ : ∃ q, q = 2 * (k + 1) + (flatTo l (k + 1)).length := ⟨_, rfl⟩
      have hw1 : IntKind.i64.wrap ((p : Int) + 2) = (p : Int) + 2 := by rw [IntKind.wrap_i64]; omega
      have hw2 : IntKind.i64.wrap ((p : Int) + 2 + (x.size : Int)) = (q : Int) := by rw [IntKind.wrap_i64]; omega
      have HQ := hide hq
      have hltI : (k : Int) < (n : Int) := by omega
      clear hx hp hq hfl hel hbd HF HL HC
      go_wp2
      go_round
      case rel => exact ⟨k + 1, by omega, by go_num, by rw [← HQ.out]⟩
      case measure => simp [intOf]; omega
    · have hkn : k = n := by omega
      have hltI : ¬ (k : Int) < (n : Int) := by omega
      have hsz : 2 * k + (flatTo l k).length = sizeL l := by rw [hkn, ← HE.out]; rfl
      rw [hsz]
      obtain ⟨z, hz⟩ : ∃ z, z = sizeL l := ⟨_, rfl⟩
      rw [← hz]
      have HZ := hide hz
      have HV1 := hide (HR.out.below HB1.out)
      clear hsz hz hkn HC
      go_wp2_with fail
      refine (texts_any _ l w1 (by rw [HE.out]; omega) HV1.out).mono ?_
      rintro e w2 ⟨a2, c2, rfl, ho2, hb2⟩
      have HB2 := hide (Below.next HB1.out hb2)
      have HV2 := hide (HV1.out.below hb2)
      have HLA := hide (lay_any A _ l w2 HS.out (rowR_of_owns ho2).strs (errs_below HER.out HB2.out))
      clear ho2 hb2 HB1 HV1
      go_wp2_with fail
      refine HLA.out.mono ?_
      rintro e w3 ⟨hv, hb3⟩
      have HB3 := hide (Below.next HB2.out hb3)
      have HV3 := hide (HV2.out.below hb3)
      clear hb3 HB2 HV2 HLA
      rcases hv with ⟨hfit, rfl⟩ | ⟨hfit, rfl⟩
      · have hs4 := lay_bytes l hfit
        obtain ⟨s, hs⟩ : ∃ s, s = (⟨(layL l).toArray⟩ : ByteArray) := ⟨_, rfl⟩
        have hok : OkR s.data.toList n := by rw [hs, ← HE.out]; exact lay_ok l hfit
        have hcl : cellsB s.data.toList n = l := by rw [hs, ← HE.out]; exact cells_lay l hfit
        rw [← hs] at hs4 ⊢
        have HOK : Hid (OkR s.data.toList n ∧ cellsB s.data.toList n = l) := ⟨hok, hcl⟩
        have zle : (z : Int) ≤ 4072 := by have := HZ.out; omega
        have d0 : ((z : Int) != (z : Int)) = false := by simp
        have d1 : ((s.size : Int) == 4072) = true := by rw [hs4]; rfl
        clear hs hok hcl hs4
        go_wp2_with fail
        refine (texts_any _ l w3 (by rw [HE.out]; omega) HV3.out).mono ?_
        rintro e w4 ⟨a4, c4, rfl, ho4, hb4⟩
        have HB4 := hide (Below.next HB3.out hb4)
        have HV4 := hide (HV3.out.below hb4)
        have HSI := hide (size_any _ l w4 HS.out (rowR_of_owns ho4).strs)
        rw [← HZ.out] at HSI
        clear ho4 hb4 HB3 HV3
        go_wp2_with fail
        refine HSI.out.mono ?_
        rintro e wq ⟨rfl, rfl⟩
        go_wp2_with fail
        refine (read_any A (n : Int) s w4 (errs_below HER.out HB4.out)).mono ?_
        rintro e w5 ⟨hv, hb5⟩
        rcases hv with ⟨_, _, g, rfl, hown⟩ | ⟨hbad, _⟩
        case inr => exact absurd ⟨by omega, HOK.out.1⟩ hbad
        rw [Int.toNat_natCast, HOK.out.2] at hown
        rw [Int.toNat_natCast]
        have HB5 := hide (Below.next HB4.out hb5)
        have HSA := hide (sames_same _ _ l w5 (by rw [HE.out]; omega) (HV4.out.below hb5).strs (rowR_of_owns hown).strs)
        clear hb5 hown HV4 HB4 HSI
        go_wp2_with fail
        refine HSA.out.mono ?_
        rintro e w6 ⟨rfl, hb6⟩
        have HB6 := hide (Below.next HB5.out hb6)
        clear hb6 HSA
        go_wp2
        go_ret
        exact ⟨rfl, HB6.out⟩
      · have zle : ¬ (z : Int) ≤ 4072 := by have := HZ.out; omega
        have d0 : ((z : Int) != (z : Int)) = false := by simp
        have q0 := eq_same A 2
        go_wp2_with fail
        refine (texts_any _ l w3 (by rw [HE.out]; omega) HV3.out).mono ?_
        rintro e w4 ⟨a4, c4, rfl, ho4, hb4⟩
        have HB4 := hide (Below.next HB3.out hb4)
        have HSI := hide (size_any _ l w4 HS.out (rowR_of_owns ho4).strs)
        rw [← HZ.out] at HSI
        have hE4 := errs_below HER.out HB4.out
        have g0 : w4.cell? ⟨1, 0, none⟩ = some (.iface 86 (.pointer (some (A 2)))) := (hE4.1 2 (by decide)).1
        clear ho4 hb4 HB3 HV3 hE4
        go_wp2_with fail
        refine HSI.out.mono ?_
        rintro e wq ⟨rfl, rfl⟩
        go_wp2
        go_ret
        exact ⟨rfl, HB4.out⟩

end Go.Proofs.YtocfedakjcghnaaDoor
