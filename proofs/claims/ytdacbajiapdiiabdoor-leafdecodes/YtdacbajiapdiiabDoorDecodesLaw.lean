import Derived.Test.YtdacbajiapdiiabDoorLDecode
import Derived.Test.YtdacbajiapdiiabDoorLErr13
import Derived.Test.YtdacbajiapdiiabDoorLSame
import Derived.Test.YtdacbajiapdiiabDoorRDec7
namespace Go.Proofs.YtdacbajiapdiiabDoor
open Go.RowKit

set_option maxRecDepth 20000 in
set_option maxHeartbeats 4000000 in
theorem decodes_any (A : Nat → Addr) (cn : Int) (s : ByteArray) (w : World) (hE : ErrsG 13 gAll A w) :
    Calls Tryd.prog 3 #[.agg #[.int .i64 cn, .string s]] w fun e w' => e = .returned (.bool true) ∧ Below w.heap.size w w' := by
  have hb0 := below_new w (.cells #[.int .i64 cn, .string s] 23)
  have hx0 := boxed_new w #[.int .i64 cn, .string s] 23
  have HE := hide (hE.keep hb0)
  have HB0 := hide hb0
  have HX := hide hx0
  have HD := hide (ldec_any A cn s _ (errC_all HE.out))
  have k0 : (w.alloc (.cells #[.int .i64 cn, .string s] 23)).cell? ⟨w.heap.size, 0, none⟩ = some (.int .i64 cn) := hx0.2 0 (by simp)
  have k1 : (w.alloc (.cells #[.int .i64 cn, .string s] 23)).cell? ⟨w.heap.size, 1, none⟩ = some (.string s) := hx0.2 1 (by simp)
  clear hb0 hx0 hE
  go_enter Tryd.func3, Tryd.ntmps3
  go_wp2_with fail
  generalize w.alloc (.cells #[.int .i64 cn, .string s] 23) = W0 at *
  refine HD.out.mono ?_
  rintro e w1 ⟨hv, hb1⟩
  obtain ⟨u, ev, L, cc, rfl, hu, hno, hrv⟩ : ∃ (u ev : Value) (L : List Pr) (cc : Nat), e = .returned (.tuple #[u, ev]) ∧ (PrR w1 u L ∧ L.length ≤ 140737488355328) ∧ (∀ W, ErrsG 13 gAll A W → Calls Tryd.prog 9 #[ev] W fun e w' => e = .returned (.int .i64 (cc : Int)) ∧ W = w') ∧ (∀ e base W, RDecV cn s base e W → ∃ u', e = .returned (.tuple #[u', .int .i64 (cc : Int)]) ∧ PrR W u' L) := by
    rcases hv with ⟨h0, hd, u, he, ho⟩ | ⟨hn, he⟩
    · have hn := hd.1.1.1
      refine ⟨u, _, _, 0, he, ⟨ho.at, by rw [decL_len]; omega⟩, fun W _ => num_nil W, fun e base W hr => ?_⟩
      rcases hr with ⟨_, _, u', he', ho'⟩ | ⟨hn', _⟩
      · exact ⟨u', he', ho'.at⟩
      · exact absurd ⟨h0, hd⟩ hn'
    · refine ⟨_, _, [], 2, he, ⟨PrR.nil _, by simp⟩, fun W hE => num_err A (some 1) W hE (.inr (.inr (.inl rfl))), fun e base W hr => ?_⟩
      rcases hr with ⟨h0, hd, _⟩ | ⟨_, he'⟩
      · exact absurd ⟨h0, hd⟩ hn
      · exact ⟨_, he', PrR.nil _⟩
  have HU := hide hu
  have HNO := hide hno
  have HRV := hide hrv
  have HB1 := hide hb1
  have HRD := hide (rldec_any cn s w1)
  have m0 : w1.cell? ⟨w.heap.size, 0, none⟩ = some (.int .i64 cn) := (HX.out.below hb1).2 0 (by simp)
  have m1 : w1.cell? ⟨w.heap.size, 1, none⟩ = some (.string s) := (HX.out.below hb1).2 1 (by simp)
  clear hv hb1 hu hno hrv HD k0 k1
  go_wp2_with fail
  refine HRD.out.mono ?_
  rintro e w2 ⟨hv, hb2⟩
  obtain ⟨u', rfl, hu'⟩ := HRV.out _ _ _ hv
  have HB2 := hide (Below.next HB1.out hb2)
  have HSM := hide (samep_same u u' L w2 HU.out.2 (HU.out.1.below hb2) hu')
  clear hv hb2 HRD HB1 HU HRV hu' m0 m1
  go_wp2_with fail
  refine HSM.out.mono ?_
  rintro e w3 ⟨rfl, hb3⟩
  have HB3 := hide (Below.next HB2.out hb3)
  have HN3 := hide (HNO.out w3 (HE.out.keep HB3.out))
  have e2 : ((cc : Int) == (cc : Int)) = true := by simp
  have HB10 := hide (Below.next HB0.out HB3.out)
  clear hb3 HSM HB2 HNO HE HX HB0 HB3
  go_wp2_with fail
  refine HN3.out.mono ?_
  rintro e w7 ⟨rfl, rfl⟩
  go_wp2
  go_ret
  exact ⟨rfl, HB10.out⟩

end Go.Proofs.YtdacbajiapdiiabDoor
