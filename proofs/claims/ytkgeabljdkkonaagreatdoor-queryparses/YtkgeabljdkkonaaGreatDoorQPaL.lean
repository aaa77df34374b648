import Derived.Test.YtkgeabljdkkonaaGreatDoorQSame
import Derived.Test.YtkgeabljdkkonaaGreatDoorQPrs
namespace Go.Proofs.YtkgeabljdkkonaaGreatDoor
open Go.RowKit

theorem parF_cases (s : ByteArray) : parF s = 2 ∨ parF s = 3 := by
  unfold parF
  split
  · exact .inr rfl
  · exact .inl rfl
theorem errs_three {A : Nat → Addr} {w : World} (h : ErrsAt 13 gAll A w) : ErrsAt 3 gAll A w := ⟨fun i hi => h.1 i (by omega), fun i j hi hj => h.2 i j (by omega) (by omega)⟩
set_option maxHeartbeats 8000000 in
set_option maxRecDepth 100000 in
theorem lparses_any (A : Nat → Addr) (s : ByteArray) (w : World) (hE : ErrsAt 13 gAll A w) (hv : TokEnv w) (hs : s.size ≤ 140737488355328) :
    Calls Tryz.prog 3 #[.string s] w fun e w' => e = .returned (.bool true) ∧ Below w.heap.size w w' := by
  have HP := hide (pparse_any A s w (errs_three hE) hv hs)
  have HR := hide (fun W => rparse_any s W hs)
  have HF := hide (parF_cases s)
  have HNU := hide (fun W (hb : Below w.heap.size w W) => num_errQ A W (hE.keep hb) (parF s) (by rcases HF.out with h | h <;> simp [h]))
  obtain ⟨po, hpo⟩ : ∃ po, po = parD s := ⟨_, rfl⟩
  obtain ⟨f, hf⟩ : ∃ f, f = parF s := ⟨_, rfl⟩
  rw [← hpo, ← hf] at HP HR
  rw [← hf] at HNU
  clear hpo hf hE hv hs HF
  cases po with
  | none =>
    go_enter Tryz.func3, Tryz.ntmps3
    go_wp2_with fail
    refine HP.out.mono ?_
    rintro e W1 ⟨he, hb1⟩
    have he : e = .returned (.tuple #[.agg (qV qd0 (.slice none 0 0)), errQ A f]) := he
    subst he
    have x1 := RowAt.new W1 #[.string ⟨#[]⟩, .slice none 0 0, .string ⟨#[]⟩, .bool false, .int .i64 0] 24
    have hB1 : Below w.heap.size w (W1.alloc (.cells #[.string ⟨#[]⟩, .slice none 0 0, .string ⟨#[]⟩, .bool false, .int .i64 0] 24)) := Below.next hb1 (below_new _ _)
    obtain ⟨V1, hV1⟩ : ∃ V1, W1.alloc (.cells #[.string ⟨#[]⟩, .slice none 0 0, .string ⟨#[]⟩, .bool false, .int .i64 0] 24) = V1 := ⟨_, rfl⟩
    rw [hV1] at x1 hB1
    have HX1 := hide x1
    have HB1 := hide hB1
    have HV1 := hide hV1
    clear HP hb1 x1 hB1 hV1
    go_wp2_with fail
    rw [HV1.out]
    refine (HR.out V1).mono ?_
    rintro e W2 ⟨he, hb2⟩
    have he : e = .returned (.tuple #[.agg (qV qd0 (.slice none 0 0)), .int .i64 (f : Int)]) := he
    subst he
    have x2 := RowAt.new W2 #[.string ⟨#[]⟩, .slice none 0 0, .string ⟨#[]⟩, .bool false, .int .i64 0] 24
    have n2 := below_new W2 (.cells #[.string ⟨#[]⟩, .slice none 0 0, .string ⟨#[]⟩, .bool false, .int .i64 0] 24)
    obtain ⟨V2, hV2⟩ : ∃ V2, W2.alloc (.cells #[.string ⟨#[]⟩, .slice none 0 0, .string ⟨#[]⟩, .bool false, .int .i64 0] 24) = V2 := ⟨_, rfl⟩
    rw [hV2] at x2 n2
    have x1' := (HX1.out.below hb2).below n2
    have HB2 := hide (Below.next (Below.next HB1.out hb2) n2)
    obtain ⟨a0, a1, a2, a3, a4⟩ := x1'.q5
    obtain ⟨d0, d1, d2, d3, d4⟩ := x2.q5
    have HSQ := hide (sameQ_same qd0 (.slice none 0 0) (.slice none 0 0) V2 (cs_nil _ _ _ _) (cs_nil _ _ _ _))
    have HV2 := hide hV2
    rw [← hV2] at a0 a1 a2 a3 a4 d0 d1 d2 d3 d4
    clear hb2 n2 x2 x1' hV2 HB1 HX1 HR
    go_wp2_with fail
    rw [HV2.out]
    refine HSQ.out.mono ?_
    rintro e W3 ⟨rfl, hb3⟩
    have HB3 := hide (Below.next HB2.out hb3)
    clear hb3 HSQ HB2 HV2 a0 a1 a2 a3 a4 d0 d1 d2 d3 d4
    go_wp2_with fail
    refine (HNU.out W3 HB3.out).mono ?_
    rintro e W4 ⟨rfl, rfl⟩
    go_wp2
    go_ret
    exact ⟨rfl, HB3.out⟩
  | some q =>
    go_enter Tryz.func3, Tryz.ntmps3
    go_wp2_with fail
    refine HP.out.mono ?_
    rintro e W1 ⟨⟨la, k, rfl, hcs1⟩, hb1⟩
    have x1 := RowAt.new W1 (qV q (.slice la q.cs.length k)) 24
    have n1 := below_new W1 (.cells (qV q (.slice la q.cs.length k)) 24)
    obtain ⟨V1, hV1⟩ : ∃ V1, W1.alloc (.cells (qV q (.slice la q.cs.length k)) 24) = V1 := ⟨_, rfl⟩
    rw [hV1] at x1 n1
    have HX1 := hide x1
    have HB1 := hide (Below.next hb1 n1)
    have HC1 := hide (hcs1.keep n1)
    have HV1 := hide hV1
    clear HP hb1 x1 n1 hV1 hcs1
    go_wp2_with fail
    rw [HV1.out]
    refine (HR.out V1).mono ?_
    rintro e W2 ⟨⟨lb, k2, rfl, hcs2⟩, hb2⟩
    have x2 := RowAt.new W2 (qV q (.slice lb q.cs.length k2)) 24
    have n2 := below_new W2 (.cells (qV q (.slice lb q.cs.length k2)) 24)
    obtain ⟨V2, hV2⟩ : ∃ V2, W2.alloc (.cells (qV q (.slice lb q.cs.length k2)) 24) = V2 := ⟨_, rfl⟩
    rw [hV2] at x2 n2
    have x1' := (HX1.out.below hb2).below n2
    have HB2 := hide (Below.next (Below.next HB1.out hb2) n2)
    obtain ⟨a0, a1, a2, a3, a4⟩ := x1'.q5
    obtain ⟨d0, d1, d2, d3, d4⟩ := x2.q5
    have HSQ := hide (sameQ_same q (.slice la q.cs.length k) (.slice lb q.cs.length k2) V2 ((HC1.out.keep hb2).keep n2).any (hcs2.keep n2).any)
    have HV2 := hide hV2
    rw [← hV2] at a0 a1 a2 a3 a4 d0 d1 d2 d3 d4
    clear hb2 n2 x2 x1' hV2 HB1 HX1 HR hcs2 HC1
    go_wp2_with fail
    rw [HV2.out]
    refine HSQ.out.mono ?_
    rintro e W3 ⟨rfl, hb3⟩
    have HB3 := hide (Below.next HB2.out hb3)
    have HNN := hide (num_nil W3)
    clear hb3 HSQ HB2 HV2 a0 a1 a2 a3 a4 d0 d1 d2 d3 d4
    go_wp2_with fail
    refine HNN.out.mono ?_
    rintro e W4 ⟨rfl, rfl⟩
    go_wp2
    go_ret
    exact ⟨rfl, HB3.out⟩
end Go.Proofs.YtkgeabljdkkonaaGreatDoor
