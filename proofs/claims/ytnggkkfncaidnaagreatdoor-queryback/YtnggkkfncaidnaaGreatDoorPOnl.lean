import Derived.Test.YtnggkkfncaidnaaGreatDoorGRN
namespace Go.Proofs.YtnggkkfncaidnaaGreatDoor
open Go.RowKit

/-! The law QueryOnly. -/
theorem numsL_of : ∀ (l : List It), (∀ x ∈ l, numsI x) → numsL l
  | [], _ => trivial
  | x :: l, h => ⟨h x (by simp), numsL_of l fun y hy => h y (by simp [hy])⟩
theorem numsI_of (x : It) (h : x.Ok) (hl : numsL x.list) : numsI x := by
  obtain ⟨k, n, t, l⟩ := x
  exact ⟨h.n1, h.n2, hl⟩
theorem ItsAt.nums {w : World} {F : Nat → Prop} {v : Value} {l : List It} (h : ItsAt w F v l) : numsL l := by
  induction h with
  | mk a g off cap l vs hlen ha hok h0 h1 h2 h3 hin ih =>
    refine numsL_of l fun x hx => ?_
    obtain ⟨i, hi, rfl⟩ := List.mem_iff_getElem.1 hx
    exact numsI_of _ (hok i hi) (ih i hi)
theorem CsAt.nums {w : World} {F : Nat → Prop} {v : Value} {l : List Cd} (h : CsAt w F v l) : ∀ c ∈ l, numsI c.item := by
  obtain ⟨a, g, off, cap, vs, h1, h2, h3, h4⟩ := h
  intro c hc
  obtain ⟨i, hi, rfl⟩ := List.mem_iff_getElem.1 hc
  exact numsI_of _ (h4 i hi).1.it (h4 i hi).2.2.nums
theorem par_parts {s : ByteArray} {q : Qd} (h : parD s = some q) : QFit q ∧ qfaultD q = 0 := by
  unfold parD at h
  split at h
  · cases h
  · rename_i hl
    split at h
    · cases h
    · rename_i q' hq
      split at h
      · rename_i hf
        cases h
        exact ⟨query_fit s q (by omega) hq, hf⟩
      · cases h
theorem print_parts {q : Qd} (h : qfaultD q = 0) : (printF q = 0 ∧ (printT q).size ≤ 65536) ∨ (printF q = 3 ∧ printT q = ⟨#[]⟩) := by
  unfold printT printF
  rw [if_pos h]
  by_cases hl : 65536 < (textL q).length
  · right
    simp only [hl, if_true]
    exact ⟨trivial, rfl⟩
  · left
    simp only [hl, if_false, if_true]
    exact ⟨trivial, by rw [ba_size]; omega⟩
set_option maxHeartbeats 8000000 in
set_option maxRecDepth 100000 in
theorem lonly_any (A : Nat → Addr) (s : ByteArray) (w : World) (hv : LEnv A w) (hE : ErrsAt 13 gAll A w) (hs : s.size ≤ 140737488355328) :
    Calls Tryz.prog 3 #[.string s] w fun e w' => e = .returned (.bool true) ∧ Below w.heap.size w w' := by
  have HP := hide (pparse_any A s w hv.errs hv.tok hs)
  have HV := hide hv
  have HE13 := hide hE
  have HPP := hide (fun q => @par_parts s q)
  have HF : Hid ((65536 < s.size → parF s = 3) ∧ (¬ 65536 < s.size → parF s = 2)) := ⟨fun h => by rw [parF, if_pos h], fun h => by rw [parF, if_neg h]⟩
  obtain ⟨po, hpo⟩ : ∃ po, po = parD s := ⟨_, rfl⟩
  obtain ⟨pf, hpf⟩ : ∃ pf, pf = parF s := ⟨_, rfl⟩
  rw [← hpo, ← hpf] at HP
  rw [← hpo] at HPP
  rw [← hpf] at HF
  clear hv hpo hpf hE
  go_enter Tryz.func3, Tryz.ntmps3
  go_wp2_with fail
  refine HP.out.mono ?_
  rintro e W1 ⟨hpr, hB1⟩
  clear HP
  have y1 := RowAt.new W1 #[.string ⟨#[]⟩, .slice none 0 0, .string ⟨#[]⟩, .bool false, .int .i64 0] 24
  cases po with
  | none =>
    obtain rfl : e = .returned (.tuple #[.agg (qV qd0 (.slice none 0 0)), errQ A pf]) := hpr
    have HST := hide (store_q _ W1.heap.size _ _ _ _ _ qd0 none 0 0 y1)
    obtain ⟨V, hV⟩ : ∃ V, (W1.alloc (.cells #[.string ⟨#[]⟩, .slice none 0 0, .string ⟨#[]⟩, .bool false, .int .i64 0] 24)).setRow W1.heap.size (qV qd0 (.slice none 0 0)) = V := ⟨_, rfl⟩
    have hB : Below W1.heap.size W1 V := by rw [← hV]; exact below_setRow (below_new W1 _) (Nat.le_refl _) _
    have yV : RowAt V W1.heap.size (qV qd0 (.slice none 0 0)) 24 := by rw [← hV]; exact row_set _ _ _ _ _ y1
    rw [hV] at HST
    have HBV := hide (Below.next hB1 hB)
    have HVV := hide (HV.out.keep HBV.out)
    have HFI := hide (first_any A V HVV.out)
    have HYV := hide yV
    simp only [qV] at HST HYV
    have hpfc : ∃ pa, errQ A pf = .iface 167 (.pointer (some pa)) := by
      by_cases hl : 65536 < s.size
      · rw [HF.out.1 hl]; exact ⟨_, rfl⟩
      · rw [HF.out.2 hl]; exact ⟨_, rfl⟩
    obtain ⟨pa, hpa⟩ := hpfc
    have HNM := hide (fun W (hW : Below V.heap.size V W) => num_errQ A W (HE13.out.keep (Below.next HBV.out hW)) pf (by
      by_cases hl : 65536 < s.size
      · rw [HF.out.1 hl]; simp
      · rw [HF.out.2 hl]; simp))
    rw [hpa] at HNM ⊢
    clear hB1 y1 hV hB yV HPP hpa
    go_wp2_with (first
      | (refine wpList_store_eq rfl 24 _ _ rfl _ _ rfl rfl HST.out ?_))
    refine HFI.out.mono ?_
    rintro e W2 ⟨rfl, hb2⟩
    obtain ⟨d0, d1, d2, d3, d4⟩ := (HYV.out.below hb2).q5
    have HSQ := hide (sameQ_same qd0 (.slice none 0 0) (.slice none 0 0) W2 (cs_nil _ _ _ _) (cs_nil _ _ _ _))
    simp only [qV] at HSQ
    have HB2 := hide hb2
    clear HFI HST hb2
    go_wp2_with fail
    refine HSQ.out.mono ?_
    rintro e W3 ⟨rfl, hb3⟩
    have HB3 := hide (Below.next HB2.out hb3)
    have HNM3 := hide (HNM.out W3 HB3.out)
    clear HSQ HNM hb3 d0 d1 d2 d3 d4
    go_wp2_with fail
    refine HNM3.out.mono ?_
    rintro e W4 ⟨rfl, rfl⟩
    have HEND := hide (Below.next HBV.out HB3.out)
    clear HNM3
    by_cases hl : 65536 < s.size
    · have e3 := HF.out.1 hl
      subst e3
      have hlI : (65536 : Int) < (s.size : Int) := by omega
      have hlJ : ¬ (s.size : Int) ≤ 65536 := by omega
      clear hl HF
      go_wp2_with fail
      go_ret
      exact ⟨rfl, HEND.out⟩
    · have e3 := HF.out.2 hl
      subst e3
      have hlI : ¬ (65536 : Int) < (s.size : Int) := by omega
      have hlJ : (s.size : Int) ≤ 65536 := by omega
      clear hl HF
      go_wp2_with fail
      go_ret
      exact ⟨rfl, HEND.out⟩
  | some q =>
    obtain ⟨la, k, rfl, hCS⟩ := hpr
    obtain ⟨hfit, hfq⟩ := HPP.out q rfl
    have hnums : QNums q := ⟨hCS.nums, hfit.m2⟩
    have HPB := hide (fun h => print_back q h hnums)
    have HPP2 := hide (print_parts hfq)
    have HST := hide (store_q _ W1.heap.size _ _ _ _ _ q la q.cs.length k y1)
    obtain ⟨V, hV⟩ : ∃ V, (W1.alloc (.cells #[.string ⟨#[]⟩, .slice none 0 0, .string ⟨#[]⟩, .bool false, .int .i64 0] 24)).setRow W1.heap.size (qV q (.slice la q.cs.length k)) = V := ⟨_, rfl⟩
    have hB : Below W1.heap.size W1 V := by rw [← hV]; exact below_setRow (below_new W1 _) (Nat.le_refl _) _
    have yV : RowAt V W1.heap.size (qV q (.slice la q.cs.length k)) 24 := by rw [← hV]; exact row_set _ _ _ _ _ y1
    rw [hV] at HST
    have HBV := hide (Below.next hB1 hB)
    have HVV := hide (HV.out.keep HBV.out)
    have HFI := hide (first_any A V HVV.out)
    have HYV := hide yV
    have HCV := hide (hCS.keep hB).any
    have HPR := hide (fun W (hW : Below V.heap.size V W) => pprint_any A q (.slice la q.cs.length k) W (HCV.out.keep hW) (HVV.out.keep hW).errs hfit.cnt (by have := hfit.t; omega) (by have := hfit.o; omega) hfit.m2 (HVV.out.keep hW).pow)
    have HPA := hide (fun W (hW : Below V.heap.size V W) (t : ByteArray) (ht : t.size ≤ 65536) => pparse_any A t W (HVV.out.keep hW).errs (HVV.out.keep hW).tok (by omega))
    have HSM := hide (fun W va vb h1 h2 => sameQ_same q va vb W h1 h2)
    obtain ⟨pf2, hpf2⟩ : ∃ pf2, pf2 = printF q := ⟨_, rfl⟩
    obtain ⟨pt2, hpt2⟩ : ∃ pt2, pt2 = printT q := ⟨_, rfl⟩
    rw [← hpf2, ← hpt2] at HPP2 HPB HPR
    obtain ⟨qt, qc, qo, qf, ql⟩ := q
    simp only [qV] at HST HYV HPR HSM
    clear hCS hB1 y1 hV hB yV HPP hfit hfq hnums hpf2 hpt2 HF
    go_wp2_with (first
      | (refine wpList_store_eq rfl 24 _ _ rfl _ _ rfl rfl HST.out ?_))
    refine HFI.out.mono ?_
    rintro e W2 ⟨rfl, hb2⟩
    obtain ⟨d0, d1, d2, d3, d4⟩ := (HYV.out.below hb2).q5
    have HPR2 := hide (HPR.out W2 hb2)
    have HB2 := hide hb2
    clear HFI HST hb2 HPR
    go_wp2_with fail
    refine HPR2.out.mono ?_
    rintro e W3 ⟨rfl, hb3⟩
    have hb23 := Below.next HB2.out hb3
    have HB3 := hide hb23
    clear HPR2 hb3 d0 d1 d2 d3 d4 HB2
    rcases HPP2.out with ⟨e1, e2⟩ | ⟨e1, e2⟩
    · subst e1
      have e0 : errQ A 0 = .nilIface := rfl
      rw [e0]
      have HPA3 := hide (HPA.out W3 hb23 pt2 e2)
      rw [HPB.out rfl] at HPA3
      clear hb23 HPA HPB HPP2 e2 e0
      go_wp2_with fail
      refine HPA3.out.mono ?_
      rintro e W4 ⟨⟨la4, k4, rfl, hC4⟩, hb4⟩
      have y4 := RowAt.new W4 #[.string ⟨#[]⟩, .slice none 0 0, .string ⟨#[]⟩, .bool false, .int .i64 0] 24
      have HST4 := hide (store_q _ W4.heap.size _ _ _ _ _ ⟨qt, qc, qo, qf, ql⟩ la4 qc.length k4 y4)
      obtain ⟨V4, hV4⟩ : ∃ V4, (W4.alloc (.cells #[.string ⟨#[]⟩, .slice none 0 0, .string ⟨#[]⟩, .bool false, .int .i64 0] 24)).setRow W4.heap.size (qV ⟨qt, qc, qo, qf, ql⟩ (.slice la4 qc.length k4)) = V4 := ⟨_, rfl⟩
      have hB4 : Below W4.heap.size W4 V4 := by rw [← hV4]; exact below_setRow (below_new W4 _) (Nat.le_refl _) _
      have yV4 : RowAt V4 W4.heap.size (qV ⟨qt, qc, qo, qf, ql⟩ (.slice la4 qc.length k4)) 24 := by rw [← hV4]; exact row_set _ _ _ _ _ y4
      rw [hV4] at HST4
      have hb34 := Below.next (Below.next HB3.out hb4) hB4
      have HSM4 := hide (HSM.out V4 (.slice la qc.length k) (.slice la4 qc.length k4) (HCV.out.keep hb34) (hC4.keep hB4).any)
      have HEND := hide (Below.next HBV.out hb34)
      obtain ⟨d0, d1, d2, d3, d4⟩ := (HYV.out.below hb34).q5
      obtain ⟨f0, f1, f2, f3, f4⟩ := yV4.q5
      simp only [qV] at HST4 f0 f1 f2 f3 f4
      clear HPA3 hC4 hb4 y4 hV4 hB4 yV4 hb34 HSM HB3
      go_wp2_with (first
        | (refine wpList_store_eq rfl 24 _ _ rfl _ _ rfl rfl HST4.out ?_))
      refine HSM4.out.mono ?_
      rintro e W5 ⟨rfl, hb5⟩
      have HE5 := hide (Below.next HEND.out hb5)
      clear HSM4 hb5 HST4
      go_wp2_with fail
      go_ret
      exact ⟨rfl, HE5.out⟩
    · subst e1 e2
      have e0 : errQ A 3 = .iface 167 (.pointer (some (A 2))) := rfl
      have HNM := hide (num_errQ A W3 (HE13.out.keep (Below.next HBV.out hb23)) 3 (by simp))
      rw [e0] at HNM ⊢
      have HEND := hide (Below.next HBV.out hb23)
      clear hb23 HPA HPB HPP2 e0
      go_wp2_with fail
      refine HNM.out.mono ?_
      rintro e W4 ⟨rfl, rfl⟩
      clear HNM
      go_wp2_with fail
      go_ret
      exact ⟨rfl, HEND.out⟩
end Go.Proofs.YtnggkkfncaidnaaGreatDoor
