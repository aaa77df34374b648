import Derived.Test.YtageokjobbjddaaGreatDoorPWr6
import Derived.Test.YtageokjobbjddaaGreatDoorErrsG
namespace Go.Proofs.YtageokjobbjddaaGreatDoor
open Go.RowKit

theorem CsAt.weak {w : World} {v : Value} {l : List Cd} (h : CsAt w anyB v l) : CsAt w (fun g => g < w.heap.size) v l := by
  obtain ⟨a, g, off, cap, vs, h1, h2, h3, h4⟩ := h
  refine ⟨a, g, off, cap, vs, h1, h2, fun h0 => ⟨(h3 h0).1, ?_⟩, fun i hi => ⟨(h4 i hi).1, (h4 i hi).2.1, (h4 i hi).2.2.weak fun g hg _ => hg⟩⟩
  have := (h4 0 h0).2.1 0 _ rfl
  exact World.block_lt_of_cell? w _ this
theorem name_size {s : ByteArray} (h : isNameD s = true) : 1 ≤ s.size ∧ s.size ≤ 32 := by
  unfold isNameD at h
  rw [Bool.and_eq_true] at h
  simpa using h.2
structure FineP (q : Qd) : Prop where
  t : 1 ≤ q.table.size ∧ q.table.size ≤ 32
  cs : ∀ c ∈ q.cs, condF c = 0
  o : q.order = ⟨#[]⟩ ∨ (1 ≤ q.order.size ∧ q.order.size ≤ 32)
  m : 0 ≤ q.limit
theorem finep_of {q : Qd} (h : qfaultD q = 0) : FineP q := by
  unfold qfaultD at h
  by_cases h1 : isNameD q.table = true
  · rw [if_pos h1] at h
    by_cases h2 : firstN condF q.cs = 0
    · rw [if_pos h2] at h
      have h3 : (q.order = ⟨#[]⟩ ∨ isNameD q.order = true) ∧ ¬ (q.falling = true ∧ q.order = ⟨#[]⟩) ∧ 0 ≤ q.limit := by
        unfold endF at h
        split at h
        · assumption
        · cases h
      exact ⟨name_size h1, firstN_zero _ h2, h3.1.imp id name_size, h3.2.2⟩
    · rw [if_neg h2] at h
      exact absurd h h2
  · rw [if_neg h1] at h
    cases h
def QryP (w : World) (base : Nat) (q : Qd) (e : Ending) (w' : World) : Prop := ∃ k, k ≤ q.cs.length ∧ WrP w base (fromL ++ nameL q.table ++ condsL (q.cs.take k) ++ orderL q ++ fallL q ++ limitL q) e w' ∧ (k = q.cs.length ∨ 65536 < (fromL ++ nameL q.table ++ condsL (q.cs.take k)).length)
set_option maxHeartbeats 8000000 in
set_option maxRecDepth 100000 in
theorem papq_any (q : Qd) (cv : Value) (base : Nat) (w : World) (hbase : base ≤ w.heap.size) (hc : CsAt w (fun g => g < base) cv q.cs) (hq : FineP q) (hsz : cntC q.cs ≤ 16777216) (hm2 : q.limit ≤ 9223372036854775807) (ht : PowAt base w) :
    Calls Tryz.prog 16 #[.slice none 0 0, .agg (qV q cv)] w fun e w' => QryP w base q e w' := by
  obtain ⟨ca, cc, hcv⟩ := hc.form
  subst hcv
  have HQ := hide hq
  obtain ⟨t, l, o, f, m⟩ := q
  simp only [qV] at hc hsz hm2 ⊢
  have hclen := hc.len
  have q1 := below_new w (.cells #[.string t, .slice ca l.length cc, .string o, .bool f, .int .i64 m] 24)
  have x1 := RowAt.new w #[.string t, .slice ca l.length cc, .string o, .bool f, .int .i64 m] 24
  obtain ⟨W1, hW1⟩ : ∃ W1, w.alloc (.cells #[.string t, .slice ca l.length cc, .string o, .bool f, .int .i64 m] 24) = W1 := ⟨_, rfl⟩
  rw [hW1] at q1 x1
  have HW1 := hide hW1
  have hg1 : Gr base w W1 := Gr.of q1 hbase
  obtain ⟨aA, cA, wA, hrA, hbA, hgA⟩ := byt_str (Byt.nil W1 base) ⟨#[102, 114, 111, 109, 32]⟩ [102, 114, 111, 109, 32] rfl (by decide) (Nat.le_trans hbase q1.size)
  rw [← hW1] at hrA
  have HRA := hide hrA
  have hbA : Byt wA base (.slice aA 5 cA) fromL := hbA
  have hg2 := hg1.trans hgA
  have hqt : 1 ≤ t.size ∧ t.size ≤ 32 := hq.t
  have HPN := hide (papn_any t fromL (.slice aA 5 cA) base wA (by omega) (by omega) hbA (Nat.le_trans hbase hg2.size) (by decide))
  obtain ⟨y0, y1, y2, y3, y4⟩ := (hgA.row x1 (by decide)).q5
  have HXA := hide (hgA.row x1 (by decide))
  have HG2 := hide hg2
  have HC := hide hc
  have HSZ := hide hsz
  have HTB := hide ht
  clear q1 x1 hW1 hg1 hrA hbA hgA hg2 hc hsz ht hq
  go_enter Tryz.func16, Tryz.ntmps16
  go_wp2_with (first
    | (at_builtin; refine wpList_append_run2 48 9 rfl _ _ rfl rfl _ _ rfl rfl _ _ HRA.out ?_)
    | fail)
  refine HPN.out.mono ?_
  rintro e w2 ⟨aB, cB, rfl, hbB, hgB⟩
  clear HRA HPN y0 y1 y2 y3 y4
  have HXB := hide (hgB.row HXA.out (by decide))
  have hgB2 := HG2.out.trans hgB
  have hnl := nameL_len t HQ.out.t.2
  obtain ⟨tB, htB⟩ : ∃ tB, tB = fromL ++ nameL t := ⟨_, rfl⟩
  rw [← htB] at hbB ⊢
  have htBl : tB.length ≤ 80 := by
    rw [htB, List.length_append]
    have : fromL.length = 5 := rfl
    omega
  have HPC := hide (papc_any l (.slice ca l.length cc) tB (.slice aB tB.length cB) base w2 (HC.out.keepB hgB2.bel) HQ.out.cs HSZ.out hbB (Nat.le_trans hbase hgB2.size) (by omega) (HTB.out.on hgB2.bel))
  obtain ⟨y0, y1, y2, y3, y4⟩ := HXB.out.q5
  have HGB2 := hide hgB2
  have HTB2 := hide htB
  clear HXA HG2 hgB hgB2 hbB htB hnl
  go_wp2_with fail
  refine HPC.out.mono ?_
  rintro e w3 ⟨k, hk, ⟨aC, cC, rfl, hbC, hgC⟩, hkd⟩
  clear HPC y0 y1 y2 y3 y4
  have HXC := hide (hgC.row HXB.out (by decide))
  have hgC2 := HGB2.out.trans hgC
  obtain ⟨tC, htC⟩ : ∃ tC, tC = tB ++ condsL (l.take k) := ⟨_, rfl⟩
  rw [← htC] at hbC hkd ⊢
  have hfine : FineQ ⟨#[]⟩ l ⟨#[]⟩ 0 := ⟨by decide, by decide, by decide, fun c hcm => ⟨(cond_zero (HQ.out.cs c hcm)).1.2, (cond_zero (HQ.out.cs c hcm)).2.1⟩⟩
  have htCl : tC.length ≤ 1900000100 := by
    have := conds_len HC.out.any hfine HSZ.out k
    rw [htC, List.length_append]; omega
  obtain ⟨y0, y1, y2, y3, y4⟩ := HXC.out.q5
  have HGC2 := hide hgC2
  have HBC := hide hbC
  have HKD := hide hkd
  have HTC := hide htC
  have hm0 := HQ.out.m
  have HQO := hide HQ.out.o
  obtain ⟨tD, htD⟩ : ∃ tD, tD = tC ++ orderL ⟨t, l, o, f, m⟩ := ⟨_, rfl⟩
  have HTD := hide htD
  obtain ⟨tE, htE⟩ : ∃ tE, tE = tD ++ fallL ⟨t, l, o, f, m⟩ := ⟨_, rfl⟩
  have HTE := hide htE
  have HTDL : Hid (tD.length ≤ 1900000200) := by
    show _ ≤ _
    rw [htD, List.length_append, orderL]
    rcases HQ.out.o with h | h
    · rw [if_pos h]; simp; omega
    · have := nameL_len o h.2
      split
      · simp; omega
      · simp; omega
  have HTEL : Hid (tE.length ≤ 1900000300) := by
    show _ ≤ _
    have := HTDL.out
    rw [htE, List.length_append, fallL]
    split
    · simp; omega
    · simp; omega
  clear HXB HGB2 hgC hgC2 hbC hkd htC htD htE hfine
  have HROW : Hid (∀ W, Gr base w3 W → RowAt W w.heap.size #[.string t, .slice ca l.length cc, .string o, .bool f, .int .i64 m] 24) := fun W hW => hW.row HXC.out (by decide)
  have HBS3 : Hid (base ≤ w3.heap.size) := Nat.le_trans hbase HGC2.out.size
  obtain ⟨bo, hbo⟩ : ∃ bo, bo = decide (o = ⟨#[]⟩) := ⟨_, rfl⟩
  have HBO := hide hbo
  have hio : o.toList.isEmpty = bo := by
    rw [hbo]
    by_cases h : o = ⟨#[]⟩
    · rw [decide_eq_true h, h, ByteArray.toList_eq]; rfl
    · rw [decide_eq_false h]; exact (ne_nil h).2
  clear hbo HXC
  go_upto_if 17 with fail
  go_cut [0] (fun v wx => ∃ a c, v = .slice a tD.length c ∧ Byt wx base (.slice a tD.length c) tD ∧ Gr base w3 wx)
  case first =>
    cases bo with
    | true =>
      have hoe : o = ⟨#[]⟩ := of_decide_eq_true HBO.out.symm
      have e : tD = tC := by rw [HTD.out, orderL, if_pos hoe]; simp
      have HEND : Hid (∃ a c, Value.slice aC tC.length cC = .slice a tD.length c ∧ Byt w3 base (.slice a tD.length c) tD ∧ Gr base w3 w3) := by
        show ∃ _, _
        rw [e]
        exact ⟨aC, cC, rfl, HBC.out, Gr.of (Below.refl _ _) HBS3.out⟩
      clear e hoe HTD HTE HTDL HTEL HTC HKD HBO
      go_wp2_with fail
      go_meet
      exact HEND.out
    | false =>
      have hoe : ¬ o = ⟨#[]⟩ := of_decide_eq_false HBO.out.symm
      have hos : 1 ≤ o.size ∧ o.size ≤ 32 := by
        rcases HQO.out with h | h
        · exact absurd h hoe
        · exact h
      obtain ⟨aX, cX, wX, hrX, hbX, hgX⟩ := byt_str HBC.out ⟨#[32, 111, 114, 100, 101, 114, 32, 98, 121, 32]⟩ [32, 111, 114, 100, 101, 114, 32, 98, 121, 32] rfl (by simp; omega) HBS3.out
      obtain ⟨tX, htX⟩ : ∃ tX, tX = tC ++ [32, 111, 114, 100, 101, 114, 32, 98, 121, 32] := ⟨_, rfl⟩
      rw [← htX] at hrX hbX
      have htXl : tX.length ≤ 1900000110 := by rw [htX, List.length_append]; simp; omega
      have HPO := hide (papn_any o tX (.slice aX tX.length cX) base wX (by omega) (by omega) hbX (Nat.le_trans HBS3.out hgX.size) (by omega))
      have e : tX ++ nameL o = tD := by rw [HTD.out, orderL, if_neg hoe, htX, List.append_assoc]
      rw [e] at HPO
      have HRX := hide hrX
      have HGX := hide hgX
      obtain ⟨z0, z1, z2, z3, z4⟩ := (HROW.out wX hgX).q5
      clear e hoe htX hrX hbX hgX htXl HTD HTE HTDL HTEL HTC HKD HBO hos
      go_wp2_with (first
        | (at_builtin; refine wpList_append_run2 48 9 rfl _ _ rfl rfl _ _ rfl rfl _ _ HRX.out ?_)
        | fail)
      refine HPO.out.mono ?_
      rintro e w5 ⟨aY, cY, rfl, hbY, hgY⟩
      have HEND : Hid (∃ a c, Value.slice aY tD.length cY = .slice a tD.length c ∧ Byt w5 base (.slice a tD.length c) tD ∧ Gr base w3 w5) := ⟨aY, cY, rfl, hbY, HGX.out.trans hgY⟩
      clear hbY hgY HPO HRX z0 z1 z2 z3 z4
      go_wp2_with fail
      go_meet
      exact HEND.out
  case rest =>
    obtain ⟨aD, cD, rfl, hbD, hgD⟩ := hcut
    have HBD := hide hbD
    have HGD := hide hgD
    have HBSD : Hid (base ≤ wc.heap.size) := Nat.le_trans HBS3.out hgD.size
    clear y0 y1 y2 y3 y4
    obtain ⟨y0, y1, y2, y3, y4⟩ := (HROW.out wc hgD).q5
    clear hbD hgD HBO HQO HBC
    go_upto_if 25 with fail
    go_cut [0] (fun v wx => ∃ a c, v = .slice a tE.length c ∧ Byt wx base (.slice a tE.length c) tE ∧ Gr base w3 wx)
    case first =>
      cases f with
      | false =>
        have e : tE = tD := by rw [HTE.out, fallL, if_neg (by simp)]; simp
        have HEND : Hid (∃ a c, Value.slice aD tD.length cD = .slice a tE.length c ∧ Byt wc base (.slice a tE.length c) tE ∧ Gr base w3 wc) := by
          show ∃ _, _
          rw [e]
          exact ⟨aD, cD, rfl, HBD.out, HGD.out⟩
        clear e HTD HTE HTDL HTEL HTC HKD
        go_wp2_with fail
        go_meet
        exact HEND.out
      | true =>
        have hdl := HTDL.out
        obtain ⟨aX, cX, wX, hrX, hbX, hgX⟩ := byt_str HBD.out ⟨#[32, 102, 97, 108, 108, 105, 110, 103]⟩ [32, 102, 97, 108, 108, 105, 110, 103] rfl (by simp; omega) HBSD.out
        have e : tD ++ [32, 102, 97, 108, 108, 105, 110, 103] = tE := by rw [HTE.out, fallL, if_pos rfl]
        rw [e] at hrX hbX
        have HRX := hide hrX
        have HEND : Hid (∃ a c, Value.slice aX tE.length cX = .slice a tE.length c ∧ Byt wX base (.slice a tE.length c) tE ∧ Gr base w3 wX) := ⟨aX, cX, rfl, hbX, HGD.out.trans hgX⟩
        clear e hrX hbX hgX HTD HTE HTDL HTEL HTC HKD hdl
        go_wp2_with (first
          | (at_builtin; refine wpList_append_run2 48 9 rfl _ _ rfl rfl _ _ rfl rfl _ _ HRX.out ?_)
          | fail)
        go_meet
        exact HEND.out
    case rest =>
      obtain ⟨aE, cE, rfl, hbE, hgE⟩ := hcut
      have HBE := hide hbE
      have HBSE : Hid (base ≤ wc.heap.size) := Nat.le_trans HBS3.out hgE.size
      have HGE := hide hgE
      clear y0 y1 y2 y3 y4
      obtain ⟨y0, y1, y2, y3, y4⟩ := (HROW.out wc hgE).q5
      have HTEXT : Hid (∀ x, tE ++ x = fromL ++ nameL t ++ condsL (l.take k) ++ orderL ⟨t, l, o, f, m⟩ ++ fallL ⟨t, l, o, f, m⟩ ++ x) := fun x => by rw [HTE.out, HTD.out, HTC.out, HTB2.out]
      have HKD2 : Hid (k = l.length ∨ 65536 < (fromL ++ nameL t ++ condsL (l.take k)).length) := by
        show _ ∨ _
        rw [← HTB2.out, ← HTC.out]; exact HKD.out
      have hel := HTEL.out
      by_cases hm : m = 0
      · have hmI : (m != 0) = false := by simp [hm]
        have HT9 : Hid (tE = fromL ++ nameL t ++ condsL (l.take k) ++ orderL ⟨t, l, o, f, m⟩ ++ fallL ⟨t, l, o, f, m⟩ ++ limitL ⟨t, l, o, f, m⟩) := by
          show _ = _
          have e : limitL ⟨t, l, o, f, m⟩ = [] := by rw [limitL, if_neg (by show ¬ 0 < m; omega)]
          rw [e, ← HTEXT.out]; simp
        have HEND : Hid (QryP w base ⟨t, l, o, f, m⟩ (.returned (.slice aE tE.length cE)) wc) := ⟨k, hk, ⟨aE, cE, by rw [← HT9.out], by rw [← HT9.out]; exact HBE.out, HGC2.out.trans HGE.out⟩, HKD2.out⟩
        clear hm HTEXT HT9 hbE hgE hel
        go_wp2_with fail
        go_ret
        exact HEND.out
      · have hmI : (m != 0) = true := by simp [hm]
        obtain ⟨aX, cX, wX, hrX, hbX, hgX⟩ := byt_str HBE.out ⟨#[32, 108, 105, 109, 105, 116, 32]⟩ [32, 108, 105, 109, 105, 116, 32] rfl (by simp; omega) HBSE.out
        obtain ⟨tX, htX⟩ : ∃ tX, tX = tE ++ [32, 108, 105, 109, 105, 116, 32] := ⟨_, rfl⟩
        rw [← htX] at hrX hbX
        have htXl : tX.length ≤ 1900000400 := by rw [htX, List.length_append]; simp; omega
        have hgX2 := HGE.out.trans hgX
        have HPO := hide (pappint_any m tX (.slice aX tX.length cX) base wX (by omega) hm2 hbX (Nat.le_trans HBSE.out hgX.size) (by omega) (HTB.out.on (HGC2.out.trans hgX2).bel))
        have HT9 : Hid (tX ++ Lib.itoa m = fromL ++ nameL t ++ condsL (l.take k) ++ orderL ⟨t, l, o, f, m⟩ ++ fallL ⟨t, l, o, f, m⟩ ++ limitL ⟨t, l, o, f, m⟩) := by
          show _ = _
          have e : limitL ⟨t, l, o, f, m⟩ = [32, 108, 105, 109, 105, 116, 32] ++ Lib.itoa m := by rw [limitL, if_pos (by show 0 < m; omega)]
          rw [e, ← HTEXT.out, htX, List.append_assoc]
        have HRX := hide hrX
        have HGX := hide hgX2
        obtain ⟨z0, z1, z2, z3, z4⟩ := (HROW.out wX hgX2).q5
        generalize tX ++ Lib.itoa m = tF at *
        clear hm HTEXT hbE hgE hel hrX hbX hgX hgX2 htX htXl
        go_wp2_with (first
          | (at_builtin; refine wpList_append_run2 48 9 rfl _ _ rfl rfl _ _ rfl rfl _ _ HRX.out ?_)
          | fail)
        refine HPO.out.mono ?_
        rintro e w7 ⟨aF, cF, rfl, hbF, hgF⟩
        have HEND : Hid (QryP w base ⟨t, l, o, f, m⟩ (.returned (.slice aF tF.length cF)) w7) := ⟨k, hk, ⟨aF, cF, by rw [← HT9.out], by rw [← HT9.out]; exact hbF, HGC2.out.trans (HGX.out.trans hgF)⟩, HKD2.out⟩
        clear hbF hgF HPO HRX z0 z1 z2 z3 z4 HT9
        go_wp2_with fail
        go_ret
        exact HEND.out
end Go.Proofs.YtageokjobbjddaaGreatDoor
