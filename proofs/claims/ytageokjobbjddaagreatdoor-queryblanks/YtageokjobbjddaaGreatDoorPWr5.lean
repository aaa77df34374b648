import Derived.Test.YtageokjobbjddaaGreatDoorPWr4
import Derived.Test.YtageokjobbjddaaGreatDoorGRF
namespace Go.Proofs.YtageokjobbjddaaGreatDoor
open Go.RowKit

theorem listL_take (l : List It) (k : Nat) (h : k < l.length) : listL (l.take (k + 1)) = listL (l.take k) ++ (if k = 0 then [] else [44, 32]) ++ itemL (l[k]'h) := by
  rw [List.take_succ_eq_append_getElem h, listL_snoc]
  by_cases h0 : k = 0
  · subst h0; simp
  · have : l.take k ≠ [] := fun e => by
      have := congrArg List.length e
      rw [List.length_take, List.length_nil] at this
      omega
    rw [if_neg this, if_neg h0]
theorem cntL_at (l : List It) (k : Nat) (h : k < l.length) : cntL (l.take (k + 1)) = cntL (l.take k) + (l[k]'h).cnt := by
  rw [cntL_take_succ l k h, It.cnt_eq]
set_option maxHeartbeats 4000000 in
set_option maxRecDepth 100000 in
theorem papl_step (rec : List It → Nat) (ih : AppL rec) : AppL (fun l => if 16 < l.length then 3 else firstF (oneF rec) l) := by
  intro l lv o v base w hz hl hv hbase hcnt hlen ht
  have HE := hide (fault_each (rec := rec) hz)
  obtain ⟨va, vc, hf⟩ := hv.form
  subst hf
  obtain ⟨la, lc, hlf⟩ := hl.form
  subst hlf
  have hll := hl.len_le
  obtain ⟨T, hT⟩ : ∃ T, T = o ++ (91 :: (listL l ++ [93])) := ⟨_, rfl⟩
  rw [← hT]
  have HT := hide hT
  obtain ⟨a1, c1, w1, hr1, hb1, hbl1⟩ := byt_str hv ⟨#[91]⟩ [91] rfl (by simp; omega) hbase
  have HRUN := hide hr1
  have HB1 := hide hb1
  have HBL1 := hide hbl1
  obtain ⟨o1, ho1⟩ : ∃ o1, o1 = o ++ [91] := ⟨_, rfl⟩
  rw [← ho1] at HRUN HB1
  have HO1 := hide ho1
  have HOL : Hid (o1.length + 27 * cntL l + 26 ≤ 90000000000000) := by show _ ≤ _; rw [ho1]; simp; omega
  have HLL := hide (its_len hl)
  have HL := hide hl
  have HC := hide hcnt
  have HTB := hide ht
  have HIH := hide ih
  clear hr1 hb1 hbl1 hv hT ho1 hl hz hcnt hlen ht ih
  go_enter Tryz.func62, Tryz.ntmps62
  go_wp2_with (first
    | (at_builtin; refine wpList_append_run2 48 9 rfl _ _ rfl rfl _ _ rfl rfl _ _ HRUN.out ?_)
    | fail)
  clear HRUN
  go_loopw [0, 11] (fun ov iv wr => ∃ (k : Nat) (t : List UInt8) (a : Option Addr) (c : Nat), ov = .slice a t.length c ∧ iv = .int .i64 (k : Int) ∧ k ≤ l.length ∧ Hid (t = o1 ++ listL (l.take k)) ∧ Hid (Byt wr base (.slice a t.length c) t) ∧ Hid (Gr base w wr)) (fun _ iv _ => l.length - (intOf iv).toNat)
  case atStart => exact ⟨0, o1, a1, c1, rfl, rfl, Nat.zero_le _, by show _ = _; simp [listL], HB1.out, HBL1.out⟩
  case round =>
    obtain ⟨k, t, a, c, rfl, rfl, hk, ht, hb, hbl⟩ := hrel
    have hll2 := listL_len (l.take k) (fun y hy => HLL.out y (List.mem_of_mem_take hy))
    have htl : t.length ≤ o1.length + 27 * cntL (l.take k) := by
      rw [ht.out, List.length_append]; omega
    have hbs : base ≤ wr.heap.size := Nat.le_trans hbase hbl.out.size
    by_cases hlt : k < l.length
    · have hltI : (k : Int) < (l.length : Int) := by omega
      have e0 : (0 : Int) ≤ (k : Int) := by omega
      obtain ⟨g, off, u, hla, hok, s0, s1, s2, s3, hin⟩ := (ItsAt.keepB HL.out hbl.out.bel).get k hlt
      have HTK := hide (listL_take l k hlt)
      have hcat := cntL_at l k hlt
      have hctk := cntL_take_le l (k + 1)
      have hcl := HC.out
      have hol := HOL.out
      have hone := HE.out _ (List.getElem_mem hlt)
      have HJ : Hid (k + 1 ≤ l.length) := by show _ ≤ _; omega
      obtain ⟨x, hx⟩ : ∃ x, x = l[k]'hlt := ⟨_, rfl⟩
      rw [← hx] at s0 s1 s2 hin hok HTK hcat hone
      subst hla
      obtain ⟨ua, uc, hu⟩ := hin.form
      subst hu
      have qv := below_new wr (.cells #[.int .i64 x.kind, .int .i64 x.num, .string x.text, .slice ua x.list.length uc] 32)
      have yv := RowAt.new wr #[.int .i64 x.kind, .int .i64 x.num, .string x.text, .slice ua x.list.length uc] 32
      obtain ⟨V1, hV1⟩ : ∃ V1, wr.alloc (.cells #[.int .i64 x.kind, .int .i64 x.num, .string x.text, .slice ua x.list.length uc] 32) = V1 := ⟨_, rfl⟩
      rw [hV1] at qv yv
      have HV1 := hide hV1
      have hqb : Gr base wr V1 := Gr.of qv hbs
      have hbV := hb.out.keep qv
      have hsV : base ≤ V1.heap.size := Nat.le_trans hbs qv.size
      by_cases hk0 : k = 0
      · have hkI : ¬ (0 : Int) < (k : Int) := by omega
        have HCL := hide (papi_any rec HIH.out x (.slice ua x.list.length uc) t (.slice a t.length c) base V1 hone hok (ItsAt.keepB hin hqb.bel) hbV hsV (by omega) (by omega) (HTB.out.on (hbl.out.trans hqb).bel))
        have HT3 : Hid (t ++ itemL x = o1 ++ listL (l.take (k + 1))) := by
          show _ = _
          rw [HTK.out, ht.out, if_pos hk0]; simp
        have HQB : Hid (Gr base w V1) := hbl.out.trans hqb
        have y0 := yv.cell 0 (by simp)
        have y1 := yv.cell 1 (by simp)
        have y2 := yv.cell 2 (by simp)
        have y3 := yv.cell 3 (by simp)
        simp only [List.getElem_toArray, List.getElem_cons_zero, List.getElem_cons_succ] at y0 y1 y2 y3
        generalize t ++ itemL x = t3 at *
        clear hV1 qv yv hqb hbV hsV ht hb hbl hin hok hone hcat hctk hcl hol hll2 HTK hx htl hk0
        go_wp2_with fail
        rw [HV1.out]
        refine HCL.out.mono ?_
        rintro e w4 ⟨a4, c4, rfl, hb4, hbl4⟩
        have HB4 := hide hb4
        have HBL4 : Hid (Gr base w w4) := HQB.out.trans hbl4
        clear hb4 hbl4 HCL s0 s1 s2 s3 y0 y1 y2 y3
        go_wp2
        go_roundw
        case rel => exact ⟨k + 1, t3, a4, c4, rfl, by go_num, HJ.out, HT3.out, HB4.out, HBL4.out⟩
        case measure => simp [intOf]; omega
      · have hkI : (0 : Int) < (k : Int) := by omega
        obtain ⟨a2, c2, w2, hr2, hb2, hbl2, hg2⟩ := byt_strg hbV ⟨#[44, 32]⟩ [44, 32] rfl (by simp; omega) hsV
        have h2 : t.length + 2 = (t ++ [44, 32]).length := by simp
        have HCL := hide (papi_any rec HIH.out x (.slice ua x.list.length uc) (t ++ [44, 32]) (.slice a2 (t ++ [44, 32]).length c2) base w2 hone hok (ItsAt.keepB (ItsAt.keepB hin hqb.bel) hbl2.bel) hb2 (Nat.le_trans hsV hbl2.size) (by omega) (by rw [← h2]; have := (cntL_at l k hlt); omega) (HTB.out.on ((hbl.out.trans hqb).trans hbl2).bel))
        have HT3 : Hid (t ++ [44, 32] ++ itemL x = o1 ++ listL (l.take (k + 1))) := by
          show _ = _
          rw [HTK.out, ht.out, if_neg hk0]; simp
        have HQB : Hid (Gr base w w2) := (hbl.out.trans hqb).trans hbl2
        have HR2 := hide hr2
        rw [← HV1.out] at HR2
        have hw2 : RowAt w2 wr.heap.size #[.int .i64 x.kind, .int .i64 x.num, .string x.text, .slice ua x.list.length uc] 32 := row_grown hb.out yv hg2 (Nat.le_refl _)
        have y0 := hw2.cell 0 (by simp)
        have y1 := hw2.cell 1 (by simp)
        have y2 := hw2.cell 2 (by simp)
        have y3 := hw2.cell 3 (by simp)
        simp only [List.getElem_toArray, List.getElem_cons_zero, List.getElem_cons_succ] at y0 y1 y2 y3
        generalize t ++ [44, 32] ++ itemL x = t3 at *
        generalize t ++ [44, 32] = t2 at *
        clear hV1 qv yv hqb hbV hsV ht hb hbl hin hok hone hcat hctk hcl hol hll2 HTK hx htl hk0 hw2 hg2 hr2 hb2 hbl2 h2
        go_wp2_with (first
          | (at_builtin; refine wpList_append_run2 48 9 rfl _ _ rfl rfl _ _ rfl rfl _ _ HR2.out ?_)
          | fail)
        refine HCL.out.mono ?_
        rintro e w4 ⟨a4, c4, rfl, hb4, hbl4⟩
        have HB4 := hide hb4
        have HBL4 : Hid (Gr base w w4) := HQB.out.trans hbl4
        clear hb4 hbl4 HCL s0 s1 s2 s3 y0 y1 y2 y3 HR2
        go_wp2
        go_roundw
        case rel => exact ⟨k + 1, t3, a4, c4, rfl, by go_num, HJ.out, HT3.out, HB4.out, HBL4.out⟩
        case measure => simp [intOf]; omega
    · have hltI : ¬ (k : Int) < (l.length : Int) := by omega
      have hke : k = l.length := by omega
      have hctk := cntL_take_le l k
      have hol := HOL.out
      obtain ⟨a3, c3, w3, hr3, hb3, hbl3⟩ := byt_str hb.out ⟨#[93]⟩ [93] rfl (by simp; omega) hbs
      have hTT : t ++ [93] = T := by
        rw [HT.out, ht.out, hke, List.take_length, HO1.out]; simp
      rw [hTT] at hr3 hb3
      have HR3 := hide hr3
      have HB3 := hide hb3
      have HBL3 : Hid (Gr base w w3) := hbl.out.trans hbl3
      clear hr3 hb3 hbl3 ht hb hbl hll2 hTT hke hctk hol htl
      go_wp2_with (first
        | (at_builtin; refine wpList_append_run2 48 9 rfl _ _ rfl rfl _ _ rfl rfl _ _ HR3.out ?_)
        | fail)
      go_ret
      exact ⟨a3, c3, rfl, HB3.out, HBL3.out⟩
theorem papl_three : AppL (fun _ => 3) := fun l lv o v base w h => by cases h
theorem papl_any : ∀ r, AppL (faultR r)
  | 0 => papl_step _ papl_three
  | r + 1 => papl_step _ (papl_any r)
end Go.Proofs.YtageokjobbjddaaGreatDoor
