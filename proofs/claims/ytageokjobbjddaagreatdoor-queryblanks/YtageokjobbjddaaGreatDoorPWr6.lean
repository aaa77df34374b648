import Derived.Test.YtageokjobbjddaaGreatDoorPWr5
import Derived.Test.YtageokjobbjddaaGreatDoorGRJ
namespace Go.Proofs.YtageokjobbjddaaGreatDoor
open Go.RowKit

theorem CsAt.keepB {w w' : World} {base : Nat} {v : Value} {l : List Cd} (h : CsAt w (fun g => g < base) v l) (hb : Below base w w') : CsAt w' (fun g => g < base) v l := by
  obtain ⟨a, g, off, cap, vs, h1, h2, h3, h4⟩ := h
  refine ⟨a, g, off, cap, vs, h1, h2, h3, fun i hi => ⟨(h4 i hi).1, fun j u hu => ?_, ItsAt.keepB (h4 i hi).2.2 hb⟩⟩
  exact (hb.cell (p := ⟨g, off + i * 6 + j, none⟩) (h3 (by omega)).2).trans ((h4 i hi).2.1 j u hu)
theorem sgnT_L (s : Int) : (sgnT s).data.toList = signL s := by
  unfold sgnT signL
  split
  · rfl
  split
  · rfl
  split
  · rfl
  split
  · rfl
  rfl
theorem sgnT_size (s : Int) : (sgnT s).size ≤ 2 := by
  have h1 := signL_len s
  have h2 : (sgnT s).data.toList.length = (sgnT s).size := by simp
  rw [sgnT_L] at h2
  omega
theorem cat3 (a b c : ByteArray) : (a ++ b ++ c).data.toList = a.data.toList ++ b.data.toList ++ c.data.toList := by
  have h := fun x y : ByteArray => (show (x ++ y).data.toList = x.data.toList ++ y.data.toList from by simp [ByteArray.data_append])
  rw [h, h]
theorem condsL_take (l : List Cd) (k : Nat) (h : k < l.length) : condsL (l.take (k + 1)) = condsL (l.take k) ++ (if k = 0 then whereL else andL) ++ condL (l[k]'h) := by
  rw [List.take_succ_eq_append_getElem h, condsL_snoc]
  by_cases h0 : k = 0
  · subst h0; simp
  · have : l.take k ≠ [] := fun e => by
      have := congrArg List.length e
      rw [List.length_take, List.length_nil] at this
      omega
    rw [if_neg this, if_neg h0]
theorem cond_zero {c : Cd} (h : condF c = 0) : (1 ≤ c.field.size ∧ c.field.size ≤ 32) ∧ (1 ≤ c.sign ∧ c.sign ≤ 5) ∧ packF [c.item] = 0 := by
  unfold condF at h
  split at h
  · rename_i h4
    refine ⟨?_, h4.2, h⟩
    have h5 := h4.1
    unfold isNameD at h5
    rw [Bool.and_eq_true] at h5
    simpa using h5.2
  · cases h
def whereB : ByteArray := ⟨#[119, 104, 101, 114, 101]⟩
def andB : ByteArray := ⟨#[97, 110, 100]⟩
def CondsP (w : World) (base : Nat) (o : List UInt8) (l : List Cd) (e : Ending) (w' : World) : Prop := ∃ k, k ≤ l.length ∧ WrP w base (o ++ condsL (l.take k)) e w' ∧ (k = l.length ∨ 65536 < (o ++ condsL (l.take k)).length)
set_option maxHeartbeats 8000000 in
set_option maxRecDepth 100000 in
theorem papc_any (l : List Cd) (cv : Value) (o : List UInt8) (v : Value) (base : Nat) (w : World) (hc : CsAt w (fun g => g < base) cv l) (hz : ∀ c ∈ l, condF c = 0) (hsz : cntC l ≤ 16777216) (hv : Byt w base v o) (hbase : base ≤ w.heap.size) (hlen : o.length ≤ 1000000) (ht : PowAt base w) :
    Calls Tryz.prog 27 #[v, cv] w fun e w' => CondsP w base o l e w' := by
  obtain ⟨va, vc, hf⟩ := hv.form
  subst hf
  obtain ⟨ca, cc, hcf⟩ := hc.form
  subst hcf
  have hcl := hc.len
  have HSG := hide (psigns_any w)
  have HC := hide hc
  have HZ := hide hz
  have HSZ := hide hsz
  have HV := hide hv
  have HTB := hide ht
  have hfine : FineQ ⟨#[]⟩ l ⟨#[]⟩ 0 := ⟨by decide, by decide, by decide, fun c hcm => ⟨(cond_zero (hz c hcm)).1.2, (cond_zero (hz c hcm)).2.1⟩⟩
  have HCLN := hide (fun k => conds_len hc.any hfine hsz k)
  have HONE := hide (fun k hk => one_len hc.any hsz k hk)
  clear hc hz hsz hv ht hfine
  go_enter Tryz.func27, Tryz.ntmps27
  go_wp2_with fail
  refine HSG.out.mono ?_
  rintro e w1 ⟨rfl, hsr, hb1⟩
  obtain ⟨SB, hSB⟩ : ∃ SB, SB = w.heap.size := ⟨_, rfl⟩
  rw [← hSB] at hsr ⊢
  have HS1 := hide hsr
  have HG1 := hide (Gr.of hb1 hbase)
  have HV1 := hide (HV.out.keep hb1)
  clear hsr hb1 HSG HV hSB
  go_wp2_with fail
  go_loopw [0, 6, 7] (fun ov bv iv wr => ∃ (k : Nat) (t : List UInt8) (a : Option Addr) (c : Nat) (bw : ByteArray), ov = .slice a t.length c ∧ bv = .string bw ∧ iv = .int .i64 (k : Int) ∧ k ≤ l.length ∧ bw.size ≤ 5 ∧ Hid (bw = if k = 0 then whereB else andB) ∧ Hid (t = o ++ condsL (l.take k)) ∧ Hid (Byt wr base (.slice a t.length c) t) ∧ Hid (Gr base w1 wr)) (fun _ _ iv _ => l.length - (intOf iv).toNat)
  case atStart => exact ⟨0, o, va, vc, whereB, rfl, rfl, rfl, Nat.zero_le _, by decide, rfl, by show _ = _; simp [condsL], HV1.out, Gr.of (Below.refl _ _) (Nat.le_trans hbase HG1.out.size)⟩
  case round =>
    obtain ⟨k, t, a, c, bw, rfl, rfl, rfl, hk, hbw, hbe, ht, hb, hgr⟩ := hrel
    have htl : t.length ≤ 1901000000 := by
      have := HCLN.out k
      rw [ht.out, List.length_append]; omega
    have hbs : base ≤ wr.heap.size := Nat.le_trans (Nat.le_trans hbase HG1.out.size) hgr.out.size
    have HDONE : Hid ((k = l.length ∨ 65536 < t.length) → CondsP w base o l (.returned (.slice a t.length c)) wr) := fun h => ⟨k, hk, ⟨a, c, by rw [ht.out], by rw [← ht.out]; exact hb.out, HG1.out.trans hgr.out⟩, by rw [← ht.out]; exact h⟩
    by_cases hlt : k < l.length
    · have hltI : (k : Int) < (l.length : Int) := by omega
      have e0 : (0 : Int) ≤ (k : Int) := by omega
      by_cases hin65 : t.length ≤ 65536
      · have hinI : (t.length : Int) ≤ 65536 := by omega
        have HGA : Hid (Gr base w wr) := HG1.out.trans hgr.out
        have HCW := hide (HC.out.keepB HGA.out.bel)
        obtain ⟨g, off, u, hca, hgb, hok, s0, s1, s2, s3, s4, s5, hin⟩ := HCW.out.get k hlt
        have hone := HONE.out k hlt
        have hcz := cond_zero (HZ.out _ (List.getElem_mem hlt))
        have HTK := hide (condsL_take l k hlt)
        have HJ : Hid (k + 1 ≤ l.length) := by show _ ≤ _; omega
        obtain ⟨x, hx⟩ : ∃ x, x = l[k]'hlt := ⟨_, rfl⟩
        rw [← hx] at s0 s1 s2 s3 s4 hin hok hone hcz HTK
        subst hca
        obtain ⟨ua, uc, hu⟩ := hin.form
        subst hu
        -- the word ahead
        have hwl : (⟨#[32]⟩ ++ bw ++ ⟨#[32]⟩ : ByteArray).data.toList = if k = 0 then whereL else andL := by
          rw [cat3, hbe.out]
          by_cases h0 : k = 0
          · rw [if_pos h0, if_pos h0]; rfl
          · rw [if_neg h0, if_neg h0]; rfl
        have hwl5 : (if k = 0 then whereL else andL).length ≤ 7 := by split <;> decide
        obtain ⟨aA, cA, wA, hrA, hbA, hgA⟩ := byt_str hb.out (⟨#[32]⟩ ++ bw ++ ⟨#[32]⟩) _ hwl (by omega) hbs
        obtain ⟨tA, htA⟩ : ∃ tA, tA = t ++ (if k = 0 then whereL else andL) := ⟨_, rfl⟩
        rw [← htA] at hrA hbA
        have htAl : tA.length ≤ 65543 := by rw [htA, List.length_append]; omega
        have HRA := hide hrA
        have HGAA : Hid (Gr base w wA) := HGA.out.trans hgA
        have HPN := hide (papn_any x.field tA (.slice aA tA.length cA) base wA (by omega) (by omega) hbA (Nat.le_trans hbs hgA.size) (by omega))
        have hcc1 : (⟨#[32]⟩ ++ bw : ByteArray).size = 1 + bw.size := by simp [ByteArray.size_append]; rfl
        have sA0 := (hgA.bel.cell (p := ⟨g, off + k * 6, none⟩) hgb).trans s0
        have sA1 := (hgA.bel.cell (p := ⟨g, off + k * 6 + 1, none⟩) hgb).trans s1
        have sA2 := (hgA.bel.cell (p := ⟨g, off + k * 6 + 2, none⟩) hgb).trans s2
        have sA3 := (hgA.bel.cell (p := ⟨g, off + k * 6 + 3, none⟩) hgb).trans s3
        have sA4 := (hgA.bel.cell (p := ⟨g, off + k * 6 + 4, none⟩) hgb).trans s4
        have sA5 := (hgA.bel.cell (p := ⟨g, off + k * 6 + 5, none⟩) hgb).trans s5
        have HINA := hide (ItsAt.keepB hin hgA.bel)
        have HSA := hide ((hgr.out.trans hgA).row HS1.out (by decide))
        have HGA1 : Hid (Gr base w1 wA) := hgr.out.trans hgA
        have HTA : Hid (tA = o ++ condsL (l.take k) ++ (if k = 0 then whereL else andL)) := by show _ = _; rw [htA, ht.out]
        have HHGB := hide hgb
        have HBSA : Hid (base ≤ wA.heap.size) := Nat.le_trans hbs hgA.size
        clear HDONE ht hb hgr hwl hwl5 hrA hbA htA hgA hin hx hbe HCW HGA
        go_wp2_with (first
          | (at_builtin; refine wpList_append_run2 48 9 rfl _ _ rfl rfl _ _ rfl rfl _ _ HRA.out ?_)
          | fail)
        refine HPN.out.mono ?_
        rintro e w2 ⟨aB, cB, rfl, hbB, hgB⟩
        clear HRA HPN s0 s1 s2 s3 s4 s5 hcc1 hbw
        obtain ⟨S, hS⟩ : ∃ S : Nat, x.sign = (S : Int) := ⟨x.sign.toNat, by omega⟩
        have sI0 : (0 : Int) ≤ (S : Int) := by omega
        have sI6 : (S : Int) < 6 := by omega
        have hgb := HHGB.out
        have sB1 := (hgB.bel.cell (p := ⟨g, off + k * 6 + 1, none⟩) hgb).trans sA1
        have sB2 := (hgB.bel.cell (p := ⟨g, off + k * 6 + 2, none⟩) hgb).trans sA2
        have sB3 := (hgB.bel.cell (p := ⟨g, off + k * 6 + 3, none⟩) hgb).trans sA3
        have sB4 := (hgB.bel.cell (p := ⟨g, off + k * 6 + 4, none⟩) hgb).trans sA4
        have sB5 := (hgB.bel.cell (p := ⟨g, off + k * 6 + 5, none⟩) hgb).trans sA5
        have hgs := (sgn_cell (hgB.row HSA.out (by decide)) hcz.2.1.1 hcz.2.1.2 S hS).1
        have hnl := nameL_len x.field hcz.1.2
        obtain ⟨tB, htB⟩ : ∃ tB, tB = tA ++ nameL x.field := ⟨_, rfl⟩
        rw [← htB] at hbB ⊢
        have htBl : tB.length ≤ 65610 := by rw [htB, List.length_append]; omega
        have hss := sgnT_size x.sign
        have hsl := signL_len x.sign
        have hwl : (⟨#[32]⟩ ++ sgnT x.sign ++ ⟨#[32]⟩ : ByteArray).data.toList = [32] ++ signL x.sign ++ [32] := by rw [cat3, sgnT_L]
        obtain ⟨aC, cC, wC, hrC, hbC, hgC⟩ := byt_str hbB (⟨#[32]⟩ ++ sgnT x.sign ++ ⟨#[32]⟩) _ hwl (by simp; omega) (Nat.le_trans HBSA.out hgB.size)
        obtain ⟨tC, htC⟩ : ∃ tC, tC = tB ++ ([32] ++ signL x.sign ++ [32]) := ⟨_, rfl⟩
        rw [← htC] at hrC hbC
        have htCl : tC.length ≤ 65614 := by rw [htC, List.length_append]; simp; omega
        have hcc1 : (⟨#[32]⟩ ++ sgnT x.sign : ByteArray).size = 1 + (sgnT x.sign).size := by simp [ByteArray.size_append]; rfl
        have HRC := hide hrC
        rw [hS] at sB1
        have sC2 := (hgC.bel.cell (p := ⟨g, off + k * 6 + 2, none⟩) hgb).trans sB2
        have sC3 := (hgC.bel.cell (p := ⟨g, off + k * 6 + 3, none⟩) hgb).trans sB3
        have sC4 := (hgC.bel.cell (p := ⟨g, off + k * 6 + 4, none⟩) hgb).trans sB4
        have sC5 := (hgC.bel.cell (p := ⟨g, off + k * 6 + 5, none⟩) hgb).trans sB5
        have hgBC := hgB.trans hgC
        have HPI := hide (papi_any (faultR 3) (papl_any 3) x.item (.slice ua x.item.list.length uc) tC (.slice aC tC.length cC) base wC (pack_one hcz.2.2) hok.it (ItsAt.keepB HINA.out hgBC.bel) hbC (Nat.le_trans HBSA.out hgBC.size) hone.2 (by omega) (HTB.out.on (HGAA.out.trans hgBC).bel))
        have HGC1 : Hid (Gr base w1 wC) := HGA1.out.trans hgBC
        have HTT : Hid (tC ++ itemL x.item = o ++ condsL (l.take (k + 1))) := by
          show _ = _
          rw [HTK.out, condL, htC, htB, HTA.out]; simp
        generalize hsv : sgnT x.sign = sv at hgs HRC hcc1 hss
        clear hrC hbC hgC hgB hbB hgBC hwl htC htB hS hsv hcz hok hone hnl hsl HTK HTA HINA HSA HGA1 HGAA
        go_wp2_with (first
          | (at_builtin; refine wpList_append_run2 48 9 rfl _ _ rfl rfl _ _ rfl rfl _ _ HRC.out ?_)
          | fail)
        refine HPI.out.mono ?_
        rintro e w4 ⟨aD, cD, rfl, hbD, hgD⟩
        have HBD := hide hbD
        have HGD : Hid (Gr base w1 w4) := HGC1.out.trans hgD
        clear hbD hgD HPI HRC sA0 sA1 sA2 sA3 sA4 sA5 sB1 sB2 sB3 sB4 sB5 sC2 sC3 sC4 sC5 hgs hcc1 hss
        generalize tC ++ itemL x.item = tD at *
        go_wp2
        go_roundw
        case rel => exact ⟨k + 1, tD, aD, cD, andB, rfl, rfl, by go_num, HJ.out, by decide, by show _ = _; rw [if_neg (by omega)], HTT.out, HBD.out, HGD.out⟩
        case measure => simp [intOf]; omega
      · have hinI : ¬ (t.length : Int) ≤ 65536 := by omega
        have HD := hide (HDONE.out (.inr (by omega)))
        clear HDONE ht hb hgr
        go_wp2
        go_ret
        exact HD.out
    · have hltI : ¬ (k : Int) < (l.length : Int) := by omega
      have HD := hide (HDONE.out (.inl (by omega)))
      clear HDONE ht hb hgr
      go_wp2
      go_ret
      exact HD.out
end Go.Proofs.YtageokjobbjddaaGreatDoor
