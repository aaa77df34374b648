import Derived.Test.YtdkckbfamecipaaDoorDuKit
import Derived.Test.YtdkckbfamecipaaDoorLErr2
namespace Go.Proofs.YtdkckbfamecipaaDoor
open Go.RowKit

/-- What Read answers. -/
def RdV (A : Nat → Addr) (base : Nat) (r : Sum Nat (List Pr)) (e : Ending) (w : World) : Prop :=
  (∃ k, r = .inl k ∧ e = .returned (.tuple #[.slice none 0 0, errV A (some k)])) ∨
  (∃ l v, r = .inr l ∧ e = .returned (.tuple #[v, .nilIface]) ∧ PrO w base v l)
theorem SynAt.wid {B : Nat} {w : World} (h : SynAt B w) : SynAt w.heap.size w := ⟨Nat.lt_of_lt_of_le h.1 h.2.1, Nat.le_refl _, h.2.2⟩
/-- What a line is, by its words. -/
theorem line_none {s : ByteArray} (h : wsD s = none) : lineD s = .bad := by unfold lineD; rw [h]; rfl
theorem line_some {s : ByteArray} {ws : List (List UInt8)} (h : wsD s = some ws) : lineD s = lnD (some (ws.map ba)) := by unfold lineD; rw [h]; rfl
theorem ln_put {ws : List ByteArray} (h : isD ws (ba putW) 2 = true) : lnD (some ws) = .put (ws.getD 1 ⟨#[]⟩) (ws.getD 2 ⟨#[]⟩) := by unfold lnD; simp only; rw [if_pos h]
theorem ln_fin {ws : List ByteArray} (h : isD ws (ba putW) 2 = false) (h2 : isD ws (ba endW) 1 = true) : lnD (some ws) = .fin (ws.getD 1 ⟨#[]⟩) := by unfold lnD; simp only; rw [if_neg (by rw [h]; decide), if_pos h2]
theorem ln_bad {ws : List ByteArray} (h : isD ws (ba putW) 2 = false) (h2 : isD ws (ba endW) 1 = false) : lnD (some ws) = .bad := by unfold lnD; simp only; rw [if_neg (by rw [h]; decide), if_neg (by rw [h2]; decide)]
theorem get_D {ws : List ByteArray} {j : Nat} (h : j < ws.length) : ws.getD j ⟨#[]⟩ = ws[j] := by
  rw [List.getD_eq_getElem?_getD, List.getElem?_eq_getElem h]; rfl
theorem wsD_len {s : ByteArray} {ws : List (List UInt8)} (h : wsD s = some ws) : ws.length ≤ s.size := by
  have := wordsD_len [] _ h
  have h2 := skip_len s.data.toList
  rw [bsize] at h2
  simp at this
  omega
set_option maxHeartbeats 8000000 in
set_option maxRecDepth 100000 in
theorem read_any (A : Nat → Addr) (v : Value) (ls : List ByteArray) (w : World) (hm : ls.length ≤ 1099511627776) (hsz : ∀ s ∈ ls, s.size ≤ 1099511627776) (hR : StrR w v ls) (hE : ErrsG 13 gAll A w) (hsy : SynAt w.heap.size w) (hI : ItoAt w) :
    Calls Tryd.prog 5 #[v] w fun e w' => RdV A w.heap.size (readD [] ls) e w' ∧ Below w.heap.size w w' := by
  have hvl := hR
  obtain ⟨a, c, rfl, _, _⟩ := hvl
  obtain ⟨n, hn⟩ : ∃ n, n = ls.length := ⟨_, rfl⟩
  rw [← hn] at hR ⊢
  have HN := hide hn
  have HR := hide hR
  have HSZ := hide hsz
  have HE := hide hE
  have HSY := hide hsy
  have HI := hide hI
  have HM : Hid (n ≤ 1099511627776) := by show n ≤ _; omega
  obtain ⟨r, hr⟩ : ∃ r, r = readD [] ls := ⟨_, rfl⟩
  rw [← hr]
  have HRR := hide hr
  obtain ⟨Q, hQ⟩ : ∃ Q : Ending → World → Prop, Q = fun e w' => RdV A w.heap.size r e w' ∧ Below w.heap.size w w' := ⟨_, rfl⟩
  rw [← hQ]
  have HQ := hide hQ
  clear hQ hn hR hsz hE hsy hI hm hr
  go_enter Tryd.func5, Tryd.ntmps5
  go_wp2
  go_loopw [4, 13] (fun lv iv wr => ∃ (k : Nat) (acc : List Pr) (la : Option Addr) (lc ln : Nat), k ≤ n ∧ iv = .int .i64 (k : Int) ∧ lv = .slice la ln lc ∧ Hid (r = readD acc (ls.drop k) ∧ acc.length ≤ k ∧ acc.length = ln ∧ PrO wr w.heap.size (.slice la ln lc) acc) ∧ Below w.heap.size w wr) (fun _ iv _ => n - (intOf iv).toNat)
  case atStart => exact ⟨0, [], none, 0, 0, Nat.zero_le _, rfl, rfl, ⟨HRR.out, Nat.zero_le _, rfl, PrO.nil _ _⟩, Below.refl _ _⟩
  case round =>
    obtain ⟨k, acc, la, lc, ln, hk, rfl, rfl, hh, hnx⟩ := hrel
    have HNX := hide hnx
    by_cases hlt : k < n
    · have hkl : k < ls.length := by have := HN.out; omega
      obtain ⟨g, o, rfl, c0⟩ := (HR.out.below HNX.out).get k hkl
      obtain ⟨s, hs⟩ : ∃ s, s = ls[k] := ⟨_, rfl⟩
      rw [← hs] at c0
      have HD : Hid (ls.drop k = s :: ls.drop (k + 1) ∧ s.size ≤ 1099511627776) := ⟨by rw [hs]; exact List.drop_eq_getElem_cons hkl, by rw [hs]; exact HSZ.out _ (List.getElem_mem hkl)⟩
      have j0 : (0 : Int) ≤ (k : Int) := by omega
      have j1 : (k : Int) < (n : Int) := by omega
      have hE1 := HE.out.keep hnx
      have HWD := hide (words_any s (A 1) wr HD.out.2 (HSY.out.below hnx).wid ⟨World.block_lt_of_cell? wr _ (hE1.1 1 (by decide)).1, Nat.le_refl _, (hE1.1 1 (by decide)).1⟩)
      have HLT := hide hlt
      clear hE1 hnx hkl hs
      go_wp2_with fail
      refine HWD.out.mono ?_
      rintro e w1 ⟨hq, hb1⟩
      have HB1 := hide hb1
      have HNX1 := hide (Below.next HNX.out hb1)
      clear hb1 HWD c0
      rcases hq with ⟨ws, wa, wn, wc, hwd, rfl, hwn, hown⟩ | ⟨hwd, rfl⟩
      · have hss := (rowR_of_owns hown).strs
        have hwl := hss.len
        have HWS : Hid (lineD s = lnD (some (ws.map ba)) ∧ (ws.map ba).length ≤ 1099511627776) := ⟨line_some hwd, by rw [List.length_map]; exact Nat.le_trans (wsD_len hwd) HD.out.2⟩
        clear hwd hown hwn
        generalize ws.map ba = us at HWS hss hwl
        have HSS := hide hss
        have HWL := hide hwl
        have HIP := hide (isline_any (.slice wa wn wc) us (ba putW) 2 w1 (by decide) hss)
        have HIE := hide (fun W (hW : Below w1.heap.size w1 W) => isline_any (.slice wa wn wc) us (ba endW) 1 W (by decide) (hss.below hW))
        obtain ⟨b, hb⟩ : ∃ b, b = isD us (ba putW) 2 := ⟨_, rfl⟩
        rw [← hb] at HIP
        have HBP := hide hb
        obtain ⟨b2, hb2⟩ : ∃ b2, b2 = isD us (ba endW) 1 := ⟨_, rfl⟩
        rw [← hb2] at HIE
        have HBE := hide hb2
        clear hb hb2 hss hwl
        go_wp2_with fail
        refine HIP.out.mono ?_
        rintro e w1' ⟨rfl, rfl⟩
        cases b with
        | true =>
          have h3 := isD_len HBP.out.symm
          obtain ⟨g1, o1, hga, d1⟩ := HSS.out.get 1 (by omega)
          obtain ⟨g2, o2, hgb, d2⟩ := HSS.out.get 2 (by omega)
          have HLN : Hid (lineD s = .put us[1] us[2]) := by
            show _ = _
            rw [HWS.out.1, ln_put HBP.out.symm, get_D (show 1 < us.length by omega), get_D (show 2 < us.length by omega)]
          generalize us[1] = x1 at d1 HLN
          generalize us[2] = x2 at d2 HLN
          cases hga
          cases hgb
          have hwn3 : wn = 3 := by have := HWL.out; omega
          subst hwn3
          have e1 : ∀ ob, (w1.alloc ob).cell? ⟨g1, o1 + 1, none⟩ = some (.string x1) := fun ob => cell_bel (below_new w1 ob) d1
          have e2 : ∀ ob, (w1.alloc ob).cell? ⟨g1, o1 + 2, none⟩ = some (.string x2) := fun ob => cell_bel (below_new w1 ob) d2
          have hrow := RowAt.new w1 #[.string ⟨#[]⟩, .string ⟨#[]⟩] 39
          have m0 : (w1.alloc (.cells #[.string ⟨#[]⟩, .string ⟨#[]⟩] 39)).cell? ⟨w1.heap.size, 0, none⟩ = some (.string ⟨#[]⟩) := hrow.cell 0 (by simp)
          have f0 : (w1.alloc (.cells #[.string ⟨#[]⟩, .string ⟨#[]⟩] 39)).frozen? ⟨w1.heap.size, 0, none⟩ = false := hrow.free 0
          have m1 : (w1.alloc (.cells #[.string ⟨#[]⟩, .string ⟨#[]⟩] 39)).cell? ⟨w1.heap.size, 1, none⟩ = some (.string ⟨#[]⟩) := hrow.cell 1 (by simp)
          have f1 : (w1.alloc (.cells #[.string ⟨#[]⟩, .string ⟨#[]⟩] 39)).frozen? ⟨w1.heap.size, 1, none⟩ = false := hrow.free 1
          have HROW := hide hrow
          clear hrow
          go_upto_region 10 with fail
          go_region
          clear e1 e2 m0 f0 m1 f1 d1 d2
          have hbw2 := below_drewN' (below_new w1 (.cells #[.string x1, .string x2] 39)) 1
          have hrow2 : RowAt ((w1.alloc (.cells #[.string x1, .string x2] 39)).drewN 1) w1.heap.size #[.string x1, .string x2] 39 := RowAt.new w1 #[.string x1, .string x2] 39
          obtain ⟨W2, hW2⟩ : ∃ W2, (w1.alloc (.cells #[.string x1, .string x2] 39)).drewN 1 = W2 := ⟨_, rfl⟩
          rw [hW2] at hbw2 hrow2
          have hW2' : (w1.alloc (.cells #[.string x1, .string x2] 39)).drew = W2 := hW2
          rw [hW2']
          have HNX2 := hide (Below.next HNX1.out hbw2)
          have b0 : W2.cell? ⟨w1.heap.size, 0, none⟩ = some (.string x1) := hrow2.cell 0 (by simp)
          have b1 : W2.cell? ⟨w1.heap.size, 1, none⟩ = some (.string x2) := hrow2.cell 1 (by simp)
          have hpo : PrO W2 w.heap.size (.slice la ln lc) acc := (hh.out.2.2.2.below HB1.out).below hbw2
          have HPF := hide (pfault_any A (.slice la ln lc) acc (x1, x2) W2 (by have := hh.out.2.1; have := HM.out; omega) hpo.at (errC_all (HE.out.keep HNX2.out)))
          have HPO := hide hpo
          have HLA : Hid (acc.length = ln ∧ acc.length ≤ k) := ⟨hh.out.2.2.1, hh.out.2.1⟩
          have HRS : Hid (r = match faultD acc (x1, x2) with
              | some e => .inl e
              | none => readD (acc ++ [(x1, x2)]) (ls.drop (k + 1))) := by
            show _ = _
            rw [hh.out.1, HD.out.1]
            exact readD_put HLN.out
          have HFC := hide (faultD_kinds acc (x1, x2))
          obtain ⟨f, hf⟩ : ∃ f, f = faultD acc (x1, x2) := ⟨_, rfl⟩
          rw [← hf] at HPF HRS HFC
          simp only at HPF
          clear hf hh hpo hW2 hW2' hbw2 hrow2 HIE HROW HWS HSS HWL HBP HBE HD
          go_wp2_with fail
          refine HPF.out.mono ?_
          rintro e w3 ⟨rfl, hb3⟩
          have HNX3 := hide (Below.next HNX2.out hb3)
          have HPO3 := hide (HPO.out.below hb3)
          have k0 := cell_bel hb3 b0
          have k1 := cell_bel hb3 b1
          clear hb3 b0 b1 HPF HPO HNX2
          cases f with
          | none =>
            obtain ⟨a3, c3, w4, hrun, hown4, hb4, -⟩ := push_prs w.heap.size _ acc (x1, x2) 39 w3 w w.heap.size ln HLA.out.1 HPO3.out (by have := HLA.out; have := HM.out; omega) HNX3.out.size (Nat.le_refl _) HNX3.out
            have HF4 : Hid (r = readD (acc ++ [(x1, x2)]) (ls.drop (k + 1)) ∧ (acc ++ [(x1, x2)]).length ≤ k + 1 ∧ (acc ++ [(x1, x2)]).length = ln + 1 ∧ PrO w4 w.heap.size (.slice a3 (ln + 1) c3) (acc ++ [(x1, x2)])) := ⟨HRS.out, by have := HLA.out; simp; omega, by have := HLA.out; simp; omega, hown4⟩
            have HB4 := hide hb4
            have HRUN := hide hrun
            have hkM : (k : Int) + 1 ≤ 1099511627776 := by have := HLT.out; have := HM.out; omega
            clear hown4 hb4 HPO3 HRS HLN hrun
            simp only [errV]
            go_wp2_with (first | (at_builtin; refine wpList_append_run 24 rfl _ _ rfl rfl _ _ rfl rfl _ _ HRUN.out ?_))
            go_wp2
            go_roundw
            case rel => exact ⟨k + 1, acc ++ [(x1, x2)], a3, c3, ln + 1, HLT.out, by go_num, rfl, HF4.out, HB4.out⟩
            case measure => have := HLT.out; simp [intOf]; omega
          | some q =>
            have hne := iface_ne_nil (some (A q)) w3
            have HRS' : Hid (r = .inl q) := HRS.out
            clear HPO3 HRS HLN k0 k1
            simp only [errV]
            go_wp2
            rw [HQ.out]
            exact ⟨.inl ⟨q, HRS'.out, rfl⟩, HNX3.out⟩
        | false =>
          have HLN : Hid (lineD s = lnD (some us)) := HWS.out.1
          cases b2 with
          | false =>
            have HR1 : Hid (r = .inl 1) := by
              show _ = _
              rw [hh.out.1, HD.out.1]
              exact readD_bad (HLN.out.trans (ln_bad HBP.out.symm HBE.out.symm))
            have z1 : w1.cell? ⟨0, 0, none⟩ = some (.iface 107 (.pointer (some (A 1)))) := ((HE.out.keep HNX1.out).1 1 (by decide)).1
            clear hh HLN HWS HSS HWL HBP HBE HD
            go_upto_region 15 with fail
            go_quiet ((go_at_call 11; refine Calls.quiet_of_same ((HIE.out _ ?_).mono fun e w' h => ⟨h.1, h.2.symm⟩); exact below_drewN' (Below.refl _ _) _))
            go_wp2_with fail
            go_quiet (fail)
            go_wp2
            rw [HQ.out]
            exact ⟨.inl ⟨1, HR1.out, rfl⟩, below_drewN' (below_drewN' HNX1.out _) _⟩
          | true =>
            have h3 := isD_len HBE.out.symm
            obtain ⟨g1, o1, hga, d1⟩ := HSS.out.get 1 (by omega)
            have HFN : Hid (lineD s = .fin us[1]) := by
              show _ = _
              rw [HLN.out, ln_fin HBP.out.symm HBE.out.symm, get_D (show 1 < us.length by omega)]
            generalize us[1] = x1 at d1 HFN
            cases hga
            have hwn3 : wn = 2 := by have := HWL.out; omega
            subst hwn3
            obtain ⟨m, hm1⟩ : ∃ m, m + 1 = n := ⟨n - 1, by omega⟩
            have hlnk : ln ≤ 1099511627776 := by have := hh.out.2; have := HM.out; omega
            have HIT := hide (fun W (hW : Below w1.heap.size w1 W) => HI.out W (ln : Int) (Below.next HNX1.out hW) (by omega) (by omega))
            have hw : IntKind.i64.wrap ((n : Int) - 1) = (m : Int) := by have := HM.out; rw [IntKind.wrap_i64]; omega
            have hw2 : wrap64 ((n : Int) - 1) = (m : Int) := by have := HM.out; unfold wrap64; omega
            obtain ⟨it, hit⟩ : ∃ it, it = itoaB (ln : Int) := ⟨_, rfl⟩
            rw [← hit] at HIT
            have hle := list_eq x1 it
            have HRT : Hid (r = if x1 = it ∧ k = m then .inr acc else .inl 1) := by
              show _ = _
              rw [hh.out.1, HD.out.1, readD_fin HFN.out, hh.out.2.2.1, ← hit]
              have e : (ls.drop (k + 1) = []) ↔ k = m := by
                rw [List.drop_eq_nil_iff, ← HN.out]
                omega
              simp only [e]
            have z1 : ∀ W, Below w1.heap.size w1 W → W.cell? ⟨0, 0, none⟩ = some (.iface 107 (.pointer (some (A 1)))) := fun W hW => ((HE.out.keep (Below.next HNX1.out hW)).1 1 (by decide)).1
            have HZ1 := hide z1
            have HPO : Hid (∀ W, Below w1.heap.size w1 W → PrO W w.heap.size (.slice la ln lc) acc) := fun W hW => (hh.out.2.2.2.below HB1.out).below hW
            clear hh HLN HWS HSS HWL HBP HBE HD hit hm1 hlnk z1 HFN
            go_upto_region 15 with fail
            by_cases hx : x1 = it
            · rw [decide_eq_true hx] at hle
              by_cases hkm : k = m
              · have hkd : ((k : Int) == (m : Int)) = true := by rw [beq_iff_eq]; omega
                have HR1 : Hid (r = .inr acc) := by show _ = _; rw [HRT.out, if_pos ⟨hx, hkm⟩]
                clear hx hkm HRT
                go_region_held3 (fun w' => w'.cell? ⟨g1, o1 + 1, none⟩ = some (.string x1)) (go_keep)
                  (first
                    | (go_at_call 13; refine (HIT.out _ ?_).mono ?_; (first | exact Below.refl _ _ | exact (Below.refl _ _).drew | exact below_drewN' (Below.refl _ _) _); rintro e w6 ⟨rfl, hg⟩; have HG : Hid (Below w1.heap.size w1 w6) := ⟨hg.os, hg.tape, hg.output, hg.size, hg.block⟩; have zz1 := cell_bel HG.out d1; clear hg)
                    | (go_at_call 11; refine (HIE.out _ ?_).mono ?_; (first | exact Below.refl _ _ | exact (Below.refl _ _).drew | exact below_drewN' (Below.refl _ _) _); rintro e w5 ⟨rfl, rfl⟩))
                have HZ := hide (HPO.out w6 HG.out)
                have HB6 := hide (Below.next HNX1.out HG.out)
                clear zz1 HG HPO HZ1 hle hkd
                go_wp2
                rw [HQ.out]
                exact ⟨.inr ⟨acc, _, HR1.out, rfl, HZ.out⟩, HB6.out⟩
              · have hkd : ((k : Int) == (m : Int)) = false := by rw [beq_eq_false_iff_ne]; omega
                have HR1 : Hid (r = .inl 1) := by show _ = _; rw [HRT.out, if_neg (fun h => hkm h.2)]
                clear hx hkm HRT
                go_region_held3 (fun w' => w'.cell? ⟨g1, o1 + 1, none⟩ = some (.string x1)) (go_keep)
                  (first
                    | (go_at_call 13; refine (HIT.out _ ?_).mono ?_; (first | exact Below.refl _ _ | exact (Below.refl _ _).drew | exact below_drewN' (Below.refl _ _) _); rintro e w6 ⟨rfl, hg⟩; have HG : Hid (Below w1.heap.size w1 w6) := ⟨hg.os, hg.tape, hg.output, hg.size, hg.block⟩; have zz1 := cell_bel HG.out d1; clear hg)
                    | (go_at_call 11; refine (HIE.out _ ?_).mono ?_; (first | exact Below.refl _ _ | exact (Below.refl _ _).drew | exact below_drewN' (Below.refl _ _) _); rintro e w5 ⟨rfl, rfl⟩))
                have zz := HZ1.out w6 HG.out
                have HB6 := hide (Below.next HNX1.out HG.out)
                clear zz1 HG HPO HZ1 hle
                go_wp2_with fail
                go_quiet (fail)
                go_wp2
                rw [HQ.out]
                exact ⟨.inl ⟨1, HR1.out, rfl⟩, below_drewN' HB6.out _⟩
            · rw [decide_eq_false hx] at hle
              have HR1 : Hid (r = .inl 1) := by show _ = _; rw [HRT.out, if_neg (fun h => hx h.1)]
              clear hx HRT
              first
                | (go_region_held (fun w' => w'.cell? ⟨g1, o1 + 1, none⟩ = some (.string x1)) (go_keep)
                    (first
                      | (go_at_call 13; refine (HIT.out _ ?_).mono ?_; (first | exact Below.refl _ _ | exact (Below.refl _ _).drew | exact below_drewN' (Below.refl _ _) _); rintro e w6 ⟨rfl, hg⟩; have HG : Hid (Below w1.heap.size w1 w6) := ⟨hg.os, hg.tape, hg.output, hg.size, hg.block⟩; have zz1 := cell_bel HG.out d1; clear hg)
                      | (go_at_call 11; refine (HIE.out _ ?_).mono ?_; (first | exact Below.refl _ _ | exact (Below.refl _ _).drew | exact below_drewN' (Below.refl _ _) _); rintro e w5 ⟨rfl, rfl⟩)))
                | fail
              all_goals
                have zz := HZ1.out w6 HG.out
                have HB6 := hide (Below.next HNX1.out HG.out)
                clear zz1 HG HPO HZ1 hle
                go_wp2_with fail
                go_quiet (fail)
                go_wp2
                rw [HQ.out]
                exact ⟨.inl ⟨1, HR1.out, rfl⟩, below_drewN' HB6.out _⟩
      · have HR1 : Hid (r = .inl 1) := by
          show _ = _
          rw [hh.out.1, HD.out.1]
          exact readD_bad (line_none hwd)
        have hne := iface_ne_nil (some (A 1)) w1
        clear hwd hh
        go_wp2
        rw [HQ.out]
        exact ⟨.inl ⟨1, HR1.out, rfl⟩, HNX1.out⟩
    · have hkn : k = n := by omega
      subst hkn
      have HR1 : Hid (r = .inl 3) := by
        show _ = _
        rw [hh.out.1, List.drop_eq_nil_of_le (by have := HN.out; omega)]
        rfl
      have z3 := (HE.out.keep hnx).1 3 (by decide) |>.1
      have z3' : wr.cell? ⟨1, 0, none⟩ = some (.iface 107 (.pointer (some (A 3)))) := z3
      have j1 : ¬ (k : Int) < (k : Int) := by omega
      clear hh z3 hnx
      go_wp2
      go_quiet (fail)
      go_wp2
      rw [HQ.out]
      exact ⟨.inl ⟨3, HR1.out, rfl⟩, below_drewN' HNX.out _⟩
end Go.Proofs.YtdkckbfamecipaaDoor
