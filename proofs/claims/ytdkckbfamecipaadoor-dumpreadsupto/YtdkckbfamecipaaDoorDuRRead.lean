import Derived.Test.YtdkckbfamecipaaDoorDuRead
import Derived.Test.YtdkckbfamecipaaDoorWRef4
namespace Go.Proofs.YtdkckbfamecipaaDoor
open Go.RowKit

/-- What the document's Read answers. -/
def RrV (base : Nat) (r : Sum Nat (List Pr)) (e : Ending) (w : World) : Prop :=
  (∃ k, r = .inl k ∧ e = .returned (.tuple #[.slice none 0 0, .int .i64 ((k + 1 : Nat) : Int)])) ∨
  (∃ l v, r = .inr l ∧ e = .returned (.tuple #[v, .int .i64 0]) ∧ PrO w base v l)
theorem list_ba (a : ByteArray) (l : List UInt8) : (a.toList == l) = decide (a = ba l) := by
  rw [← list_eq, show (ba l).toList = l by rw [ByteArray.toList_eq]; rfl]
theorem isD_ne {ws : List ByteArray} {f : ByteArray} {m : Nat} (h : ¬ ws.length = 1 + m) : isD ws f m = false := by
  unfold isD; rw [decide_eq_false h]; rfl
theorem isD_eq {ws : List ByteArray} {f : ByteArray} {m : Nat} (h : ws.length = 1 + m) : isD ws f m = decide ((ws[0]'(by omega)) = f) := by
  unfold isD; rw [decide_eq_true h, List.getElem?_eq_getElem (by omega)]; simp
set_option maxHeartbeats 8000000 in
set_option maxRecDepth 100000 in
theorem rread_any (v : Value) (ls : List ByteArray) (w : World) (hm : ls.length ≤ 1099511627776) (hsz : ∀ s ∈ ls, s.size ≤ 1099511627776) (hR : StrR w v ls) (hI : ItoAt w) :
    Calls Tryd.prog 6 #[v] w fun e w' => RrV w.heap.size (readD [] ls) e w' ∧ Below w.heap.size w w' := by
  have hvl := hR
  obtain ⟨a, c, rfl, _, _⟩ := hvl
  obtain ⟨n, hn⟩ : ∃ n, n = ls.length := ⟨_, rfl⟩
  rw [← hn] at hR ⊢
  have HN := hide hn
  have HR := hide hR
  have HSZ := hide hsz
  have HI := hide hI
  have HM : Hid (n ≤ 1099511627776) := by show n ≤ _; omega
  obtain ⟨r, hr⟩ : ∃ r, r = readD [] ls := ⟨_, rfl⟩
  rw [← hr]
  have HRR := hide hr
  obtain ⟨Q, hQ⟩ : ∃ Q : Ending → World → Prop, Q = fun e w' => RrV w.heap.size r e w' ∧ Below w.heap.size w w' := ⟨_, rfl⟩
  rw [← hQ]
  have HQ := hide hQ
  clear hQ hn hR hsz hI hm hr
  go_enter Tryd.func6, Tryd.ntmps6
  go_wp2
  go_loopw [4, 5] (fun lv iv wr => ∃ (k : Nat) (acc : List Pr) (la : Option Addr) (lc ln : Nat), k ≤ n ∧ iv = .int .i64 (k : Int) ∧ lv = .slice la ln lc ∧ Hid (r = readD acc (ls.drop k) ∧ acc.length ≤ k ∧ acc.length = ln ∧ PrO wr w.heap.size (.slice la ln lc) acc) ∧ Below w.heap.size w wr) (fun _ iv _ => n - (intOf iv).toNat)
  case atStart => exact ⟨0, [], none, 0, 0, Nat.zero_le _, rfl, rfl, ⟨HRR.out, Nat.zero_le _, rfl, PrO.nil _ _⟩, Below.refl _ _⟩
  case round =>
    obtain ⟨k, acc, la, lc, ln, hk, rfl, rfl, hh, hnx⟩ := hrel
    have HNX := hide hnx
    by_cases hlt : k < n
    · have hkl : k < ls.length := by have := HN.out; omega
      obtain ⟨g, o, rfl, c0⟩ := (HR.out.below HNX.out).get k hkl
      obtain ⟨s, hs⟩ : ∃ s, s = ls[k] := ⟨_, rfl⟩
      rw [← hs] at c0
      have HD : Hid (ls.drop k = s :: ls.drop (k + 1) ∧ s.size ≤ 1099511627776) := ⟨by rw [hs]; exact List.drop_eq_getElem_cons hkl, by rw [hs]; exact HSZ.out _ (List.getElem_mem hkl)⟩
      have j0 : (0 : Int) ≤ (k : Int) := by omega
      have j1 : (k : Int) < (n : Int) := by omega
      have HWD := hide (rwords_any s wr HD.out.2)
      have HLT := hide hlt
      clear hnx hkl hs
      go_wp2_with fail
      refine HWD.out.mono ?_
      rintro e w1 ⟨hq, hb1⟩
      have HB1 := hide hb1
      have HNX1 := hide (Below.next HNX.out hb1)
      clear hb1 HWD c0
      rcases hq with ⟨ws, wa, wn, wc, hwd, rfl, hwn, hown⟩ | ⟨hwd, rfl⟩
      · have hss := (rowR_of_owns hown).strs
        have hwl := hss.len
        have HWS : Hid (lineD s = lnD (some (ws.map ba))) := line_some hwd
        clear hwd hown hwn
        generalize ws.map ba = us at HWS hss hwl
        have HSS := hide hss
        have HWL := hide hwl
        clear hss hwl
        by_cases h3 : wn = 3
        · subst h3
          have hus : us.length = 3 := HWL.out.symm
          obtain ⟨g0, o0, hg0, d0⟩ := HSS.out.get 0 (by have := HWL.out; omega)
          obtain ⟨g1, o1, hga, d1⟩ := HSS.out.get 1 (by have := HWL.out; omega)
          obtain ⟨g2, o2, hgb, d2⟩ := HSS.out.get 2 (by have := HWL.out; omega)
          have hle : (us[0].toList == [112, 117, 116]) = decide (us[0] = ba putW) := list_ba us[0] putW
          have HIP : Hid (isD us (ba putW) 2 = decide (us[0] = ba putW)) := isD_eq (by have := HWL.out; omega)
          have HIE : Hid (isD us (ba endW) 1 = false) := isD_ne (by have := HWL.out; omega)
          have HLN : Hid (isD us (ba putW) 2 = true → lineD s = .put us[1] us[2]) := fun h => by
            rw [HWS.out, ln_put h, get_D (show 1 < us.length by have := HWL.out; omega), get_D (show 2 < us.length by have := HWL.out; omega)]
          rw [Nat.add_zero] at d0
          generalize us[0] = x0 at *
          generalize us[1] = x1 at *
          generalize us[2] = x2 at *
          cases hg0
          cases hga
          cases hgb
          by_cases hx : x0 = ba putW
          · rw [decide_eq_true hx] at hle HIP
            have HLN2 : Hid (lineD s = .put x1 x2) := HLN.out HIP.out
            have HRS : Hid (r = match faultD acc (x1, x2) with
                | some e => .inl e
                | none => readD (acc ++ [(x1, x2)]) (ls.drop (k + 1))) := by
              show _ = _
              rw [hh.out.1, HD.out.1]
              exact readD_put HLN2.out
            have e1 : ∀ ob, (w1.alloc ob).cell? ⟨g0, o0 + 1, none⟩ = some (.string x1) := fun ob => cell_bel (below_new w1 ob) d1
            have e2 : ∀ ob, (w1.alloc ob).cell? ⟨g0, o0 + 2, none⟩ = some (.string x2) := fun ob => cell_bel (below_new w1 ob) d2
            have hrow := RowAt.new w1 #[.string ⟨#[]⟩, .string ⟨#[]⟩] 39
            have m0 : (w1.alloc (.cells #[.string ⟨#[]⟩, .string ⟨#[]⟩] 39)).cell? ⟨w1.heap.size, 0, none⟩ = some (.string ⟨#[]⟩) := hrow.cell 0 (by simp)
            have f0 : (w1.alloc (.cells #[.string ⟨#[]⟩, .string ⟨#[]⟩] 39)).frozen? ⟨w1.heap.size, 0, none⟩ = false := hrow.free 0
            have m1 : (w1.alloc (.cells #[.string ⟨#[]⟩, .string ⟨#[]⟩] 39)).cell? ⟨w1.heap.size, 1, none⟩ = some (.string ⟨#[]⟩) := hrow.cell 1 (by simp)
            have f1 : (w1.alloc (.cells #[.string ⟨#[]⟩, .string ⟨#[]⟩] 39)).frozen? ⟨w1.heap.size, 1, none⟩ = false := hrow.free 1
            clear hrow hx HLN HLN2 HIP HIE HWS HSS HWL hus HD
            go_upto_region 14 with fail
            go_region
            clear e1 e2 m0 f0 m1 f1 d1 d2 hle
            have hbw2 := below_drewN' (below_new w1 (.cells #[.string x1, .string x2] 39)) 1
            have hrow2 : RowAt ((w1.alloc (.cells #[.string x1, .string x2] 39)).drewN 1) w1.heap.size #[.string x1, .string x2] 39 := RowAt.new w1 #[.string x1, .string x2] 39
            obtain ⟨W2, hW2⟩ : ∃ W2, (w1.alloc (.cells #[.string x1, .string x2] 39)).drewN 1 = W2 := ⟨_, rfl⟩
            rw [hW2] at hbw2 hrow2
            have hW2' : (w1.alloc (.cells #[.string x1, .string x2] 39)).drew = W2 := hW2
            rw [hW2']
            have HNX2 := hide (Below.next HNX1.out hbw2)
            have b0 : W2.cell? ⟨w1.heap.size, 0, none⟩ = some (.string x1) := hrow2.cell 0 (by simp)
            have b1 : W2.cell? ⟨w1.heap.size, 1, none⟩ = some (.string x2) := hrow2.cell 1 (by simp)
            have hpo : PrO W2 w.heap.size (.slice la ln lc) acc := (hh.out.2.2.2.below HB1.out).below hbw2
            have HPF := hide (rfault_any (.slice la ln lc) acc (x1, x2) W2 (by have := hh.out.2.1; have := HM.out; omega) hpo.at)
            have HPO := hide hpo
            have HLA : Hid (acc.length = ln ∧ acc.length ≤ k) := ⟨hh.out.2.2.1, hh.out.2.1⟩
            have HFC := hide (faultD_kinds acc (x1, x2))
            obtain ⟨f, hf⟩ : ∃ f, f = faultD acc (x1, x2) := ⟨_, rfl⟩
            rw [← hf] at HPF HRS HFC
            simp only at HPF
            clear hf hh hpo hW2 hW2' hbw2 hrow2
            go_wp2_with fail
            refine HPF.out.mono ?_
            rintro e w3 ⟨rfl, hb3⟩
            have HNX3 := hide (Below.next HNX2.out hb3)
            have HPO3 := hide (HPO.out.below hb3)
            have k0 := cell_bel hb3 b0
            have k1 := cell_bel hb3 b1
            clear hb3 b0 b1 HPF HPO HNX2
            cases f with
            | none =>
              obtain ⟨a3, c3, w4, hrun, hown4, hb4, -⟩ := push_prs w.heap.size _ acc (x1, x2) 39 w3 w w.heap.size ln HLA.out.1 HPO3.out (by have := HLA.out; have := HM.out; omega) HNX3.out.size (Nat.le_refl _) HNX3.out
              have HF4 : Hid (r = readD (acc ++ [(x1, x2)]) (ls.drop (k + 1)) ∧ (acc ++ [(x1, x2)]).length ≤ k + 1 ∧ (acc ++ [(x1, x2)]).length = ln + 1 ∧ PrO w4 w.heap.size (.slice a3 (ln + 1) c3) (acc ++ [(x1, x2)])) := ⟨HRS.out, by have := HLA.out; simp; omega, by have := HLA.out; simp; omega, hown4⟩
              have HB4 := hide hb4
              have HRUN := hide hrun
              have hkM : (k : Int) + 1 ≤ 1099511627776 := by have := HLT.out; have := HM.out; omega
              clear hown4 hb4 HPO3 HRS hrun
              simp only [numE]
              go_wp2_with (first | (at_builtin; refine wpList_append_run 24 rfl _ _ rfl rfl _ _ rfl rfl _ _ HRUN.out ?_))
              go_wp2
              go_roundw
              case rel => exact ⟨k + 1, acc ++ [(x1, x2)], a3, c3, ln + 1, HLT.out, by go_num, rfl, HF4.out, HB4.out⟩
              case measure => have := HLT.out; simp [intOf]; omega
            | some q =>
              have HRS' : Hid (r = .inl q) := HRS.out
              have hne : ((((numE (some q) : Nat) : Int)) != 0) = true := by
                rw [bne_iff_ne]; simp only [numE]; omega
              have HNE : Hid (((numE (some q) : Nat) : Int) = ((q + 1 : Nat) : Int)) := rfl
              generalize ((numE (some q) : Nat) : Int) = Z at *
              clear HPO3 HRS k0 k1
              go_wp2
              rw [HQ.out]
              exact ⟨.inl ⟨q, HRS'.out, by rw [HNE.out]; rfl⟩, HNX3.out⟩
          · rw [decide_eq_false hx] at hle HIP
            have HR1 : Hid (r = .inl 1) := by
              show _ = _
              rw [hh.out.1, HD.out.1]
              exact readD_bad (HWS.out.trans (ln_bad HIP.out HIE.out))
            clear hh HLN HWS HSS HWL hus HIP HIE HD hx
            go_wp2
            rw [HQ.out]
            exact ⟨.inl ⟨1, HR1.out, rfl⟩, HNX1.out⟩
        · have n3 : ((wn : Int) == 3) = false := by rw [beq_eq_false_iff_ne]; omega
          by_cases h2 : wn = 2
          · subst h2
            have hus : us.length = 2 := HWL.out.symm
            obtain ⟨g0, o0, hg0, d0⟩ := HSS.out.get 0 (by have := HWL.out; omega)
            obtain ⟨g1, o1, hga, d1⟩ := HSS.out.get 1 (by have := HWL.out; omega)
            have hle : (us[0].toList == [101, 110, 100]) = decide (us[0] = ba endW) := list_ba us[0] endW
            have HIE : Hid (isD us (ba endW) 1 = decide (us[0] = ba endW)) := isD_eq (by have := HWL.out; omega)
            have HIP : Hid (isD us (ba putW) 2 = false) := isD_ne (by have := HWL.out; omega)
            have HLN : Hid (isD us (ba endW) 1 = true → lineD s = .fin us[1]) := fun h => by
              rw [HWS.out, ln_fin HIP.out h, get_D (show 1 < us.length by have := HWL.out; omega)]
            rw [Nat.add_zero] at d0
            generalize us[0] = x0 at *
            generalize us[1] = x1 at *
            cases hg0
            cases hga
            clear h3 n3
            by_cases hx : x0 = ba endW
            · rw [decide_eq_true hx] at hle HIE
              have hlnk : ln ≤ 1099511627776 := by have := hh.out.2; have := HM.out; omega
              have HIT := hide (fun W (hW : Below w1.heap.size w1 W) => HI.out W (ln : Int) (Below.next HNX1.out hW) (by omega) (by omega))
              obtain ⟨m, hm1⟩ : ∃ m, m = k + 1 := ⟨_, rfl⟩
              have hw : IntKind.i64.wrap ((k : Int) + 1) = (m : Int) := by have := HM.out; rw [IntKind.wrap_i64]; omega
              have hw2 : wrap64 ((k : Int) + 1) = (m : Int) := by have := HM.out; unfold wrap64; omega
              obtain ⟨it, hit⟩ : ∃ it, it = itoaB (ln : Int) := ⟨_, rfl⟩
              rw [← hit] at HIT
              have HRT : Hid (r = if x1 = it ∧ m = n then .inr acc else .inl 1) := by
                show _ = _
                rw [hh.out.1, HD.out.1, readD_fin (HLN.out HIE.out), hh.out.2.2.1, ← hit]
                have e : (ls.drop (k + 1) = []) ↔ m = n := by
                  rw [List.drop_eq_nil_iff, ← HN.out]
                  omega
                simp only [e]
              have hle9 := list_eq x1 it
              have HPO : Hid (∀ W, Below w1.heap.size w1 W → PrO W w.heap.size (.slice la ln lc) acc) := fun W hW => (hh.out.2.2.2.below HB1.out).below hW
              have hmn : m ≤ n := by omega
              clear hh HLN HWS HSS HWL hus HIP HIE HD hit hm1 hlnk hx hlt
              go_upto_region 11 with fail
              clear d0 hle
              by_cases hx : x1 = it
              · rw [decide_eq_true hx] at hle9
                have hle8 : (x1.toList != it.toList) = false := by rw [bne, hle9]; rfl
                by_cases hkm : m = n
                · have hkd : ¬ (m : Int) < (n : Int) := by omega
                  have HR1 : Hid (r = .inr acc) := by show _ = _; rw [HRT.out, if_pos ⟨hx, hkm⟩]
                  have hkd2 : decide (m < n) = false := decide_eq_false (by omega)
                  clear hx hkm HRT hmn
                  go_region_held3 (fun w' => w'.cell? ⟨g0, o0 + 1, none⟩ = some (.string x1)) (go_keep)
                    ((go_at_call 13; refine (HIT.out _ ?_).mono ?_; (first | exact Below.refl _ _ | exact (Below.refl _ _).drew | exact below_drewN' (Below.refl _ _) _); rintro e w6 ⟨rfl, hg⟩; have HG : Hid (Below w1.heap.size w1 w6) := ⟨hg.os, hg.tape, hg.output, hg.size, hg.block⟩; have zz1 := cell_bel HG.out d1; clear hg))
                  have HZ := hide (HPO.out w6 HG.out)
                  have HB6 := hide (Below.next HNX1.out HG.out)
                  clear zz1 HG HPO hle9 hle8 hkd
                  go_wp2
                  rw [HQ.out]
                  exact ⟨.inr ⟨acc, _, HR1.out, rfl, HZ.out⟩, HB6.out⟩
                · have hkd : (m : Int) < (n : Int) := by omega
                  have HR1 : Hid (r = .inl 1) := by show _ = _; rw [HRT.out, if_neg (fun h => hkm h.2)]
                  have hkd2 : decide (m < n) = true := decide_eq_true (by omega)
                  clear hx hkm HRT hmn
                  go_region_held3 (fun w' => w'.cell? ⟨g0, o0 + 1, none⟩ = some (.string x1)) (go_keep)
                    ((go_at_call 13; refine (HIT.out _ ?_).mono ?_; (first | exact Below.refl _ _ | exact (Below.refl _ _).drew | exact below_drewN' (Below.refl _ _) _); rintro e w6 ⟨rfl, hg⟩; have HG : Hid (Below w1.heap.size w1 w6) := ⟨hg.os, hg.tape, hg.output, hg.size, hg.block⟩; have zz1 := cell_bel HG.out d1; clear hg))
                  have HB6 := hide (Below.next HNX1.out HG.out)
                  clear zz1 HG HPO hle9 hle8 hkd
                  go_wp2
                  rw [HQ.out]
                  exact ⟨.inl ⟨1, HR1.out, rfl⟩, HB6.out⟩
              · rw [decide_eq_false hx] at hle9
                have hle8 : (x1.toList != it.toList) = true := by rw [bne, hle9]; rfl
                have HR1 : Hid (r = .inl 1) := by show _ = _; rw [HRT.out, if_neg (fun h => hx h.1)]
                clear hx HRT hmn
                first
                  | (go_region_held (fun w' => w'.cell? ⟨g0, o0 + 1, none⟩ = some (.string x1)) (go_keep)
                    ((go_at_call 13; refine (HIT.out _ ?_).mono ?_; (first | exact Below.refl _ _ | exact (Below.refl _ _).drew | exact below_drewN' (Below.refl _ _) _); rintro e w6 ⟨rfl, hg⟩; have HG : Hid (Below w1.heap.size w1 w6) := ⟨hg.os, hg.tape, hg.output, hg.size, hg.block⟩; have zz1 := cell_bel HG.out d1; clear hg)))
                  | fail
                all_goals
                  have HB6 := hide (Below.next HNX1.out HG.out)
                  clear zz1 HG HPO hle9 hle8
                  go_wp2
                  rw [HQ.out]
                  exact ⟨.inl ⟨1, HR1.out, rfl⟩, HB6.out⟩
            · rw [decide_eq_false hx] at hle HIE
              have HR1 : Hid (r = .inl 1) := by
                show _ = _
                rw [hh.out.1, HD.out.1]
                exact readD_bad (HWS.out.trans (ln_bad HIP.out HIE.out))
              clear hh HLN HWS HSS HWL hus HIP HIE HD hx
              go_wp2
              rw [HQ.out]
              exact ⟨.inl ⟨1, HR1.out, rfl⟩, HNX1.out⟩
          · have n2 : ((wn : Int) == 2) = false := by rw [beq_eq_false_iff_ne]; omega
            have HR1 : Hid (r = .inl 1) := by
              show _ = _
              rw [hh.out.1, HD.out.1]
              exact readD_bad (HWS.out.trans (ln_bad (isD_ne (by have := HWL.out; omega)) (isD_ne (by have := HWL.out; omega))))
            clear hh HWS HSS HWL HD h2 h3
            go_wp2
            rw [HQ.out]
            exact ⟨.inl ⟨1, HR1.out, rfl⟩, HNX1.out⟩
      · have HR1 : Hid (r = .inl 1) := by
          show _ = _
          rw [hh.out.1, HD.out.1]
          exact readD_bad (line_none hwd)
        clear hwd hh
        go_wp2
        rw [HQ.out]
        exact ⟨.inl ⟨1, HR1.out, rfl⟩, HNX1.out⟩
    · have hkn : k = n := by omega
      subst hkn
      have HR1 : Hid (r = .inl 3) := by
        show _ = _
        rw [hh.out.1, List.drop_eq_nil_of_le (by have := HN.out; omega)]
        rfl
      have j1 : ¬ (k : Int) < (k : Int) := by omega
      clear hh hnx
      go_wp2
      rw [HQ.out]
      exact ⟨.inl ⟨3, HR1.out, rfl⟩, HNX.out⟩
end Go.Proofs.YtdkckbfamecipaaDoor
