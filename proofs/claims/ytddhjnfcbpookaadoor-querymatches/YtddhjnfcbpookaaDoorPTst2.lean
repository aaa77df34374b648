import Derived.Test.YtddhjnfcbpookaaDoorPTst
import Derived.Test.YtddhjnfcbpookaaDoorPBnd
namespace Go.Proofs.YtddhjnfcbpookaaDoor
open Go.RowKit Go.Maps

theorem wpList_lookup_own_ok_at (w : World) {ops : Array Oper} {rest : List Oper} {o : Oper} {a : Act} {Q : Exit → Act → World → Prop} (hg : o.guard = none) (m x : Operand) (t : TypeId) (hop : o.op = Op.lookup t m x true)
    (ht : Tryd.prog.underlying t = some (.map 9 3)) (b n : Nat) (D : DataW Unit)
    (hm : a.eval m = .map (some b)) (hown : w.ownsMap Tryd.prog 9 (plainElem Tryd.prog 3) b n D) (key : Value) (kl : Lit) (hx : a.eval x = key) (hkey : keyOf Tryd.prog 9 key = some kl) (b0 : Bool) (hb : Maps.has D kl = b0) (c0 : Int) (hat : D.atKey kl (.lit (.int .i64 0)) = .lit (.int .i64 c0))
    (hK : wpList Tryd.prog ops Q rest (a.put o.dst (.tuple #[.int .i64 c0, .bool b0])) w) :
    wpList Tryd.prog ops Q (o :: rest) a w :=
  wpList_lookup_own_ok_int w hg m x t hop 9 3 .i64 skeyed ht Tryd.underlying3 (zero3 w) b n D hm hown key kl hx hkey (fun c h _ => by
    rw [hat] at h
    cases h
    rw [hb]
    exact hK)
theorem step_append_run {ops : Array Oper} {o : Oper} {a : Act} {w : World} {K : Act → World → Prop} {Q : Exit → Act → World → Prop} {E : Prop} (t : TypeId) (hgd : o.guard = none) (d x : Operand)
    (ho : o.op = .call { callee := .builtin .append, args := #[d, x], argTypes := #[t, t] }) (hty : o.type = t) (vd vx : Value) (hd : a.eval d = vd) (hx : a.eval x = vx) (v : Value) (w' : World)
    (hrun : (Builtin.append_ #[t, t] t #[vd, vx]).run Tryd.prog w = .ok v w') (h : K (a.put o.dst v) w') : if Region.wanted o (yielded ops a.tmps) = true then Oper.wp Tryd.prog o a w K Q else E := by
  have hw : Region.wanted o (yielded ops a.tmps) = true := by simp [Region.wanted, hgd]
  rw [if_pos hw]
  unfold Oper.wp
  simp [execOp, ho, resolve, invoke, builtin, hd, hx, hty, hrun, Result.andThen]
  exact h
theorem mcond_lost {fs : List Fd} {c : Cd} (h : ¬ 0 ≤ fieldI fs c.field) : mcondF fs c = 6 := by unfold mcondF; rw [if_pos (by omega)]
theorem mcond_sign {fs : List Fd} {c : Cd} (h : 0 ≤ fieldI fs c.field) (hs : signOk c.sign = false) : mcondF fs c = 1 := by
  have h9 : ¬ (1 ≤ c.sign ∧ c.sign ≤ 5) := by simpa [signOk] using hs
  unfold mcondF; rw [if_neg (by omega), if_neg h9]
theorem mcond_item {fs : List Fd} {c : Cd} (h : 0 ≤ fieldI fs c.field) (hs : signOk c.sign = true) : mcondF fs c = packF [c.item] := by
  have h9 : 1 ≤ c.sign ∧ c.sign ≤ 5 := by simpa [signOk] using hs
  unfold mcondF; rw [if_neg (by omega), if_pos h9]
/-- What testsOf answers. -/
def TestsP (A : Nat → Addr) (w : World) (fs : List Fd) (l : List Cd) (e : Ending) (w' : World) : Prop :=
  ((firstN (mcondF fs) l = 0 ∧ ∃ v base, e = .returned (.tuple #[v, .nilIface]) ∧ TsOwn w' base fs v l) ∨ (∃ p, firstN (mcondF fs) l ≠ 0 ∧ errQ A (firstN (mcondF fs) l) = .iface 144 (.pointer (some p)) ∧ e = .returned (.tuple #[.slice none 0 0, .iface 144 (.pointer (some p))]))) ∧ Below w.heap.size w w'
set_option maxHeartbeats 8000000 in
set_option maxRecDepth 100000 in
theorem ptests_any (A : Nat → Addr) (tn : ByteArray) (fv iv cv : Value) (fs : List Fd) (l : List Cd) (w : World) (hf : FsAt w fv fs) (hn : ∀ f ∈ fs, f.1.size ≤ 140737488355328) (hiv : ∃ a n c, iv = .slice a n c) (hc : CsAt w anyB cv l) (he : ErrsAt 13 gAll A w) (hsz : cntC l ≤ 16777216) :
    Calls Tryd.prog 27 #[.agg (tV tn fv iv), cv] w fun e w' => TestsP A w fs l e w' := by
  simp only [tV]
  obtain ⟨ca, cc, hcv⟩ := hc.form
  obtain ⟨fa, fc, hfv⟩ := hf.form
  obtain ⟨ia, im, ic, hiv⟩ := hiv
  subst hcv hfv hiv
  have hlen := hc.len
  have q1 := below_new w (.cells #[.string tn, .slice fa fs.length fc, .slice ia im ic] 25)
  have x1 := RowAt.new w #[.string tn, .slice fa fs.length fc, .slice ia im ic] 25
  generalize hW1 : w.alloc (.cells #[.string tn, .slice fa fs.length fc, .slice ia im ic] 25) = W1 at q1 x1
  have HW := hide hW1
  have HC := hide (hc.keep q1)
  have HE := hide (he.keep q1)
  have HB := hide q1
  have HSZ : Hid (cntC l ≤ 16777216) := hsz
  have HNM := hide (pnums_any fs (.slice fa fs.length fc) W1 (hf.keep q1) hn)
  have t1 : W1.cell? ⟨w.heap.size, 1, none⟩ = some (.slice fa fs.length fc) := x1.cell 1 (by simp)
  rw [← hW1] at t1
  clear hf hc q1 x1 hW1 hn he hsz
  go_enter Tryd.func27, Tryd.ntmps27
  go_wp2_with fail
  rw [HW.out] at t1 ⊢
  refine HNM.out.mono ?_
  rintro e w3 ⟨bn, rfl, hbs, hnm, hb3⟩
  have HM3 := hide hnm
  have HC3 := hide (HC.out.keep hb3)
  have HE3 := hide (HE.out.keep hb3)
  have HB3 := hide (Below.next HB.out hb3)
  clear HNM t1 hbs hnm hb3 HC HE HB HW
  go_wp2_with fail
  refine (psigns_any w3).mono ?_
  rintro e w5 ⟨rfl, hsr, hb5⟩
  obtain ⟨SB, hSB⟩ : ∃ SB, SB = w3.heap.size := ⟨_, rfl⟩
  rw [← hSB] at hsr ⊢
  have HS5 := hide hsr
  have HM5 := hide (HM3.out.keep hb5)
  have HC5 := hide (HC3.out.keep hb5)
  have HE5 := hide (HE3.out.keep hb5)
  have HB5 := hide (Below.next HB3.out hb5)
  clear hsr hb5 HM3 HC3 HE3 HB3 hSB
  go_wp2_with fail
  go_loopw [8, 20] (fun tv v wr => ∃ (k : Nat) (a : Option Addr) (c : Nat), tv = .slice a k c ∧ v = .int .i64 (k : Int) ∧ k ≤ l.length ∧ Hid (∀ j (h : j < l.length), j < k → mcondF fs l[j] = 0) ∧ Hid (TsOwn wr w5.heap.size fs (.slice a k c) (l.take k)) ∧ Below w5.heap.size w5 wr) (fun _ v _ => l.length - (intOf v).toNat)
  case atStart => exact ⟨0, none, 0, rfl, rfl, Nat.zero_le _, fun j _ h => by omega, TsOwn.nil _ _ _, Below.refl _ _⟩
  case round =>
    obtain ⟨k, ta, tc, rfl, rfl, hk, hall, hts, hbl⟩ := hrel
    have HBL := hide hbl
    by_cases hlt : k < l.length
    · have hltI : (k : Int) < (l.length : Int) := by omega
      have e0 : (0 : Int) ≤ (k : Int) := by omega
      obtain ⟨g, off, u, hca, -, hok, s0, s1, s2, s3, s4, s5, hin⟩ := HC5.out.get k hlt
      replace s0 := cell_below hbl s0
      replace s1 := cell_below hbl s1
      replace s2 := cell_below hbl s2
      replace s3 := cell_below hbl s3
      replace s4 := cell_below hbl s4
      replace s5 := cell_below hbl s5
      have hin2 : ItsAt wr (fun g => g < w5.heap.size) u (l[k]'hlt).item.list := ItsAt.keepB (hin.weak fun g hg _ => hg) hbl
      have HENC := hide (enc_one (List.getElem_mem hlt) HSZ.out)
      have HTK : Hid (l.take (k + 1) = l.take k ++ [l[k]'hlt]) := List.take_succ_eq_append_getElem hlt
      have HKL : Hid ((l.take k).length = k) := by show _ = _; rw [List.length_take]; omega
      have HST : Hid (mcondF fs (l[k]'hlt) ≠ 0 → firstN (mcondF fs) l = mcondF fs (l[k]'hlt)) := fun h => firstN_at l k hlt hall.out h
      have HAL : Hid (mcondF fs (l[k]'hlt) = 0 → ∀ j (h : j < l.length), j < k + 1 → mcondF fs l[j] = 0) := fun h0 j h hj => by
        by_cases e : j = k
        · subst e; exact h0
        · exact hall.out j h (by omega)
      have HJ : Hid (k + 1 ≤ l.length) := by show _ ≤ _; omega
      have HSZ5 := hbl.size
      obtain ⟨x, hx⟩ : ∃ x, x = l[k]'hlt := ⟨_, rfl⟩
      rw [← hx] at s0 s1 s2 s3 s4 hin2 hok HTK HENC HST HAL
      subst hca
      have HOK := hide hok
      have HKY := hide (keyS x.field (by have := hok.f; omega))
      obtain ⟨ua, uc, hu⟩ := hin2.form
      subst hu
      obtain ⟨D, hown, hnd⟩ := (HM5.out.keep hbl).ex
      have qv := below_new wr (.cells #[.string x.field, .int .i64 x.sign, .int .i64 x.item.kind, .int .i64 x.item.num, .string x.item.text, .slice ua x.item.list.length uc] 61)
      have yv := RowAt.new wr #[.string x.field, .int .i64 x.sign, .int .i64 x.item.kind, .int .i64 x.item.num, .string x.item.text, .slice ua x.item.list.length uc] 61
      have HON := hide (hown.alloc (.cells #[.string x.field, .int .i64 x.sign, .int .i64 x.item.kind, .int .i64 x.item.num, .string x.item.text, .slice ua x.item.list.length uc] 61))
      obtain ⟨V1, hV1⟩ : ∃ V1, wr.alloc (.cells #[.string x.field, .int .i64 x.sign, .int .i64 x.item.kind, .int .i64 x.item.num, .string x.item.text, .slice ua x.item.list.length uc] 61) = V1 := ⟨_, rfl⟩
      rw [hV1] at qv yv HON
      obtain ⟨v0, v1, v2, v3, v4, v5⟩ := yv.q6
      have HV1 := hide hV1
      have HYV := hide yv
      have HHB := hide (hnd x.field).1
      have HAT := hide (hnd x.field).2
      have HNAT : Hid (Maps.has D (kS x.field) = false → D.atKey (kS x.field) (.lit (.int .i64 0)) = .lit (.int .i64 0)) := fun h => atKey_of_not_has h _
      have HTV := hide (hts.out.keep qv)
      have HQV := hide ((HBL.out).trans (qv.mono HSZ5))
      have HINV := hide (hin2.keep qv)
      have HEV := hide ((HE5.out.keep HBL.out).keep qv)
      have el : V1.cell? ⟨1, 0, none⟩ = some (.iface 144 (.pointer (some (A 5)))) := (HEV.out.1 5 (by decide)).1
      have ea : V1.cell? ⟨0, 0, none⟩ = some (.iface 144 (.pointer (some (A 0)))) := HEV.out.two.arg
      have HSG := hide (pissign_any x.sign V1)
      clear hin hin2 hok hx hbl qv yv hown hnd hV1 hts hall
      by_cases hfi : 0 ≤ fieldI fs x.field
      · rw [decide_eq_true hfi] at HHB
        have HAT2 := hide (HAT.out hfi (.lit (.int .i64 0)))
        obtain ⟨N, hN⟩ : ∃ N : Int, N = fieldI fs x.field := ⟨_, rfl⟩
        rw [← hN] at HAT2
        have HNE := hide hN
        have HFI := hide hfi
        clear hN hfi HAT HNAT
        go_wp2_with (first
          | (at_lookup; rw [HV1.out]; refine wpList_lookup_own_ok_at _ rfl _ _ 89 rfl Tryd.underlying89 bn fs.length D rfl HON.out _ _ rfl HKY.out true HHB.out N HAT2.out ?_)
          | fail)
        refine HSG.out.mono ?_
        rintro e w'' ⟨rfl, rfl⟩
        clear s0 s1 s2 s3 s4 s5 HON HHB HAT2 HKY HSG
        cases hs : signOk x.sign with
        | false =>
          have HE1 : Hid (firstN (mcondF fs) l = 1) := by
            show _ = _
            have e1 := mcond_sign HFI.out hs
            rw [HST.out (by omega), e1]
          have HEB : Hid (Below w.heap.size w V1) := HB5.out.trans (HQV.out.mono HB5.out.size)
          clear hs HST HAL v0 v1 v2 v3 v4 v5 el
          go_upto_region 10 with fail
          go_quiet (fail)
          go_wp2
          go_ret2
          exact ⟨.inr ⟨A 0, by rw [HE1.out]; decide, by rw [HE1.out]; rfl, rfl⟩, below_drewN' HEB.out _⟩
        | true =>
          have e1 := mcond_item HFI.out hs
          have hs15 : 1 ≤ x.sign ∧ x.sign ≤ 5 := by simpa [signOk] using hs
          have HPK := hide (pitemf_any (A 0) (A 2) x.item (.slice ua x.item.list.length uc) V1 HOK.out.it HINV.out.any HEV.out.two HENC.out)
          have HPQ := hide (packF_kinds [x.item])
          obtain ⟨pf, hpf⟩ : ∃ pf, pf = packF [x.item] := ⟨_, rfl⟩
          rw [← hpf] at e1 HPK HPQ
          rw [e1] at HST HAL
          clear hs hpf e1 el ea
          go_wp2_with fail
          refine HPK.out.mono ?_
          rintro e w6 ⟨rfl, hb6⟩
          clear HPK v0 v1 v2 v3 v4 v5
          by_cases h0 : pf = 0
          · subst h0
            have hz : errOf (A 0) (A 2) 0 = .nilIface := rfl
            rw [hz]
            have HA := hide (HAL.out rfl)
            clear HST HAL hz HPQ
            obtain ⟨S, hS⟩ : ∃ S : Nat, x.sign = (S : Int) := ⟨x.sign.toNat, by omega⟩
            have HW56 : Hid (Below w5.heap.size w5 w6) := HQV.out.trans (hb6.mono HQV.out.size)
            obtain ⟨y0, y1, y2, y3, y4, y5⟩ := (HYV.out.below hb6).q6
            have g1 := (sgn_cell (HS5.out.below HW56.out) hs15.1 hs15.2 S hS).2
            have sI0 : (0 : Int) ≤ (S : Int) := by omega
            have sI6 : (S : Int) < 6 := by omega
            have X := (.cells (tcells fs x (.slice ua x.item.list.length uc)).toArray 101 : Obj)
            have hbd : Below w6.heap.size w6 (w6.drew.alloc (.cells (tcells fs x (.slice ua x.item.list.length uc)).toArray 101)) := ((Below.refl w6.heap.size w6).drew).alloc (Nat.le_refl _) _
            obtain ⟨g9, c9, w9, hrun, hown9, hb9⟩ := push_test (w := w6.drew.alloc (.cells (tcells fs x (.slice ua x.item.list.length uc)).toArray 101)) (c := x) (u := .slice ua x.item.list.length uc) w6.heap.size ((HTV.out.keep hb6).keep hbd) (heap_alloc_new w6.drew _) rfl ((HINV.out.keep hb6).keep hbd) HOK.out.it (by rw [HKL.out]; omega) (Nat.le_trans HW56.out.size hbd.size)
            rw [HKL.out] at hrun hown9
            rw [← HTK.out] at hown9
            simp only [tcells, sgnV, ← HNE.out] at hrun hb9
            rw [hS] at y1
            have z1 := fun o => cell_below (below_new w6.drew o) y1
            have z2 := fun o => cell_below (below_new w6.drew o) y2
            have z3 := fun o => cell_below (below_new w6.drew o) y3
            have z4 := fun o => cell_below (below_new w6.drew o) y4
            have z5 := fun o => cell_below (below_new w6.drew o) y5
            have zg := fun o => cell_below (below_new w6.drew o) g1
            have HRUN := hide hrun
            have HO9 := hide hown9
            have HB9 : Hid (Below w5.heap.size w5 w9) := (HW56.out.trans (hbd.mono HW56.out.size)).trans (by simpa only [tcells, sgnV, ← HNE.out] using hb9)
            clear hrun hown9 hb9 hbd hb6 hS hs15 X
            go_wp2_with fail
            go_region_law (first | (refine step_append_run 73 rfl (.tmp 45) (.tmp 56) rfl rfl _ _ rfl rfl _ _ HRUN.out ?_))
            all_goals
              clear HRUN y0 y1 y2 y3 y4 y5 z1 z2 z3 z4 z5 zg g1
              go_wp2
              go_roundw
              case rel => exact ⟨k + 1, _, c9, rfl, by go_num, HJ.out, HA.out, HO9.out, HB9.out⟩
              case measure => simp [intOf]; omega
          · obtain ⟨pp, hpp⟩ := errOf_nz (A 0) (A 2) h0
            have hqe := errOf_Q A pf HPQ.out
            have HE1 : Hid (firstN (mcondF fs) l = pf) := HST.out h0
            have HEB : Hid (Below w.heap.size w w6) := HB5.out.trans ((HQV.out.trans (hb6.mono HQV.out.size)).mono HB5.out.size)
            have HPP : Hid (errQ A pf = .iface 144 (.pointer (some pp))) := by show _ = _; rw [← hqe, hpp]
            have HP0 := hide h0
            rw [hpp]
            clear HST HAL hb6 hpp hqe h0
            go_wp2
            go_ret2
            exact ⟨.inr ⟨pp, by rw [HE1.out]; exact HP0.out, by rw [HE1.out]; exact HPP.out, rfl⟩, HEB.out⟩
      · rw [decide_eq_false hfi] at HHB
        have HAT2 := hide (HNAT.out HHB.out)
        have HE1 : Hid (firstN (mcondF fs) l = 6) := by
          show _ = _
          have e1 := mcond_lost hfi
          rw [HST.out (by omega), e1]
        have HEB : Hid (Below w.heap.size w V1) := HB5.out.trans (HQV.out.mono HB5.out.size)
        clear hfi HST HAL HAT HNAT ea HSG
        go_upto_region 8 with (first
          | (at_lookup; rw [HV1.out]; refine wpList_lookup_own_ok_at _ rfl _ _ 89 rfl Tryd.underlying89 bn fs.length D rfl HON.out _ _ rfl HKY.out false HHB.out 0 HAT2.out ?_)
          | fail)
        go_quiet (fail)
        go_wp2
        go_ret2
        exact ⟨.inr ⟨A 5, by rw [HE1.out]; decide, by rw [HE1.out]; rfl, rfl⟩, below_drewN' HEB.out _⟩
    · have hltI : ¬ (k : Int) < (l.length : Int) := by omega
      have hke : k = l.length := by omega
      have HF0 : Hid (firstN (mcondF fs) l = 0) := firstN_take l fun j h => hall.out j h (by omega)
      have HTO : Hid (TsOwn wr w5.heap.size fs (.slice ta k tc) l) := by
        have := hts.out
        rwa [hke, List.take_length, ← hke] at this
      have HEB : Hid (Below w.heap.size w wr) := HB5.out.trans (hbl.mono HB5.out.size)
      clear hall hts hbl hke
      go_wp2
      go_ret2
      exact ⟨.inl ⟨HF0.out, _, _, rfl, HTO.out⟩, HEB.out⟩
end Go.Proofs.YtddhjnfcbpookaaDoor
