import Derived.Test.YtddhjnfcbpookaaDoorPTst2
import Derived.Laws.EntriesVeiled
namespace Go.Proofs.YtddhjnfcbpookaaDoor
open Go.RowKit Go.Maps

theorem firstN_zero {α : Type} {f : α → Nat} : ∀ {l : List α}, firstN f l = 0 → ∀ x ∈ l, f x = 0
  | [], _, x, hx => by simp at hx
  | y :: r, h, x, hx => by
    rw [firstN] at h
    split at h
    · rename_i h0
      rcases List.mem_cons.1 hx with rfl | hx
      · exact h0
      · exact firstN_zero h x hx
    · rename_i h0; exact absurd h h0
theorem mcond_zero {fs : List Fd} {c : Cd} (h : mcondF fs c = 0) : 0 ≤ fieldI fs c.field ∧ packF [c.item] = 0 := by
  unfold mcondF at h
  split at h
  · omega
  · split at h
    · exact ⟨by omega, h⟩
    · omega
def meetsD (fs : List Fd) (items : List It) (l : List Cd) : Bool × Nat := if rowF items = 0 then (l.all (holdB fs items), 0) else (false, rowF items)
theorem rowF_kinds : ∀ (l : List It), rowF l = 0 ∨ rowF l = 1 ∨ rowF l = 3
  | [] => .inl rfl
  | x :: r => by
    unfold rowF
    rw [firstN]
    split
    · exact rowF_kinds r
    · exact packF_kinds _
set_option maxHeartbeats 8000000 in
set_option maxRecDepth 100000 in
theorem pmeets_any (A : Nat → Addr) (id : Int) (rv tv : Value) (items : List It) (fs : List Fd) (l : List Cd) (base : Nat) (w : World) (hi : ItsAt w anyB rv items) (ht : TsOwn w base fs tv l) (hl : items.length = fs.length) (hz : firstN (mcondF fs) l = 0) (he : ErrsAt 13 gAll A w) (hsz : cntL items + cntC l ≤ 16777216) (hll : l.length ≤ 1759218604390) :
    Calls Tryd.prog 28 #[.agg #[.int .i64 id, rv], tv] w fun e w' => e = .returned (.tuple #[.bool (meetsD fs items l).1, errQ A (meetsD fs items l).2]) ∧ Below w.heap.size w w' := by
  obtain ⟨r, hr⟩ : ∃ r, r = meetsD fs items l := ⟨_, rfl⟩
  rw [← hr]
  have HR := hide hr
  obtain ⟨rb, hrb⟩ : ∃ rb, rb = r.1 := ⟨_, rfl⟩
  obtain ⟨rv2, hrv2⟩ : ∃ rv2, rv2 = errQ A r.2 := ⟨_, rfl⟩
  rw [← hrb, ← hrv2]
  have HRB := hide hrb
  have HRV := hide hrv2
  obtain ⟨ra, rc, hrf⟩ := hi.form
  obtain ⟨ta, tc, htf⟩ := ht.form
  subst hrf htf
  have hilen := hi.len_le
  have q1 := below_new w (.cells #[.int .i64 id, .slice ra items.length rc] 28)
  have x1 := RowAt.new w #[.int .i64 id, .slice ra items.length rc] 28
  generalize hW1 : w.alloc (.cells #[.int .i64 id, .slice ra items.length rc] 28) = W1 at q1 x1
  have HW := hide hW1
  have HX := hide x1
  have HI := hide (hi.keep q1)
  have HT := hide (ht.keep q1)
  have HE := hide (he.keep q1)
  have HB := hide q1
  have HL := hide hl
  have HSI : Hid (cntL items ≤ 16777216) := by show _ ≤ _; omega
  have HSC : Hid (cntC l ≤ 16777216) := by show _ ≤ _; omega
  have HZ := hide (firstN_zero hz)
  have c1 : W1.cell? ⟨w.heap.size, 1, none⟩ = some (.slice ra items.length rc) := x1.cell 1 (by simp)
  rw [← hW1] at c1
  clear hi ht he hl hsz hz q1 x1 hW1 hr hrb hrv2
  go_enter Tryd.func28, Tryd.ntmps28
  go_wp2_with fail
  rw [HW.out] at c1 ⊢
  go_loopw [14] (fun v wr => ∃ k : Nat, v = .int .i64 (k : Int) ∧ k ≤ items.length ∧ Hid (∀ j (h : j < items.length), j < k → packF [items[j]] = 0) ∧ Below W1.heap.size W1 wr) (fun v _ => items.length - (intOf v).toNat)
  case atStart => exact ⟨0, rfl, Nat.zero_le _, fun j _ h => by omega, Below.refl _ _⟩
  case round =>
    obtain ⟨k, rfl, hk, hall, hbl⟩ := hrel
    have HBL := hide hbl
    by_cases hlt : k < items.length
    · have hltI : (k : Int) < (items.length : Int) := by omega
      have e0 : (0 : Int) ≤ (k : Int) := by omega
      obtain ⟨g, off, u, hra, hok, s0, s1, s2, s3, hin⟩ := (HI.out.keep hbl).get k hlt
      have HENC := hide (enc_item (List.getElem_mem hlt) HSI.out)
      have HST : Hid (packF [items[k]'hlt] ≠ 0 → rowF items = packF [items[k]'hlt]) := fun h => firstN_at (f := fun x => packF [x]) items k hlt hall.out h
      have HAL : Hid (packF [items[k]'hlt] = 0 → ∀ j (h : j < items.length), j < k + 1 → packF [items[j]] = 0) := fun h0 j h hj => by
        by_cases e : j = k
        · subst e; exact h0
        · exact hall.out j h (by omega)
      have HJ : Hid (k + 1 ≤ items.length) := by show _ ≤ _; omega
      obtain ⟨x, hx⟩ : ∃ x, x = items[k]'hlt := ⟨_, rfl⟩
      rw [← hx] at s0 s1 s2 hin hok HENC HST HAL
      subst hra
      obtain ⟨ua, uc, hu⟩ := hin.form
      subst hu
      have qv := below_new wr (.cells #[.int .i64 x.kind, .int .i64 x.num, .string x.text, .slice ua x.list.length uc] 59)
      have HPK := hide (pitemf_any (A 0) (A 2) x (.slice ua x.list.length uc) _ hok (hin.keep qv) ((HE.out.keep hbl).keep qv).two HENC.out)
      have HQV := hide (Below.next hbl qv)
      have HPQ := hide (packF_kinds [x])
      obtain ⟨pf, hpf⟩ : ∃ pf, pf = packF [x] := ⟨_, rfl⟩
      rw [← hpf] at HPK HPQ HST HAL
      clear hin hok hx hbl qv hall hpf HENC
      go_wp2_with fail
      refine HPK.out.mono ?_
      rintro e w6 ⟨rfl, hb6⟩
      have HB6 := hide (Below.next HQV.out hb6)
      clear HPK s0 s1 s2 s3 hb6 HQV
      by_cases h0 : pf = 0
      · subst h0
        have hz : errOf (A 0) (A 2) 0 = .nilIface := rfl
        rw [hz]
        have HA := hide (HAL.out rfl)
        clear HST HAL hz HPQ
        go_wp2
        go_roundw
        case rel => exact ⟨k + 1, by go_num, HJ.out, HA.out, HB6.out⟩
        case measure => simp [intOf]; omega
      · obtain ⟨pp, hpp⟩ := errOf_nz (A 0) (A 2) h0
        have hqe := errOf_Q A pf HPQ.out
        have hE1 : r = (false, pf) := by
          rw [HR.out, meetsD, HST.out h0, if_neg h0]
        have HP1 : Hid (rb = false) := by show _ = _; rw [HRB.out, hE1]
        have HP2 : Hid (rv2 = .iface 144 (.pointer (some pp))) := by show _ = _; rw [HRV.out, hE1, ← hqe, hpp]
        have HEB := hide (Below.next HB.out HB6.out)
        rw [hpp]
        clear HST HAL hpp hqe h0 hE1
        go_wp2
        go_ret2
        exact ⟨by rw [HP1.out, HP2.out]; rfl, HEB.out⟩
    · have hltI : ¬ (k : Int) < (items.length : Int) := by omega
      have HR0 : Hid (rowF items = 0) := firstN_take (f := fun x => packF [x]) items fun j h => hall.out j h (by omega)
      have HPI : Hid (∀ j (h : j < items.length), packF [items[j]] = 0) := fun j h => hall.out j h (by omega)
      have HR1 : Hid (rb = l.all (holdB fs items) ∧ rv2 = .nilIface) := by
        refine ⟨?_, ?_⟩
        · rw [HRB.out, HR.out, meetsD, if_pos HR0.out]
        · rw [HRV.out, HR.out, meetsD, if_pos HR0.out]; rfl
      have HXR := hide (HX.out.below hbl)
      have HIR := hide (HI.out.keep hbl)
      have HTR := hide (HT.out.keep hbl)
      have HER := hide (HE.out.keep hbl)
      have HBR := hide (Below.next HB.out hbl)
      clear hall hbl HBL HX HI HT HE HB hlt hk c1
      go_wp2_with fail
      generalize wr = WA at *
      go_loopw [26] (fun v wz => ∃ k : Nat, v = .int .i64 (k : Int) ∧ k ≤ l.length ∧ Hid (∀ j (h : j < l.length), j < k → holdB fs items l[j] = true) ∧ Below WA.heap.size WA wz) (fun v _ => l.length - (intOf v).toNat)
      case atStart => exact ⟨0, rfl, Nat.zero_le _, fun j _ h => by omega, Below.refl _ _⟩
      case round =>
        obtain ⟨k, rfl, hk, hall, hbz⟩ := hrel
        have HBZ := hide hbz
        by_cases hlt : k < l.length
        · have hltI2 : (k : Int) < (l.length : Int) := by omega
          have e0 : (0 : Int) ≤ (k : Int) := by omega
          obtain ⟨g, u, hta, hok, hcell, hin⟩ := (HTR.out.keep hbz).get k hlt
          obtain ⟨hfi, hpc⟩ := mcond_zero (HZ.out _ (List.getElem_mem hlt))
          have HENC := hide (enc_one (List.getElem_mem hlt) HSC.out)
          have HST : Hid (holdB fs items (l[k]'hlt) = false → rb = false) := fun h => by
            rw [HR1.out.1, List.all_eq_false]
            exact ⟨_, List.getElem_mem hlt, by rw [h]; decide⟩
          have HAL : Hid (holdB fs items (l[k]'hlt) = true → ∀ j (h : j < l.length), j < k + 1 → holdB fs items l[j] = true) := fun h0 j h hj => by
            by_cases e : j = k
            · subst e; exact h0
            · exact hall.out j h (by omega)
          have HJ : Hid (k + 1 ≤ l.length) := by show _ ≤ _; omega
          obtain ⟨c, hcx⟩ : ∃ c, c = l[k]'hlt := ⟨_, rfl⟩
          rw [← hcx] at hok hcell hin hfi hpc HENC HST HAL
          subst hta
          obtain ⟨N, hN⟩ : ∃ N : Nat, fieldI fs c.field = (N : Int) := ⟨(fieldI fs c.field).toNat, by omega⟩
          have hNl : N < items.length := by have := fieldI_lt fs c.field; have := HL.out; omega
          obtain ⟨g2, off2, u2, hra, hok2, i0, i1, i2, i3, hin2⟩ := (HIR.out.keep hbz).get N hNl
          have hpx := HPI.out N hNl
          have HEN2 := hide (enc_item (List.getElem_mem hNl) HSI.out)
          have hhold : holdB fs items c = standsB (items[N]'hNl) c := by
            unfold holdB
            rw [hN, Int.toNat_natCast, List.getD, List.getElem?_eq_getElem hNl]; rfl
          rw [hhold] at HST HAL
          obtain ⟨x, hxx⟩ : ∃ x, x = items[N]'hNl := ⟨_, rfl⟩
          rw [← hxx] at hok2 i0 i1 i2 hin2 hpx HEN2 HST HAL
          subst hra
          obtain ⟨ua, uc, hu⟩ := hin.form
          subst hu
          obtain ⟨xa, xc, hu2⟩ := hin2.form
          subst hu2
          have s0 : wr.cell? ⟨g, k * 6, none⟩ = some (.int .i64 (N : Int)) := by rw [← hN]; exact hcell 0 _ rfl
          have s1 : wr.cell? ⟨g, k * 6 + 1, none⟩ = some (.int .i64 c.item.kind) := hcell 1 _ rfl
          have s2 : wr.cell? ⟨g, k * 6 + 2, none⟩ = some (.int .i64 c.item.num) := hcell 2 _ rfl
          have s3 : wr.cell? ⟨g, k * 6 + 3, none⟩ = some (.string c.item.text) := hcell 3 _ rfl
          have s4 : wr.cell? ⟨g, k * 6 + 4, none⟩ = some (.slice ua c.item.list.length uc) := hcell 4 _ rfl
          have s5 : wr.cell? ⟨g, k * 6 + 5, none⟩ = some (.func (.func (sgnFn c.sign)) #[] #[]) := hcell 5 _ rfl
          have r1 : wr.cell? ⟨w.heap.size, 1, none⟩ = some (.slice (some ⟨g2, off2, none⟩) items.length rc) := (HXR.out.below hbz).cell 1 (by simp)
          have qv := below_new wr (.cells #[.int .i64 (N : Int), .int .i64 c.item.kind, .int .i64 c.item.num, .string c.item.text, .slice ua c.item.list.length uc, .func (.func (sgnFn c.sign)) #[] #[]] 101)
          have yv := RowAt.new wr #[.int .i64 (N : Int), .int .i64 c.item.kind, .int .i64 c.item.num, .string c.item.text, .slice ua c.item.list.length uc, .func (.func (sgnFn c.sign)) #[] #[]] 101
          obtain ⟨V1, hV1⟩ : ∃ V1, wr.alloc (.cells #[.int .i64 (N : Int), .int .i64 c.item.kind, .int .i64 c.item.num, .string c.item.text, .slice ua c.item.list.length uc, .func (.func (sgnFn c.sign)) #[] #[]] 101) = V1 := ⟨_, rfl⟩
          rw [hV1] at qv yv
          have HPM := hide (fun W (hW : Below V1.heap.size V1 W) => pismet_any (A 0) (A 2) (N : Int) c x (.slice ua c.item.list.length uc) (.slice xa x.list.length xc) W hok hok2 ((hin.keep qv).keep hW) ((hin2.keep qv).keep hW) (((HER.out.keep hbz).keep qv).keep hW).two hpx hpc HEN2.out HENC.out)
          simp only [tsV, iV, sgnV] at HPM
          obtain ⟨v0, v1, v2, v3, v4, v5⟩ := yv.q6
          replace r1 := cell_below qv r1
          replace i0 := cell_below qv i0
          replace i1 := cell_below qv i1
          replace i2 := cell_below qv i2
          replace i3 := cell_below qv i3
          have HV1 := hide hV1
          have HQV := hide (Below.next hbz qv)
          have n0 : (0 : Int) ≤ (N : Int) := by omega
          have nI : (N : Int) < (items.length : Int) := by omega
          obtain ⟨sb, hsb⟩ : ∃ sb, sb = standsB x c := ⟨_, rfl⟩
          rw [← hsb] at HPM HST HAL
          clear hin hin2 hok hok2 hcell hcx hxx hbz qv yv hV1 hall hfi hpc hpx hhold hN hsb HENC HEN2
          go_upto_region 11 with fail
          rw [HV1.out]
          go_cut [38] from 27 to 39 (fun v wx => v = .bool (!sb) ∧ Below V1.heap.size V1 wx)
          case first =>
            go_region_held3 (fun w' => w'.cell? ⟨wr.heap.size, 0, none⟩ = some (.int .i64 (N : Int)) ∧ w'.cell? ⟨wr.heap.size, 1, none⟩ = some (.int .i64 c.item.kind) ∧ w'.cell? ⟨wr.heap.size, 2, none⟩ = some (.int .i64 c.item.num) ∧ w'.cell? ⟨wr.heap.size, 3, none⟩ = some (.string c.item.text) ∧ w'.cell? ⟨wr.heap.size, 4, none⟩ = some (.slice ua c.item.list.length uc) ∧ w'.cell? ⟨wr.heap.size, 5, none⟩ = some (.func (.func (sgnFn c.sign)) #[] #[]) ∧ w'.cell? ⟨w.heap.size, 1, none⟩ = some (.slice (some ⟨g2, off2, none⟩) items.length rc) ∧ w'.cell? ⟨g2, off2 + N * 4, none⟩ = some (.int .i64 x.kind) ∧ w'.cell? ⟨g2, off2 + N * 4 + 1, none⟩ = some (.int .i64 x.num) ∧ w'.cell? ⟨g2, off2 + N * 4 + 2, none⟩ = some (.string x.text) ∧ w'.cell? ⟨g2, off2 + N * 4 + 3, none⟩ = some (.slice xa x.list.length xc)) (go_keep)
              (first | (go_at_call 43; refine (HPM.out _ ?_).mono ?_; (first | exact Below.refl _ _ | exact (Below.refl _ _).drew | exact below_drewN' (Below.refl _ _) _); rintro e w6 ⟨rfl, hg⟩; have HG := hide hg; have kv0 := cell_below (w := V1) ⟨hg.os, hg.tape, hg.output, hg.size, hg.block⟩ v0; have kv1 := cell_below (w := V1) ⟨hg.os, hg.tape, hg.output, hg.size, hg.block⟩ v1; have kv2 := cell_below (w := V1) ⟨hg.os, hg.tape, hg.output, hg.size, hg.block⟩ v2; have kv3 := cell_below (w := V1) ⟨hg.os, hg.tape, hg.output, hg.size, hg.block⟩ v3; have kv4 := cell_below (w := V1) ⟨hg.os, hg.tape, hg.output, hg.size, hg.block⟩ v4; have kv5 := cell_below (w := V1) ⟨hg.os, hg.tape, hg.output, hg.size, hg.block⟩ v5; have kr1 := cell_below (w := V1) ⟨hg.os, hg.tape, hg.output, hg.size, hg.block⟩ r1; have ki0 := cell_below (w := V1) ⟨hg.os, hg.tape, hg.output, hg.size, hg.block⟩ i0; have ki1 := cell_below (w := V1) ⟨hg.os, hg.tape, hg.output, hg.size, hg.block⟩ i1; have ki2 := cell_below (w := V1) ⟨hg.os, hg.tape, hg.output, hg.size, hg.block⟩ i2; have ki3 := cell_below (w := V1) ⟨hg.os, hg.tape, hg.output, hg.size, hg.block⟩ i3; clear hg))
            all_goals
              clear v0 v1 v2 v3 v4 v5 r1 i0 i1 i2 i3 kv0 kv1 kv2 kv3 kv4 kv5 kr1 ki0 ki1 ki2 ki3 HPM s0 s1 s2 s3 s4 s5
              go_wp2_with fail
              go_meet
              exact ⟨rfl, ⟨HG.out.os, HG.out.tape, HG.out.output, HG.out.size, HG.out.block⟩⟩
          case rest =>
            obtain ⟨rfl, hbw⟩ := hcut
            have HBW := hide (Below.next HQV.out hbw)
            clear hbw v0 v1 v2 v3 v4 v5 r1 i0 i1 i2 i3 HPM s0 s1 s2 s3 s4 s5
            cases sb with
            | true =>
              have HA := hide (HAL.out rfl)
              clear HST HAL
              go_wp2
              go_roundw
              case rel => exact ⟨k + 1, by go_num, HJ.out, HA.out, HBW.out⟩
              case measure => simp [intOf]; omega
            | false =>
              have HF := hide (HST.out rfl)
              have HF2 := hide HR1.out.2
              have HEB := hide (Below.next HBR.out HBW.out)
              clear HST HAL HR1
              go_wp2
              go_ret2
              exact ⟨by rw [HF.out, HF2.out]; rfl, HEB.out⟩
        · have hltI2 : ¬ (k : Int) < (l.length : Int) := by omega
          have HF : Hid (rb = true) := by
            show _ = _
            rw [HR1.out.1, List.all_eq_true]
            intro y hy
            obtain ⟨j, hj, rfl⟩ := List.getElem_of_mem hy
            exact hall.out j hj (by omega)
          have HF2 := hide HR1.out.2
          have HEB := hide (Below.next HBR.out hbz)
          clear hall hbz HR1
          go_wp2
          go_ret2
          exact ⟨by rw [HF.out, HF2.out]; rfl, HEB.out⟩
end Go.Proofs.YtddhjnfcbpookaaDoor
