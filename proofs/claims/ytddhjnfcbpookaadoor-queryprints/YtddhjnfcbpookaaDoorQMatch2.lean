import Derived.Test.YtddhjnfcbpookaaDoorQMatch
import Derived.Test.YtddhjnfcbpookaaDoorQBound
namespace Go.Proofs.YtddhjnfcbpookaaDoor
open Go.RowKit

def mcondF (fs : List Fd) (c : Cd) : Nat := if fieldI fs c.field < 0 then 6 else if 1 ≤ c.sign ∧ c.sign ≤ 5 then packF [c.item] else 1
def rowF (items : List It) : Nat := firstN (fun x => packF [x]) items
def holdB (fs : List Fd) (items : List It) (c : Cd) : Bool := standsB (items.getD (fieldI fs c.field).toNat default) c
def matchD (fs : List Fd) (items : List It) (cs : List Cd) : Bool × Nat :=
  if items.length = fs.length then (if firstN (mcondF fs) cs = 0 then (if rowF items = 0 then (cs.all (holdB fs items), 0) else (false, rowF items)) else (false, firstN (mcondF fs) cs)) else (false, 1)
theorem cntL_mem {l : List It} {x : It} (h : x ∈ l) : x.cnt ≤ cntL l := by
  induction l with
  | nil => simp at h
  | cons d l ih =>
    have e : cntL (d :: l) = cntL [d] + cntL l := by rw [← cntL_append]; rfl
    rw [e, cnt_one]
    rcases List.mem_cons.1 h with rfl | h
    · omega
    · have := ih h; omega
theorem enc_item {x : It} {l : List It} (h : x ∈ l) (hs : cntL l ≤ 16777216) : (encL [x]).length ≤ 100000000000000 := by
  have h1 := enc_le _ [x] (Nat.le_refl _)
  rw [cnt_one] at h1
  have := cntL_mem h
  omega
theorem fieldI_lt (l : List Fd) (name : ByteArray) : fieldI l name < (l.length : Int) := by
  unfold fieldI
  cases h : l.findIdx? (fun f => decide (f.1 = name)) with
  | none => simp only; omega
  | some i =>
    have := (List.findIdx?_eq_some_iff_getElem.1 h).1
    simp only; omega
set_option maxHeartbeats 8000000 in
set_option maxRecDepth 100000 in
theorem match_any (tn : ByteArray) (fv iv cv rv : Value) (fs : List Fd) (id : Int) (items : List It) (l : List Cd) (w : World) (hf : FsAt w fv fs) (hiv : ∃ a n c, iv = .slice a n c) (hr0 : ItsAt w anyB rv items) (hc : CsAt w anyB cv l) (hsz : cntL items + cntC l ≤ 16777216) :
    Calls Tryd.prog 13 #[.agg (tV tn fv iv), .agg #[.int .i64 id, rv], cv] w fun e w' => e = .returned (.tuple #[.bool (matchD fs items l).1, .int .i64 ((matchD fs items l).2 : Nat)]) ∧ Below w.heap.size w w' := by
  obtain ⟨r, hr⟩ : ∃ r, r = matchD fs items l := ⟨_, rfl⟩
  rw [← hr]
  have HR := hide hr
  simp only [tV]
  obtain ⟨ca, cc, hcv⟩ := hc.form
  obtain ⟨fa, fc, hfv⟩ := hf.form
  obtain ⟨ra, rc, hrv⟩ := hr0.form
  obtain ⟨ia, im, ic, hiv⟩ := hiv
  subst hcv hfv hrv hiv
  have hlen := hc.len
  have hrlen := hr0.len_le
  have q1 := below_new w (.cells #[.string tn, .slice fa fs.length fc, .slice ia im ic] 25)
  have x1 := RowAt.new w #[.string tn, .slice fa fs.length fc, .slice ia im ic] 25
  have hs1 : (w.alloc (.cells #[.string tn, .slice fa fs.length fc, .slice ia im ic] 25)).heap.size = w.heap.size + 1 := by simp
  generalize hW1 : w.alloc (.cells #[.string tn, .slice fa fs.length fc, .slice ia im ic] 25) = W1 at q1 x1 hs1
  have q2 := below_new W1 (.cells #[.int .i64 id, .slice ra items.length rc] 28)
  have x2 := RowAt.new W1 #[.int .i64 id, .slice ra items.length rc] 28
  rw [hs1] at x2
  generalize hW2 : W1.alloc (.cells #[.int .i64 id, .slice ra items.length rc] 28) = W2 at q2 x2
  have HW : Hid ((w.alloc (.cells #[.string tn, .slice fa fs.length fc, .slice ia im ic] 25)).alloc (.cells #[.int .i64 id, .slice ra items.length rc] 28) = W2) := by rw [hW1]; exact hW2
  have hb2 := Below.next q1 q2
  have HX := hide (x1.below q2)
  have HY := hide x2
  have HF := hide (hf.keep hb2)
  have HI := hide (hr0.keep hb2)
  have HC := hide (hc.keep hb2)
  have HB := hide hb2
  have a1 : W2.cell? ⟨w.heap.size, 1, none⟩ = some (.slice fa fs.length fc) := HX.out.cell 1 (by simp)
  have b1 : W2.cell? ⟨w.heap.size + 1, 1, none⟩ = some (.slice ra items.length rc) := HY.out.cell 1 (by simp)
  rw [← hW2, ← hW1] at a1 b1
  have HSZ : Hid (cntL items + cntC l ≤ 16777216) := hsz
  clear hf hr0 hc q1 x1 hs1 q2 x2 hb2 hW1 hW2 hr hsz
  go_enter Tryd.func13, Tryd.ntmps13
  by_cases hll : items.length = fs.length
  · have hlb : ((items.length : Int) != (fs.length : Int)) = false := by simp [hll]
    have HR1 : Hid (r = if firstN (mcondF fs) l = 0 then (if rowF items = 0 then (l.all (holdB fs items), 0) else (false, rowF items)) else (false, firstN (mcondF fs) l)) := by show _ = _; rw [HR.out, matchD, if_pos hll]
    have HLL := hide hll
    clear HR hll
    go_wp2_with fail
    rw [HW.out] at a1 b1 ⊢
    go_loopw [8, 9, 10] (fun v _ _ wr => ∃ k : Nat, v = .int .i64 (k : Int) ∧ k ≤ l.length ∧ Hid (∀ j (h : j < l.length), j < k → mcondF fs l[j] = 0) ∧ Below W2.heap.size W2 wr) (fun v _ _ _ => l.length - (intOf v).toNat)
    case atStart => exact ⟨0, rfl, Nat.zero_le _, fun j _ h => by omega, Below.refl _ _⟩
    case round =>
      obtain ⟨k, rfl, hk, hall, hbl⟩ := hrel
      have HBL := hide hbl
      have A0 : wr.cell? ⟨w.heap.size, 0, none⟩ = some (.string tn) := (HX.out.below hbl).cell 0 (by simp)
      have A1 : wr.cell? ⟨w.heap.size, 1, none⟩ = some (.slice fa fs.length fc) := (HX.out.below hbl).cell 1 (by simp)
      have A2 : wr.cell? ⟨w.heap.size, 2, none⟩ = some (.slice ia im ic) := (HX.out.below hbl).cell 2 (by simp)
      by_cases hlt : k < l.length
      · have hltI : (k : Int) < (l.length : Int) := by omega
        have e0 : (0 : Int) ≤ (k : Int) := by omega
        obtain ⟨g, off, u, hca, -, hok, s0, s1, s2, s3, s4, s5, hin⟩ := (HC.out.keep hbl).get k hlt
        have HENC := hide (enc_one (List.getElem_mem hlt) (Nat.le_trans (Nat.le_add_left _ _) HSZ.out))
        have HST : Hid (mcondF fs (l[k]'hlt) ≠ 0 → r = (false, mcondF fs (l[k]'hlt))) := fun h => by
          have h1 := firstN_at l k hlt hall.out h
          rw [HR1.out, h1, if_neg h]
        have HAL : Hid (mcondF fs (l[k]'hlt) = 0 → ∀ j (h : j < l.length), j < k + 1 → mcondF fs l[j] = 0) := fun h0 j h hj => by
          by_cases e : j = k
          · subst e; exact h0
          · exact hall.out j h (by omega)
        obtain ⟨x, hx⟩ : ∃ x, x = l[k]'hlt := ⟨_, rfl⟩
        rw [← hx] at s0 s1 s2 s3 s4 hin HENC HST HAL hok
        have HJ : Hid (k + 1 ≤ l.length) := by show _ ≤ _; omega
        subst hca
        have HOK := hide hok
        have HFX := hide (fun W (hW : Below wr.heap.size wr W) => field_any tn x.field (.slice fa fs.length fc) (.slice ia im ic) fs W ((HF.out.keep hbl).keep hW) ⟨_, _, _, rfl⟩)
        obtain ⟨fi, hfi⟩ : ∃ fi, fi = fieldI fs x.field := ⟨_, rfl⟩
        rw [← hfi] at HFX
        have HMF : Hid (mcondF fs x = if fi < 0 then 6 else if 1 ≤ x.sign ∧ x.sign ≤ 5 then packF [x.item] else 1) := by show _ = _; rw [hfi]; rfl
        obtain ⟨ua, uc, hu⟩ := hin.form
        subst hu
        have HIN := hide hin
        have HS2 : Hid (∀ W, Below wr.heap.size wr W → W.cell? ⟨g, off + k * 6 + 1, none⟩ = some (.int .i64 x.sign) ∧ W.cell? ⟨g, off + k * 6 + 2, none⟩ = some (.int .i64 x.item.kind) ∧ W.cell? ⟨g, off + k * 6 + 3, none⟩ = some (.int .i64 x.item.num) ∧ W.cell? ⟨g, off + k * 6 + 4, none⟩ = some (.string x.item.text) ∧ W.cell? ⟨g, off + k * 6 + 5, none⟩ = some (.slice ua x.item.list.length uc)) := fun W hW => ⟨cell_below hW s1, cell_below hW s2, cell_below hW s3, cell_below hW s4, cell_below hW s5⟩
        clear hin hok hx hall hbl hfi a1 b1
        go_upto_region 6 with fail
        go_cut [36] from 23 to 63 (fun v wx => v = .bool (decide (fi < 0)) ∧ Below wr.heap.size wr wx)
        case first =>
          go_region_held3 (fun w' => w'.cell? ⟨w.heap.size, 0, none⟩ = some (.string tn) ∧ w'.cell? ⟨w.heap.size, 1, none⟩ = some (.slice fa fs.length fc) ∧ w'.cell? ⟨w.heap.size, 2, none⟩ = some (.slice ia im ic) ∧ w'.cell? ⟨g, off + k * 6, none⟩ = some (.string x.field)) (go_keep)
            (first | (go_at_call 23; refine (HFX.out _ ?_).mono ?_; (first | exact Below.refl _ _ | exact (Below.refl _ _).drew | exact below_drewN' (Below.refl _ _) _); rintro e w6 ⟨rfl, hg⟩; have HG : Hid (Below wr.heap.size wr w6) := ⟨hg.os, hg.tape, hg.output, hg.size, hg.block⟩; have k1 := cell_below HG.out A0; have k2 := cell_below HG.out A1; have k3 := cell_below HG.out A2; have k4 := cell_below HG.out s0; clear hg))
          all_goals
            clear A0 A1 A2 s0 k1 k2 k3 k4 HFX
            go_wp2_with fail
            go_meet
            exact ⟨rfl, HG.out⟩
        case rest =>
          obtain ⟨rfl, hbw⟩ := hcut
          obtain ⟨t1, t2, t3, t4, t5⟩ := HS2.out wc hbw
          have HBW := hide (Below.next HBL.out hbw)
          have HINW := hide (HIN.out.keep hbw)
          clear hbw HFX A0 A1 A2 s0 s1 s2 s3 s4 s5 HS2 HIN
          by_cases hf0 : fi < 0
          · have HE : Hid (r = (false, 6)) := by
              show _ = _
              have e6 : mcondF fs x = 6 := by rw [HMF.out, if_pos hf0]
              rw [HST.out (by omega), e6]
            have HEB := hide (Below.next HB.out HBW.out)
            have hfd : decide (fi < 0) = true := decide_eq_true hf0
            clear HST HAL HMF
            go_wp2
            go_ret2
            exact ⟨by rw [HE.out]; rfl, HEB.out⟩
          · have hfd : decide (fi < 0) = false := decide_eq_false hf0
            by_cases hs1 : x.sign < 1
            · have HE : Hid (r = (false, 1)) := by
                show _ = _
                have e6 : mcondF fs x = 1 := by rw [HMF.out, if_neg hf0, if_neg (by omega)]
                rw [HST.out (by omega), e6]
              have HEB := hide (Below.next HB.out HBW.out)
              clear HST HAL HMF
              go_wp2
              go_ret2
              exact ⟨by rw [HE.out]; rfl, HEB.out⟩
            · by_cases hs5 : 5 < x.sign
              · have HE : Hid (r = (false, 1)) := by
                  show _ = _
                  have e6 : mcondF fs x = 1 := by rw [HMF.out, if_neg hf0, if_neg (by omega)]
                  rw [HST.out (by omega), e6]
                have HEB := hide (Below.next HB.out HBW.out)
                clear HST HAL HMF
                go_wp2
                go_ret2
                exact ⟨by rw [HE.out]; rfl, HEB.out⟩
              · have e6 : mcondF fs x = packF [x.item] := by rw [HMF.out, if_neg hf0, if_pos (by omega)]
                have qp := below_new wc (.cells #[.int .i64 x.item.kind, .int .i64 x.item.num, .string x.item.text, .slice ua x.item.list.length uc] 59)
                have yp := RowAt.new wc #[.int .i64 x.item.kind, .int .i64 x.item.num, .string x.item.text, .slice ua x.item.list.length uc] 59
                have HPK := hide (rpack_any [x.item] (.slice (some ⟨wc.heap.size, 0, none⟩) 1 1) (wc.alloc (.cells #[.int .i64 x.item.kind, .int .i64 x.item.num, .string x.item.text, .slice ua x.item.list.length uc] 59)) (its_one yp trivial HOK.out.it (HINW.out.keep qp)) (fun _ => HENC.out))
                obtain ⟨pf, hpf⟩ : ∃ pf, pf = packF [x.item] := ⟨_, rfl⟩
                rw [← hpf] at e6 HPK
                rw [e6] at HST HAL
                generalize packT [x.item] = pt at HPK
                have HQP := hide qp
                clear hpf e6 HMF qp yp
                go_wp2_with fail
                refine HPK.out.mono ?_
                rintro e w5 ⟨rfl, hb5⟩
                have HB5 := hide (Below.next HBW.out (Below.next HQP.out hb5))
                clear hb5 HPK HQP t1 t2 t3 t4 t5
                by_cases h0 : pf = 0
                · subst h0
                  have HA := hide (HAL.out rfl)
                  clear HST HAL
                  go_wp2
                  go_roundw
                  case rel => exact ⟨k + 1, by go_num, HJ.out, HA.out, HB5.out⟩
                  case measure => simp [intOf]; omega
                · have h0I : ((pf : Int) != 0) = true := by simp; omega
                  have h0J : ¬ ((pf : Int) = 0) := by omega
                  have HE := hide (HST.out h0)
                  have HEB := hide (Below.next HB.out HB5.out)
                  clear HST HAL
                  go_wp2
                  go_ret2
                  exact ⟨by rw [HE.out]; rfl, HEB.out⟩
      · have hltI : ¬ (k : Int) < (l.length : Int) := by omega
        have HR2 : Hid (r = if rowF items = 0 then (l.all (holdB fs items), 0) else (false, rowF items)) := by
          show _ = _
          rw [HR1.out, if_pos (firstN_take (f := mcondF fs) l fun j h => hall.out j h (by omega))]
        have HM0 : Hid (∀ j (h : j < l.length), mcondF fs l[j] = 0) := fun j h => hall.out j h (by omega)
        clear hall hbl hlt HR1 a1 b1 A0 A1 A2
        generalize wr = wa at *
        go_wp2_with fail
        go_loopw [11, 12, 13] (fun v _ _ wr => ∃ k : Nat, v = .int .i64 (k : Int) ∧ k ≤ items.length ∧ Hid (∀ j (h : j < items.length), j < k → packF [items[j]] = 0) ∧ Below wa.heap.size wa wr) (fun v _ _ _ => items.length - (intOf v).toNat)
        case atStart => exact ⟨0, rfl, Nat.zero_le _, fun j _ h => by omega, Below.refl _ _⟩
        case round =>
          obtain ⟨i, rfl, hi, hall, hbl⟩ := hrel
          have hb9 := Below.next HBL.out hbl
          have HB9 := hide hb9
          have b1 : wr.cell? ⟨w.heap.size + 1, 1, none⟩ = some (.slice ra items.length rc) := (HY.out.below hb9).cell 1 (by simp)
          have HBQ := hide hbl
          by_cases hlt : i < items.length
          · have hltI : (i : Int) < (items.length : Int) := by omega
            have e0 : (0 : Int) ≤ (i : Int) := by omega
            obtain ⟨g, off, u, hra, hok, s0, s1, s2, s3, hin⟩ := (HI.out.keep hb9).get i hlt
            have HENC := hide (enc_item (List.getElem_mem hlt) (Nat.le_trans (Nat.le_add_right _ _) HSZ.out))
            have HST : Hid (packF [items[i]'hlt] ≠ 0 → r = (false, packF [items[i]'hlt])) := fun h => by
              have h1 : rowF items = packF [items[i]'hlt] := firstN_at (f := fun x => packF [x]) items i hlt hall.out h
              rw [HR2.out, h1, if_neg h]
            have HAL : Hid (packF [items[i]'hlt] = 0 → ∀ j (h : j < items.length), j < i + 1 → packF [items[j]] = 0) := fun h0 j h hj => by
              by_cases e : j = i
              · subst e; exact h0
              · exact hall.out j h (by omega)
            obtain ⟨x, hx⟩ : ∃ x, x = items[i]'hlt := ⟨_, rfl⟩
            rw [← hx] at s0 s1 s2 hin HENC HST HAL hok
            have HJ : Hid (i + 1 ≤ items.length) := by show _ ≤ _; omega
            subst hra
            obtain ⟨ua, uc, hu⟩ := hin.form
            subst hu
            have qp := below_new wr (.cells #[.int .i64 x.kind, .int .i64 x.num, .string x.text, .slice ua x.list.length uc] 59)
            have yp := RowAt.new wr #[.int .i64 x.kind, .int .i64 x.num, .string x.text, .slice ua x.list.length uc] 59
            have HPK := hide (rpack_any [x] (.slice (some ⟨wr.heap.size, 0, none⟩) 1 1) (wr.alloc (.cells #[.int .i64 x.kind, .int .i64 x.num, .string x.text, .slice ua x.list.length uc] 59)) (its_one yp trivial hok (hin.keep qp)) (fun _ => HENC.out))
            obtain ⟨pf, hpf⟩ : ∃ pf, pf = packF [x] := ⟨_, rfl⟩
            rw [← hpf] at HPK HST HAL
            generalize packT [x] = pt at HPK
            have HQP := hide qp
            clear hpf qp yp hin hok hx hall hbl hb9
            go_wp2_with fail
            refine HPK.out.mono ?_
            rintro e w5 ⟨rfl, hb5⟩
            have HB5 := hide (Below.next HBQ.out (Below.next HQP.out hb5))
            have HB6 := hide (Below.next HB9.out (Below.next HQP.out hb5))
            clear hb5 HPK HQP b1 s0 s1 s2 s3
            by_cases h0 : pf = 0
            · subst h0
              have HA := hide (HAL.out rfl)
              clear HST HAL
              go_wp2
              go_roundw
              case rel => exact ⟨i + 1, by go_num, HJ.out, HA.out, HB5.out⟩
              case measure => simp [intOf]; omega
            · have h0I : ((pf : Int) != 0) = true := by simp; omega
              have h0J : ¬ ((pf : Int) = 0) := by omega
              have HE := hide (HST.out h0)
              have HEB := hide (Below.next HB.out HB6.out)
              clear HST HAL
              go_wp2
              go_ret2
              exact ⟨by rw [HE.out]; rfl, HEB.out⟩
          · have hltI2 : ¬ (i : Int) < (items.length : Int) := by omega
            have HP0 : Hid (∀ j (h : j < items.length), packF [items[j]] = 0) := fun j h => hall.out j h (by omega)
            have HR3 : Hid (r = (l.all (holdB fs items), 0)) := by
              show _ = _
              have e0 : rowF items = 0 := firstN_take (f := fun x => packF [x]) items fun j h => hall.out j h (by omega)
              rw [HR2.out, if_pos e0]
            clear hall hbl hlt HR2 HBQ hb9
            generalize wr = wb at *
            go_wp2_with fail
            clear b1
            go_loopw [14, 15] (fun v _ wr => ∃ k : Nat, v = .int .i64 (k : Int) ∧ k ≤ l.length ∧ Hid (∀ j (h : j < l.length), j < k → holdB fs items l[j] = true) ∧ Below wb.heap.size wb wr) (fun v _ _ => l.length - (intOf v).toNat)
            case atStart => exact ⟨0, rfl, Nat.zero_le _, fun j _ h => by omega, Below.refl _ _⟩
            case round =>
              obtain ⟨j, rfl, hj, hall, hbl⟩ := hrel
              have HBL3 := hide hbl
              have hb8 := Below.next HB9.out hbl
              have HB8 := hide hb8
              have A0 : wr.cell? ⟨w.heap.size, 0, none⟩ = some (.string tn) := (HX.out.below hb8).cell 0 (by simp)
              have A1 : wr.cell? ⟨w.heap.size, 1, none⟩ = some (.slice fa fs.length fc) := (HX.out.below hb8).cell 1 (by simp)
              have A2 : wr.cell? ⟨w.heap.size, 2, none⟩ = some (.slice ia im ic) := (HX.out.below hb8).cell 2 (by simp)
              have b1 : wr.cell? ⟨w.heap.size + 1, 1, none⟩ = some (.slice ra items.length rc) := (HY.out.below hb8).cell 1 (by simp)
              by_cases hjl : j < l.length
              · have hjI : (j : Int) < (l.length : Int) := by omega
                have j0 : (0 : Int) ≤ (j : Int) := by omega
                obtain ⟨g, off, u, hca, -, hok, s0, s1, s2, s3, s4, s5, hin⟩ := (HC.out.keep hb8).get j hjl
                have hm0 := HM0.out j hjl
                have HNO : Hid (holdB fs items (l[j]'hjl) = false → r = (false, 0)) := fun h => by
                  have : l.all (holdB fs items) = false := List.all_eq_false.2 ⟨l[j]'hjl, List.getElem_mem hjl, by simp [h]⟩
                  rw [HR3.out, this]
                have HYES : Hid (holdB fs items (l[j]'hjl) = true → ∀ i (h : i < l.length), i < j + 1 → holdB fs items l[i] = true) := fun h0 i h hi => by
                  by_cases e : i = j
                  · subst e; exact h0
                  · exact hall.out i h (by omega)
                obtain ⟨x, hx⟩ : ∃ x, x = l[j]'hjl := ⟨_, rfl⟩
                rw [← hx] at s0 s1 s2 s3 s4 hin hok hm0 HNO HYES
                have HJ : Hid (j + 1 ≤ l.length) := by show _ ≤ _; omega
                have hfi0 : ¬ fieldI fs x.field < 0 := fun h => by rw [mcondF, if_pos h] at hm0; omega
                have hpk : packF [x.item] = 0 := by
                  rw [mcondF, if_neg hfi0] at hm0
                  by_cases e : 1 ≤ x.sign ∧ x.sign ≤ 5
                  · rw [if_pos e] at hm0; exact hm0
                  · rw [if_neg e] at hm0; omega
                have hflt := fieldI_lt fs x.field
                obtain ⟨N, hN⟩ : ∃ N : Nat, fieldI fs x.field = (N : Int) := ⟨(fieldI fs x.field).toNat, by omega⟩
                have hNl : N < items.length := by have := HLL.out; omega
                obtain ⟨gr, orr, ur, hra, hrok, r0, r1, r2, r3, hrin⟩ := (HI.out.keep hb8).get N hNl
                have hy0 := HP0.out N hNl
                have HHB : Hid (holdB fs items x = standsB (items[N]'hNl) x) := by
                  show _ = _
                  rw [holdB, hN, Int.toNat_natCast, List.getD_eq_getElem?_getD, List.getElem?_eq_getElem hNl]; rfl
                obtain ⟨y, hy⟩ : ∃ y, y = items[N]'hNl := ⟨_, rfl⟩
                rw [← hy] at r0 r1 r2 hrin hy0 HHB
                subst hca hra
                obtain ⟨ua, uc, hu⟩ := hin.form
                obtain ⟨va, vc, hv⟩ := hrin.form
                subst hu hv
                have HFX := hide (fun W (hW : Below wr.heap.size wr W) => field_any tn x.field (.slice fa fs.length fc) (.slice ia im ic) fs W ((HF.out.keep hb8).keep hW) ⟨_, _, _, rfl⟩)
                rw [hN] at HFX
                have HSX := hide (fun W (hW : Below wr.heap.size wr W) => stands_any y x (.slice va y.list.length vc) (.slice ua x.item.list.length uc) W (pack_one hy0) (pack_one hpk) (hrin.keep hW) (hin.keep hW))
                obtain ⟨sb, hsb⟩ : ∃ sb, sb = standsB y x := ⟨_, rfl⟩
                rw [← hsb] at HSX HHB
                rw [HHB.out] at HNO HYES
                have hNI : (N : Int) < (items.length : Int) := by omega
                have N0 : (0 : Int) ≤ (N : Int) := by omega
                clear hin hok hx hall hbl hb8 hm0 hfi0 hpk hflt hN hrok hrin hy0 hy hsb HHB
                go_upto_region 22 with fail
                go_cut [15] from 84 to 107 (fun v wx => v = .bool sb ∧ Below wr.heap.size wr wx)
                case first =>
                  go_region_held3 (fun w' => w'.cell? ⟨w.heap.size, 0, none⟩ = some (.string tn) ∧ w'.cell? ⟨w.heap.size, 1, none⟩ = some (.slice fa fs.length fc) ∧ w'.cell? ⟨w.heap.size, 2, none⟩ = some (.slice ia im ic) ∧ w'.cell? ⟨w.heap.size + 1, 1, none⟩ = some (.slice (some ⟨gr, orr, none⟩) items.length rc) ∧ w'.cell? ⟨g, off + j * 6, none⟩ = some (.string x.field) ∧ w'.cell? ⟨g, off + j * 6 + 1, none⟩ = some (.int .i64 x.sign) ∧ w'.cell? ⟨g, off + j * 6 + 2, none⟩ = some (.int .i64 x.item.kind) ∧ w'.cell? ⟨g, off + j * 6 + 3, none⟩ = some (.int .i64 x.item.num) ∧ w'.cell? ⟨g, off + j * 6 + 4, none⟩ = some (.string x.item.text) ∧ w'.cell? ⟨g, off + j * 6 + 5, none⟩ = some (.slice ua x.item.list.length uc) ∧ w'.cell? ⟨gr, orr + N * 4, none⟩ = some (.int .i64 y.kind) ∧ w'.cell? ⟨gr, orr + N * 4 + 1, none⟩ = some (.int .i64 y.num) ∧ w'.cell? ⟨gr, orr + N * 4 + 2, none⟩ = some (.string y.text) ∧ w'.cell? ⟨gr, orr + N * 4 + 3, none⟩ = some (.slice va y.list.length vc)) (go_keep)
                    (first
                      | (go_at_call 23; refine (HFX.out _ ?_).mono ?_; (first | exact Below.refl _ _ | exact (Below.refl _ _).drew | exact below_drewN' (Below.refl _ _) _); rintro e w6 ⟨rfl, hg⟩; have HG : Hid (Below wr.heap.size wr w6) := ⟨hg.os, hg.tape, hg.output, hg.size, hg.block⟩; have k0 := cell_below HG.out A0; have k1 := cell_below HG.out A1; have k2 := cell_below HG.out A2; have k3 := cell_below HG.out b1; have k4 := cell_below HG.out s0; have k5 := cell_below HG.out s1; have k6 := cell_below HG.out s2; have k7 := cell_below HG.out s3; have k8 := cell_below HG.out s4; have k9 := cell_below HG.out s5; have l0 := cell_below HG.out r0; have l1 := cell_below HG.out r1; have l2 := cell_below HG.out r2; have l3 := cell_below HG.out r3; clear hg)
                      | (go_at_call 30; refine (HSX.out _ ?_).mono ?_; (first | exact HG.out | exact HG.out.drew | exact below_drewN' HG.out _); rintro e w7 ⟨rfl, hg⟩; have HG7 : Hid (Below wr.heap.size wr w7) := Below.next HG.out ⟨hg.os, hg.tape, hg.output, hg.size, hg.block⟩; have m0 := cell_below HG7.out A0; have m1 := cell_below HG7.out A1; have m2 := cell_below HG7.out A2; have m3 := cell_below HG7.out b1; have m4 := cell_below HG7.out s0; have m5 := cell_below HG7.out s1; have m6 := cell_below HG7.out s2; have m7 := cell_below HG7.out s3; have m8 := cell_below HG7.out s4; have m9 := cell_below HG7.out s5; have n0 := cell_below HG7.out r0; have n1 := cell_below HG7.out r1; have n2 := cell_below HG7.out r2; have n3 := cell_below HG7.out r3; clear hg))
                  all_goals
                    clear A0 A1 A2 b1 s0 s1 s2 s3 s4 s5 r0 r1 r2 r3 k0 k1 k2 k3 k4 k5 k6 k7 k8 k9 l0 l1 l2 l3 m0 m1 m2 m3 m4 m5 m6 m7 m8 m9 n0 n1 n2 n3 HFX HSX
                    go_wp2_with fail
                    go_meet
                    exact ⟨rfl, HG7.out⟩
                case rest =>
                  obtain ⟨rfl, hbw⟩ := hcut
                  have HBW := hide (Below.next HBL3.out hbw)
                  have HBE := hide (Below.next HB.out (Below.next HB8.out hbw))
                  clear hbw HFX HSX A0 A1 A2 b1 s0 s1 s2 s3 s4 s5 r0 r1 r2 r3
                  cases sb with
                  | true =>
                    have HA := hide (HYES.out rfl)
                    clear HYES HNO
                    go_wp2
                    go_roundw
                    case rel => exact ⟨j + 1, by go_num, HJ.out, HA.out, HBW.out⟩
                    case measure => simp [intOf]; omega
                  | false =>
                    have HE := hide (HNO.out rfl)
                    clear HYES HNO
                    go_wp2
                    go_ret2
                    exact ⟨by rw [HE.out]; rfl, HBE.out⟩
              · have hjI : ¬ (j : Int) < (l.length : Int) := by omega
                have HE : Hid (r = (true, 0)) := by
                  show _ = _
                  have : l.all (holdB fs items) = true := by
                    rw [List.all_eq_true]
                    intro y hy
                    obtain ⟨i, hi, rfl⟩ := List.getElem_of_mem hy
                    exact hall.out i hi (by omega)
                  rw [HR3.out, this]
                have HBE := hide (Below.next HB.out HB8.out)
                clear hall hbl hb8 A0 A1 A2 b1
                go_wp2
                go_ret2
                exact ⟨by rw [HE.out]; rfl, HBE.out⟩
  · have hlb : ((items.length : Int) != (fs.length : Int)) = true := by simp; omega
    have hlb2 : ¬ ((items.length : Int) = (fs.length : Int)) := by omega
    have HE : Hid (r = (false, 1)) := by show _ = _; rw [HR.out, matchD, if_neg hll]
    clear HR
    go_wp2
    go_ret2
    exact ⟨by rw [HE.out]; rfl, by rw [HW.out]; exact HB.out⟩
end Go.Proofs.YtddhjnfcbpookaaDoor
