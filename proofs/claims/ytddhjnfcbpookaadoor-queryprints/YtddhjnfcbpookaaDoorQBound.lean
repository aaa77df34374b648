import Derived.Test.YtddhjnfcbpookaaDoorQFault
namespace Go.Proofs.YtddhjnfcbpookaaDoor
open Go.RowKit

/-! Which fields are bound. -/
def bindsB (fs : List Fd) (n : Nat) (kind : Int) (c : Cd) : Bool := decide (c.sign = 1 ∧ fieldI fs c.field = (n : Int) ∧ (c.item.kind = 1 ∨ c.item.kind = kind))
def boundB (fs : List Fd) (cs : List Cd) (n : Int) : Bool := if h : 0 ≤ n ∧ n.toNat < fs.length then cs.any (bindsB fs n.toNat (fs[n.toNat]'h.2).2) else false
/-- A table's row: its name, fields and indexes. -/
abbrev tV (tn : ByteArray) (fv iv : Value) : Array Value := #[.string tn, fv, iv]
set_option maxHeartbeats 4000000 in
set_option maxRecDepth 100000 in
theorem bound_any (tn : ByteArray) (fv iv cv : Value) (fs : List Fd) (q : Qd) (n : Int) (w : World) (hf : FsAt w fv fs) (hiv : ∃ a n c, iv = .slice a n c) (hc : CsAt w anyB cv q.cs) :
    Calls Tryd.prog 24 #[.agg (tV tn fv iv), .agg (qV q cv), .int .i64 n] w fun e w' => e = .returned (.bool (boundB fs q.cs n)) ∧ Below w.heap.size w w' := by
  obtain ⟨t, l, o, f, m⟩ := q
  simp only [qV, tV] at hc ⊢
  obtain ⟨r, hr⟩ : ∃ r, r = boundB fs l n := ⟨_, rfl⟩
  rw [← hr]
  have HR := hide hr
  obtain ⟨ca, cc, hcv⟩ := hc.form
  obtain ⟨fa, fc, hfv⟩ := hf.form
  obtain ⟨ia, im, ic, hiv⟩ := hiv
  subst hcv hfv hiv
  have hlen := hc.len
  have hflen := hf.len
  have q1 := below_new w (.cells #[.string tn, .slice fa fs.length fc, .slice ia im ic] 25)
  have x1 := RowAt.new w #[.string tn, .slice fa fs.length fc, .slice ia im ic] 25
  have hs1 : (w.alloc (.cells #[.string tn, .slice fa fs.length fc, .slice ia im ic] 25)).heap.size = w.heap.size + 1 := by simp
  generalize hW1 : w.alloc (.cells #[.string tn, .slice fa fs.length fc, .slice ia im ic] 25) = W1 at q1 x1 hs1
  have q2 := below_new W1 (.cells #[.string t, .slice ca l.length cc, .string o, .bool f, .int .i64 m] 31)
  have x2 := RowAt.new W1 #[.string t, .slice ca l.length cc, .string o, .bool f, .int .i64 m] 31
  rw [hs1] at x2
  generalize hW2 : W1.alloc (.cells #[.string t, .slice ca l.length cc, .string o, .bool f, .int .i64 m] 31) = W2 at q2 x2
  have HW : Hid ((w.alloc (.cells #[.string tn, .slice fa fs.length fc, .slice ia im ic] 25)).alloc (.cells #[.string t, .slice ca l.length cc, .string o, .bool f, .int .i64 m] 31) = W2) := by rw [hW1]; exact hW2
  have hb2 := Below.next q1 q2
  have HX := hide (x1.below q2)
  have HY := hide x2
  have HF := hide (hf.keep hb2)
  have HC := hide (hc.keep hb2)
  have HB := hide hb2
  have t1 : W2.cell? ⟨w.heap.size, 1, none⟩ = some (.slice fa fs.length fc) := (x1.below q2).cell 1 (by simp)
  rw [← hW2, ← hW1] at t1
  clear hf hc q1 x1 hs1 q2 x2 hb2 hW1 hW2 hr
  by_cases hn0 : n < 0
  · have HE : Hid (r = false) := by show _ = _; rw [HR.out, boundB, dif_neg (by omega)]
    go_enter Tryd.func24, Tryd.ntmps24
    go_wp2
    go_ret
    exact ⟨by rw [HE.out]; rfl, by rw [HW.out]; exact HB.out⟩
  by_cases hn1 : (fs.length : Int) ≤ n
  · have HE : Hid (r = false) := by show _ = _; rw [HR.out, boundB, dif_neg (by omega)]
    go_enter Tryd.func24, Tryd.ntmps24
    go_wp2
    go_ret
    exact ⟨by rw [HE.out]; rfl, by rw [HW.out]; exact HB.out⟩
  obtain ⟨N, hN⟩ : ∃ N : Nat, n = (N : Int) := ⟨n.toNat, by omega⟩
  subst hN
  have hNl : N < fs.length := by omega
  obtain ⟨kk, hkk⟩ : ∃ kk, kk = (fs[N]'hNl).2 := ⟨_, rfl⟩
  have HRR : Hid (r = l.any (bindsB fs N kk)) := by
    show _ = _
    rw [HR.out, boundB, dif_pos ⟨by omega, by simpa using hNl⟩, hkk]
    simp only [Int.toNat_natCast]
  obtain ⟨g0, off0, hfa, -, k1⟩ := HF.out.get N hNl
  rw [← hkk] at k1
  have HFA := hide hfa
  subst hfa
  have HK1 := hide k1
  clear hkk k1 HR
  have hNI : (N : Int) < (fs.length : Int) := by omega
  have n0 : (0 : Int) ≤ (N : Int) := by omega
  go_enter Tryd.func24, Tryd.ntmps24
  go_wp2
  rw [HW.out] at t1 ⊢
  go_loopw [7, 8, 9] (fun v _ _ wr => ∃ k : Nat, v = .int .i64 (k : Int) ∧ k ≤ l.length ∧ Hid (∀ j (h : j < l.length), j < k → bindsB fs N kk l[j] = false) ∧ Below W2.heap.size W2 wr) (fun v _ _ _ => l.length - (intOf v).toNat)
  case atStart => exact ⟨0, rfl, Nat.zero_le _, fun j _ h => by omega, Below.refl _ _⟩
  case round =>
    obtain ⟨k, rfl, hk, hall, hbl⟩ := hrel
    have d1 := (HY.out.below hbl).q5.2.1
    have r1 := (HX.out.below hbl)
    have a1 := r1.cell 1 (by simp)
    have a0 := r1.cell 0 (by simp)
    have a2 := r1.cell 2 (by simp)
    simp only [List.getElem_toArray, List.getElem_cons_zero, List.getElem_cons_succ] at a0 a1 a2
    have kk1 := cell_below hbl HK1.out
    have HBL := hide hbl
    by_cases hlt : k < l.length
    · have hltI : (k : Int) < (l.length : Int) := by omega
      have e0 : (0 : Int) ≤ (k : Int) := by omega
      obtain ⟨g, off, u, hca, -, hok, s0, s1, s2, s3, s4, s5, hin⟩ := (HC.out.keep hbl).get k hlt
      have HT : Hid (bindsB fs N kk (l[k]'hlt) = true → r = true) := fun h => by
        rw [HRR.out, List.any_eq_true]
        exact ⟨l[k]'hlt, List.getElem_mem hlt, h⟩
      have HN : Hid (bindsB fs N kk (l[k]'hlt) = false → ∀ j (h : j < l.length), j < k + 1 → bindsB fs N kk l[j] = false) := fun h0 j h hj => by
        by_cases e : j = k
        · subst e; exact h0
        · exact hall.out j h (by omega)
      obtain ⟨x, hx⟩ : ∃ x, x = l[k]'hlt := ⟨_, rfl⟩
      rw [← hx] at s0 s1 s2 s3 s4 hin HT HN
      have HJ : Hid (k + 1 ≤ l.length) := by show _ ≤ _; omega
      subst hca
      obtain ⟨ua, uc, hu⟩ := hin.form
      subst hu
      have qv := below_new wr (.cells #[.string x.field, .int .i64 x.sign, .int .i64 x.item.kind, .int .i64 x.item.num, .string x.item.text, .slice ua x.item.list.length uc] 61)
      have yv := RowAt.new wr #[.string x.field, .int .i64 x.sign, .int .i64 x.item.kind, .int .i64 x.item.num, .string x.item.text, .slice ua x.item.list.length uc] 61
      obtain ⟨V1, hV1⟩ : ∃ V1, wr.alloc (.cells #[.string x.field, .int .i64 x.sign, .int .i64 x.item.kind, .int .i64 x.item.num, .string x.item.text, .slice ua x.item.list.length uc] 61) = V1 := ⟨_, rfl⟩
      rw [hV1] at qv yv
      obtain ⟨v0, v1, v2, v3, v4, v5⟩ := yv.q6
      have HV1 := hide hV1
      have b0 := cell_below qv a0
      have b1 := cell_below qv a1
      have b2 := cell_below qv a2
      have kk2 := cell_below qv kk1
      have HQV := hide (Below.next hbl qv)
      have HFD := hide (fun W (hW : Below V1.heap.size V1 W) => field_any tn x.field (.slice (some ⟨g0, off0, none⟩) fs.length fc) (.slice ia im ic) fs W (((HF.out.keep hbl).keep qv).keep hW) ⟨_, _, _, rfl⟩)
      obtain ⟨fi, hfi⟩ : ∃ fi, fi = fieldI fs x.field := ⟨_, rfl⟩
      rw [← hfi] at HFD
      have HFI := hide hfi
      clear hin hok hx hall hbl qv yv hV1 hfi
      obtain ⟨KB, hKB⟩ : ∃ KB, KB = decide (x.item.kind = 1 ∨ x.item.kind = kk) := ⟨_, rfl⟩
      have HKB := hide hKB
      clear hKB
      go_upto_region 7 with fail
      rw [HV1.out]
      go_cut [9] from 19 to 60 (fun v wx => v = .bool KB ∧ Below V1.heap.size V1 wx)
      case first =>
        by_cases hk1 : x.item.kind = 1
        · have h1 : (x.item.kind == 1) = true := by simp [hk1]
          have HV : Hid (KB = true) := by show _ = _; rw [HKB.out]; simp [hk1]
          clear hk1
          go_quiet (fail)
          go_wp2_with fail
          go_meet
          exact ⟨by rw [HV.out], below_drewN' (Below.refl _ _) _⟩
        · have h1 : (x.item.kind == 1) = false := by simp [hk1]
          have HV : Hid (KB = (x.item.kind == kk)) := by
            show _ = _
            rw [HKB.out]
            by_cases h2 : x.item.kind = kk
            · simp [h2]
            · simp [hk1, h2]
          clear hk1
          go_quiet (fail)
          go_wp2_with fail
          go_meet
          exact ⟨by rw [HV.out], below_drewN' (Below.refl _ _) _⟩
      case rest =>
        obtain ⟨rfl, hbw⟩ := hcut
        have HBW := hide (Below.next HQV.out hbw)
        have HFW := hide (HFD.out wc hbw)
        have p0 := cell_below hbw b0
        have p1 := cell_below hbw b1
        have p2 := cell_below hbw b2
        have w0' := cell_below hbw v0
        have w1' := cell_below hbw v1
        clear hbw HFD b0 b1 b2 kk1 kk2 v0 v1 v2 v3 v4 v5 a0 a1 a2 s0 s1 s2 s3 s4 s5 d1
        have HX2 : Hid (bindsB fs N kk x = (decide (x.sign = 1 ∧ fi = (N : Int)) && KB)) := by
          show _ = _
          rw [bindsB, HKB.out, HFI.out]
          by_cases e1 : x.sign = 1 <;> by_cases e2 : fieldI fs x.field = (N : Int) <;> by_cases e3 : (x.item.kind = 1 ∨ x.item.kind = kk) <;> simp [e1, e2, e3]
        by_cases hs1 : x.sign = 1
        · have h1 : (x.sign == 1) = true := by simp [hs1]
          by_cases hfn : fi = (N : Int)
          · have h2 : (fi == (N : Int)) = true := by simp [hfn]
            cases KB with
            | true =>
              have HE : Hid (r = true) := HT.out (by rw [HX2.out]; simp [hs1, hfn])
              clear hs1 hfn HT HN HX2 HKB
              go_wp2_with fail
              refine HFW.out.mono ?_
              rintro e w6 ⟨rfl, hb6⟩
              have HEB := hide (Below.next HB.out (Below.next HBW.out hb6))
              clear hb6 HFW p0 p1 p2 w0' w1'
              go_wp2
              go_ret
              exact ⟨by rw [HE.out]; rfl, HEB.out⟩
            | false =>
              have HA := hide (HN.out (by rw [HX2.out]; simp))
              clear hs1 hfn HT HN HX2 HKB
              go_wp2_with fail
              refine HFW.out.mono ?_
              rintro e w6 ⟨rfl, hb6⟩
              have HEB := hide (Below.next HBW.out hb6)
              clear hb6 HFW p0 p1 p2 w0' w1'
              go_wp2
              go_roundw
              case rel => exact ⟨k + 1, by go_num, HJ.out, HA.out, HEB.out⟩
              case measure => simp [intOf]; omega
          · have h2 : (fi == (N : Int)) = false := by simp [hfn]
            have HA := hide (HN.out (by rw [HX2.out]; simp [hfn]))
            clear hs1 hfn HT HN HX2 HKB
            go_wp2_with fail
            refine HFW.out.mono ?_
            rintro e w6 ⟨rfl, hb6⟩
            have HEB := hide (Below.next HBW.out hb6)
            clear hb6 HFW p0 p1 p2 w0' w1'
            go_wp2
            go_roundw
            case rel => exact ⟨k + 1, by go_num, HJ.out, HA.out, HEB.out⟩
            case measure => simp [intOf]; omega
        · have h1 : (x.sign == 1) = false := by simp [hs1]
          have HA := hide (HN.out (by rw [HX2.out]; simp [hs1]))
          clear hs1 HT HN HX2 HKB HFW
          go_wp2
          go_roundw
          case rel => exact ⟨k + 1, by go_num, HJ.out, HA.out, HBW.out⟩
          case measure => simp [intOf]; omega
    · have hltI : ¬ (k : Int) < (l.length : Int) := by omega
      have HE : Hid (r = false) := by
        show _ = _
        rw [HRR.out, List.any_eq_false]
        intro y hy
        obtain ⟨j, hj, rfl⟩ := List.getElem_of_mem hy
        rw [hall.out j hj (by omega)]
        simp
      have HEB := hide (Below.next HB.out hbl)
      clear hall hbl
      go_wp2
      go_ret
      exact ⟨by rw [HE.out]; rfl, HEB.out⟩
end Go.Proofs.YtddhjnfcbpookaaDoor
