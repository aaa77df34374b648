import Derived.Test.YtageokjobbjddaaGreatDoorPRdB
import Derived.Test.YtageokjobbjddaaGreatDoorPWr3
namespace Go.Proofs.YtageokjobbjddaaGreatDoor
open Go.RowKit

/-! A text, cut off. -/
def ptx (l : List UInt8) : Option (List UInt8 × List UInt8) := (qtx l).map fun q => (q.1, l.drop q.2)
theorem ptx_nil : ptx [] = none := by simp [ptx, qtx]
theorem ptx_end (r : List UInt8) : ptx (34 :: r) = some ([], r) := by
  unfold ptx
  rw [qtx, if_pos rfl]
  rfl
theorem byteD_le (c : UInt8) (r : List UInt8) : (byteD (c :: r)).2 ≤ (c :: r).length := by
  unfold byteD
  simp only
  split
  · exact (escD_le _).1
  split <;> simp
theorem ptx_bad (c : UInt8) (r : List UInt8) (h : c ≠ 34) (hb : (byteD (c :: r)).2 = 0) : ptx (c :: r) = none := by
  unfold ptx
  rw [qtx, if_neg h]
  by_cases h2 : c.toNat < 32 ∨ 126 < c.toNat
  · rw [if_pos h2]; rfl
  · rw [if_neg h2]
    by_cases h3 : c = 92
    · have hb2 : (escD (c :: r)).2 = 0 := by
        rw [byteD, if_pos h3] at hb; exact hb
      rw [if_pos h3, dif_pos hb2]; rfl
    · rw [byteD, if_neg h3, if_neg h2] at hb
      cases hb
theorem ptx_step (c : UInt8) (r : List UInt8) (h : c ≠ 34) (hb : (byteD (c :: r)).2 ≠ 0) : ptx (c :: r) = (ptx ((c :: r).drop (byteD (c :: r)).2)).map fun q => ((byteD (c :: r)).1 :: q.1, q.2) := by
  unfold ptx
  rw [qtx, if_neg h]
  by_cases h2 : c.toNat < 32 ∨ 126 < c.toNat
  · exfalso
    apply hb
    have h3 : c ≠ 92 := fun e => by rw [e] at h2; revert h2; decide
    rw [byteD, if_neg h3, if_pos h2]
  · rw [if_neg h2]
    by_cases h3 : c = 92
    · rw [byteD, if_pos h3] at hb ⊢
      rw [if_pos h3, dif_neg hb, Option.map_map, Option.map_map]
      congr 1
      funext q
      simp only [Function.comp, List.drop_drop]
      rw [Nat.add_comm]
    · rw [byteD, if_neg h3, if_neg h2]
      rw [if_neg h3, Option.map_map, Option.map_map]
      rfl
def textD (l : List UInt8) : Pt × List UInt8 := match ptx l with | none => (ptBad, []) | some q => (⟨5, ⟨q.1.toArray⟩, 0⟩, q.2)
def acat (o : List UInt8) (x : Option (List UInt8 × List UInt8)) : Option (List UInt8 × List UInt8) := x.map fun q => (o ++ q.1, q.2)
theorem acat_map (o : List UInt8) (c : UInt8) (x : Option (List UInt8 × List UInt8)) : acat o (x.map fun q => (c :: q.1, q.2)) = acat (o ++ [c]) x := by
  cases x <;> simp [acat]
theorem ba_list' (l : List UInt8) : (⟨l.toArray⟩ : ByteArray).data.toList = l := rfl
theorem ex_drop (s : ByteArray) (n : Nat) : (s.extract n s.size).data.toList = s.data.toList.drop n := by
  rw [ByteArray.data_extract, Array.toList_extract]
  simp
  exact List.take_of_length_le (by rw [List.length_drop, q_len]; exact Nat.le_refl _)
theorem ba_drop (s : ByteArray) (n : Nat) : s.extract n s.size = ⟨(s.data.toList.drop n).toArray⟩ := by
  rw [← ex_drop]
set_option maxHeartbeats 4000000 in
set_option maxRecDepth 100000 in
theorem pcuttext_any (s : ByteArray) (te : TypeId) (pe : Value) (w : World) (hs : s.size ≤ 1000000) (hv : w.cell? ⟨19, 0, none⟩ = some (.iface te pe)) :
    Calls Tryz.prog 68 #[.string s] w fun e w' => e = .returned (.tuple #[.agg (ptV (textD s.data.toList).1), .string ⟨(textD s.data.toList).2.toArray⟩]) ∧ Below w.heap.size w w' := by
  have hG : 19 < w.heap.size := World.block_lt_of_cell? w _ hv
  have q1 := below_new w (.cells (ptV pt0) 67)
  have x1 := RowAt.new w (ptV pt0) 67
  unfold pt0 ptV at q1 x1
  obtain ⟨W1, hW1⟩ : ∃ W1, w.alloc (.cells #[.int .i64 0, .string ⟨#[]⟩, .int .i64 0] 67) = W1 := ⟨_, rfl⟩
  rw [hW1] at q1 x1
  have HW := hide hW1
  have HX := hide x1
  have HB := hide q1
  obtain ⟨R0, hR0⟩ : ∃ R0, R0 = ptx s.data.toList := ⟨_, rfl⟩
  obtain ⟨r, hr⟩ : ∃ r, r = textD s.data.toList := ⟨_, rfl⟩
  rw [← hr]
  unfold textD at hr
  rw [← hR0] at hr
  have HN : Hid (R0 = none → r = (ptBad, [])) := fun e => by rw [hr, e]
  have HS : Hid (∀ p l, R0 = some (p, l) → r = (⟨5, ⟨p.toArray⟩, 0⟩, l)) := fun p l e => by rw [hr, e]
  have HST : Hid (R0 = acat [] (ptx s.data.toList)) := by
    show _ = _
    rw [← hR0]
    cases R0 <;> simp [acat]
  have HV : Hid (∀ wr, Below W1.heap.size W1 wr → wr.cell? ⟨19, 0, none⟩ = some (.iface te pe)) := fun wr h => (Below.cell (Below.next q1 h) (p := ⟨19, 0, none⟩) hG).trans hv
  obtain ⟨s0, hs0⟩ : ∃ s0, s0 = s := ⟨_, rfl⟩
  have HSZ : Hid (s0.size ≤ 1000000) := by show _ ≤ _; rw [hs0]; exact hs
  clear hr hR0 hv hW1 q1 x1 hG
  go_enter Tryz.func68, Tryz.ntmps68
  go_wp2_with fail
  rw [HW.out]
  go_loopw [0, 4, 5, 6] (fun tv ov _ _ wr => ∃ (t : ByteArray) (o : List UInt8) (a : Option Addr) (c : Nat), tv = .string t ∧ ov = .slice a o.length c ∧ t.size + o.length ≤ 1000000 ∧ Hid (R0 = acat o (ptx t.data.toList)) ∧ Hid (Byt wr W1.heap.size (.slice a o.length c) o) ∧ Hid (Gr W1.heap.size W1 wr)) (fun tv _ _ _ _ => match tv with | .string t => t.size | _ => 0)
  case atStart => exact ⟨s, [], none, 0, rfl, rfl, by simpa using hs, HST, Byt.nil _ _, Gr.of (Below.refl _ _) (Nat.le_refl _)⟩
  case round =>
    obtain ⟨t, o, a, c, rfl, rfl, hsz, hq, hb, hbl⟩ := hrel
    have hbs : W1.heap.size ≤ wr.heap.size := hbl.out.size
    have hrow := HX.out.below hbl.out.bel
    have HBW := hide (Below.next HB.out hbl.out.bel)
    by_cases h0 : t = ⟨#[]⟩
    · subst h0
      have hqe : ((⟨#[]⟩ : ByteArray).toList == (⟨#[]⟩ : ByteArray).toList) = true := str_eq _
      have HE : Hid (r = (ptBad, [])) := HN.out (by rw [hq.out, show (⟨#[]⟩ : ByteArray).data.toList = [] from rfl, ptx_nil]; rfl)
      have HST2 := hide (store_row wr w.heap.size 67 _ #[.int .i64 1, .string ⟨#[]⟩, .int .i64 0] hrow (by kernel_rfl) rfl (by simp [Value.oneCell']))
      have HR2 := hide hrow
      clear hq hb hbl HN HS HST HV hrow
      go_wp2_with (refine wpList_store_eq rfl 67 _ _ rfl _ _ rfl rfl HST2.out ?_)
      refine bodyPost_ret (results_row_tmp rfl _ _ w.heap.size 67 _ (0, 0) _ rfl (row_set _ _ _ _ _ HR2.out) Tryz.underlying67 rfl (by kernel_rfl)) rfl ?_
      exact ⟨by rw [HE.out]; rfl, below_row HBW.out (Nat.le_refl _) _⟩
    · obtain ⟨hqe, hq2⟩ := ne_nil h0
      have h01 : 0 < t.size := by
        rcases Nat.eq_zero_or_pos t.size with h | h
        · exact absurd (nil_size h) h0
        · exact h
      have h0I : (0 : Int) < (t.size : Int) := by omega
      have hl0 : t.data.toList = t[0] :: t.data.toList.drop 1 := by
        have := q_drop t 0 h01
        rwa [List.drop_zero] at this
      clear h0
      by_cases h34 : t[0] = 34
      · have g0 : t[0] = 34 := h34
        have h1I : (1 : Int) ≤ (t.size : Int) := by omega
        have HE : Hid (r = (⟨5, ⟨o.toArray⟩, 0⟩, t.data.toList.drop 1)) := HS.out _ _ (by rw [hq.out, hl0, h34, ptx_end]; simp [acat])
        have HE2 : Hid (t.extract 1 t.size = ⟨(t.data.toList.drop 1).toArray⟩) := ba_drop t 1
        obtain ⟨⟨m0, m1, m2⟩, o0, o1, o2⟩ := pt_cells hrow
        have hcv := conv_back hb.out
        have hcv2 := conv_back (w := wr.drew) hb.out
        have HR2 := hide hrow
        clear hq hb hbl HN HS HST HV hrow h34 hl0
        go_wp2_with fail
        go_region
        go_wp2_with fail
        refine bodyPost_ret (results_row_tmp rfl _ _ w.heap.size 67 _ (0, 0) _ rfl (pt_put HR2.out _ _ _) Tryz.underlying67 rfl (by kernel_rfl)) rfl ?_
        exact ⟨by rw [HE.out]; simp only [← HE2.out]; rfl, (pt_below HBW.out (Nat.le_refl _) _ _ _).drew⟩
      · have g0 : ((t[0].toNat : Int) == 34) = false := u8_ne (k := 34) (by decide) h34
        have HRB := hide (preadb_any t te pe wr h01 (by omega) (HV.out wr hbl.out.bel))
        have hble := byteD_le t[0] (t.data.toList.drop 1)
        have hbad := ptx_bad t[0] (t.data.toList.drop 1) h34
        have hstep := ptx_step t[0] (t.data.toList.drop 1) h34
        rw [← hl0] at hble hbad hstep
        rw [q_len] at hble
        obtain ⟨bd, hbd⟩ : ∃ bd, bd = byteD t.data.toList := ⟨_, rfl⟩
        rw [← hbd] at HRB hble hbad hstep
        obtain ⟨x, n⟩ := bd
        simp only at HRB hble hbad hstep
        clear hbd h34 hl0
        go_wp2_with fail
        refine HRB.out.mono ?_
        rintro e w2 ⟨rfl, hb2⟩
        clear HRB
        have hbl2 : Gr W1.heap.size W1 w2 := hbl.out.trans (Gr.of hb2 hbs)
        have hby2 := hb.out.keep hb2
        have hrow2 := hrow.below hb2
        have HBW2 := hide (Below.next HBW.out hb2)
        by_cases hn0 : n = 0
        · subst hn0
          have HE : Hid (r = (ptBad, [])) := HN.out (by rw [hq.out, hbad rfl]; rfl)
          have HST2 := hide (store_row w2 w.heap.size 67 _ #[.int .i64 1, .string ⟨#[]⟩, .int .i64 0] hrow2 (by kernel_rfl) rfl (by simp [Value.oneCell']))
          have HR2 := hide hrow2
          clear hq hb hbl HN HS HST HV hrow hrow2 hbad hstep hby2 hbl2 hb2
          go_wp2_with (refine wpList_store_eq rfl 67 _ _ rfl _ _ rfl rfl HST2.out ?_)
          refine bodyPost_ret (results_row_tmp rfl _ _ w.heap.size 67 _ (0, 0) _ rfl (row_set _ _ _ _ _ HR2.out) Tryz.underlying67 rfl (by kernel_rfl)) rfl ?_
          exact ⟨by rw [HE.out]; rfl, below_row HBW2.out (Nat.le_refl _) _⟩
        · have hnI : ((n : Int) == 0) = false := by simp [hn0]
          have n0 : (0 : Int) ≤ (n : Int) := by omega
          have n1 : (n : Int) ≤ (t.size : Int) := by omega
          obtain ⟨a3, c3, w3, hr3, hb3, hbl3⟩ := byt_push hby2 [x] #[.int .u8 (x.toNat : Int)] 1 rfl rfl (by decide) (by omega) hbl2.size w2.heap.size rfl
          have HR3 := hide hr3
          have HQ3 : Hid (R0 = acat (o ++ [x]) (ptx (t.extract n t.size).data.toList)) := by
            show _ = _
            rw [hq.out, hstep hn0, acat_map, ex_drop]
          have HB3 := hide hb3
          have HBL3 : Hid (Gr W1.heap.size W1 w3) := hbl2.trans hbl3
          have HZ : Hid ((t.extract n t.size).size + (o ++ [x]).length ≤ 1000000 ∧ (t.extract n t.size).size < t.size) := by
            show _ ∧ _
            rw [ByteArray.size_extract, List.length_append, List.length_singleton]; omega
          generalize o ++ [x] = o3 at *
          clear hr3 hb3 hbl3 hq hb hbl hbad hstep hby2 hbl2 hb2 hrow hrow2
          go_wp2_with (first
            | (at_builtin; refine wpList_append_run2 48 48 rfl _ _ rfl rfl _ _ rfl rfl _ _ HR3.out ?_)
            | fail)
          go_roundw
          case rel => exact ⟨t.extract n t.size, o3, a3, c3, rfl, rfl, HZ.out.1, HQ3, HB3, HBL3⟩
          case measure => exact HZ.out.2
end Go.Proofs.YtageokjobbjddaaGreatDoor
