import Derived.Test.YtpeobpmooledaaaDoorBMap
namespace Go.Proofs.YtpeobpmooledaaaDoor
open Go.RowKit Go.Maps
attribute [local go_sem ↓] Go.wp_at_zero Go.wp_at_succ

theorem found_snoc (l : List Int) (x : Int) (ps : List Pc) : foundN (l ++ [x]) ps = foundN l ps + if (lastD ps x).isSome then 1 else 0 := by
  unfold foundN
  rw [List.filter_append, List.length_append, lastD_some]
  congr 1
  rw [List.filter_cons]
  split <;> simp
theorem found_le (l : List Int) (ps : List Pc) : foundN l ps ≤ l.length := List.length_filter_le _ _

set_option maxHeartbeats 16000000 in
theorem bhas_any (a : Ar) (vi vp : Value) (w : World) (hf : ArFit a) (hr : ArR w a vi vp) :
    Calls Tryd.prog 18 #[.agg (arC a vi vp)] w fun e w' => e = .returned (.bool (hasD a)) ∧ Below w.heap.size w w' := by
  obtain ⟨W1, hW1⟩ : ∃ W1, w.alloc (.cells (arC a vi vp) 29) = W1 := ⟨_, rfl⟩
  have x1 : RowAt W1 w.heap.size (arC a vi vp) 29 := by rw [← hW1]; exact arC_row _ _ _ _
  have hb1 : Below w.heap.size w W1 := by rw [← hW1]; exact below_new w _
  have HX := hide x1
  have HB1 := hide hb1
  have HR := hide (hr.below hb1)
  have HBY := hide (bbyp_any vp a.pcs W1 hf.np (fun p hp => (hf.pcs p hp).1) (hr.below hb1).pcs)
  have HWH := hide (fun W => bwhole_any a vi vp W)
  obtain ⟨x, cap, hv, -⟩ := hr.ids
  obtain ⟨xp, capp, hvp⟩ := hr.pcs.form
  obtain ⟨n, hn⟩ : ∃ n, n = a.ids.length := ⟨_, rfl⟩
  obtain ⟨m, hm⟩ : ∃ m, m = a.pcs.length := ⟨_, rfl⟩
  rw [ints_length, ← hn] at hv
  rw [← hm] at hvp
  subst hv hvp
  have HW : Hid (w.alloc (.cells #[.int .i64 a.pg, .int .i64 a.rt, .int .u64 (a.tx : Int), .int .u64 (a.si : Int), .slice x n cap, .slice xp m capp, .int .u32 (a.sum : Int)] 29) = W1) := hW1
  have HN := hide hn
  have HM := hide hm
  have HF := hide hf
  have hnb : n ≤ 1048640 := by rw [hn]; exact hf.ni
  have hmb : m ≤ 1048640 := by rw [hm]; exact hf.np
  have q5 := x1.a5
  obtain ⟨Q, hQ⟩ : ∃ Q : Ending → World → Prop, Q = fun e w' => e = .returned (.bool (hasD a)) ∧ Below w.heap.size w w' := ⟨_, rfl⟩
  rw [← hQ]
  have HQ := hide hQ
  clear hQ hW1 hb1 x1 hn hm hf hr
  unfold arC at HWH ⊢
  go_enter Tryd.func18, Tryd.ntmps18
  go_wp2_with fail
  rw [HW.out]
  go_wp2_with fail
  refine HBY.out.mono ?_
  rintro e W2 ⟨b, rfl, hmap, hb2⟩
  have HMP := hide hmap
  have HB2 := hide (Below.next HB1.out hb2)
  have HX2 := hide (HX.out.below hb2)
  have HR2 := hide (HR.out.below hb2)
  have q4 := HX2.out.a4
  clear q5 hmap hb2 HBY HX HR
  go_wp2
  go_loopw [4, 15] (fun f i wr => ∃ (k c : Nat), k ≤ n ∧ i = .int .i64 k ∧ f = .int .i64 c ∧ Hid (c = foundN (a.ids.take k) a.pcs) ∧ Hid (c ≤ k) ∧ Below W2.heap.size W2 wr) (fun _ i _ => n - (intOf i).toNat)
  case atStart => exact ⟨0, 0, Nat.zero_le _, rfl, rfl, rfl, Nat.le_refl 0, Below.refl _ _⟩
  case round =>
    obtain ⟨k, c, hk, rfl, rfl, hcf, hck, hbw⟩ := hrel
    have HBW := hide (Below.next HB2.out hbw)
    have HBX := hide hbw
    by_cases hlt : k < n
    · have hkl : k < a.ids.length := by have := HN.out; omega
      obtain ⟨a9, cap9, he9, _, _, hc⟩ := HR2.out.ids.below hbw
      obtain ⟨g, o, ha, hcell⟩ := hc k _ (ints_get a.ids k hkl)
      obtain ⟨rfl, -, rfl⟩ : x = a9 ∧ n = (ints a.ids).length ∧ cap = cap9 := by simpa using he9
      subst ha
      have HTK : Hid (a.ids.take (k + 1) = a.ids.take k ++ [a.ids[k]]) := List.take_succ_eq_append_getElem hkl
      have hxb := HF.out.ids a.ids[k] (List.getElem_mem _)
      obtain ⟨y, hy⟩ : ∃ y, y = a.ids[k] := ⟨_, rfl⟩
      rw [← hy] at hcell hxb HTK
      have HXB := hide hxb
      have HMW := hide (HMP.out.below hbw)
      have hltI : (k : Int) < (n : Int) := by omega
      have j0 : (0 : Int) ≤ (k : Int) := by omega
      have HCN : Hid (foundN (a.ids.take (k + 1)) a.pcs = c + if (lastD a.pcs y).isSome then 1 else 0) := by show _ = _; rw [HTK.out, found_snoc, ← hcf.out]
      obtain ⟨ok, hok⟩ : ∃ ok, ok = (lastD a.pcs y).isSome := ⟨_, rfl⟩
      have HOK := hide hok.symm
      rw [← hok] at HCN
      have HCK := hide hck.out
      have hcb : c + 1 ≤ 1048640 := by have := hck.out; omega
      have HBA := hide (fun o => hbw.alloc hbw.size o)
      clear hc he9 hy hxb hok hcf hck hbw
      cases ok with
      | true =>
        go_wp2_with (first
          | (at_lookup; refine wpList_lookup_pc _ rfl _ _ rfl b a.pcs rfl HMW.out _ rfl HXB.out ?_; intro i t s hat; rw [HOK.out]; clear hat)
          | fail)
        go_wp2
        go_roundw
        case rel => exact ⟨k + 1, c + 1, by omega, by go_num, by go_num, by show _ = _; rw [HCN.out]; rfl, by show _ ≤ _; have := HCK.out; omega, HBA.out _⟩
        case measure => simp [intOf]; omega
      | false =>
        go_wp2_with (first
          | (at_lookup; refine wpList_lookup_pc _ rfl _ _ rfl b a.pcs rfl HMW.out _ rfl HXB.out ?_; intro i t s hat; rw [HOK.out]; clear hat)
          | fail)
        go_wp2
        go_roundw
        case rel => exact ⟨k + 1, c, by omega, by go_num, rfl, by show _ = _; rw [HCN.out]; rfl, by show _ ≤ _; have := HCK.out; omega, HBA.out _⟩
        case measure => simp [intOf]; omega
    · have hltI : ¬ (k : Int) < (n : Int) := by omega
      have hkn : k = n := by omega
      subst hkn
      have HC : Hid (c = foundN a.ids a.pcs) := by show _ = _; rw [hcf.out, HN.out, List.take_length]
      have HX3 := hide (HX2.out.below hbw)
      have HV : Hid (hasD a = (decide (c = m) && (decide (c = k) || !decide (a.si = 0)))) := by show _ = _; unfold hasD; rw [← HC.out, ← HM.out, ← HN.out]
      have p4 := HX3.out.a4
      have p5 := HX3.out.a5
      have hbW := HBW.out
      clear hcf hbw hck q4 HX2
      by_cases h1 : c = m
      · subst h1
        have h1I : ((c : Int) == (c : Int)) = true := by simp
        by_cases h2 : c = k
        · have h2I : ((c : Int) == (k : Int)) = true := by rw [h2]; simp
          have HVV : Hid (hasD a = true) := by show _ = _; rw [HV.out]; simp [h2]
          clear hbW
          go_wp2
          rw [HQ.out, HVV.out]
          exact ⟨rfl, HBW.out⟩
        · have h2I : ((c : Int) == (k : Int)) = false := by simp; omega
          have p0 := HX3.out.a0
          have p1 := HX3.out.a1
          have p2 := HX3.out.a2
          have p3 := HX3.out.a3
          have p6 := HX3.out.a6
          have HVV : Hid (hasD a = !decide (a.si = 0)) := by show _ = _; rw [HV.out, decide_eq_false h2]; simp
          clear hbW
          go_wp2_with fail
          refine (HWH.out _).mono ?_
          rintro e W4 ⟨rfl, hb4⟩
          have HB4 := hide (Below.next HBW.out hb4)
          clear hb4 p0 p1 p2 p3 p4 p5 p6
          go_wp2
          rw [HQ.out, HVV.out]
          exact ⟨by simp, HB4.out⟩
      · have h1I : ((c : Int) == (m : Int)) = false := by simp; omega
        have HVV : Hid (hasD a = false) := by show _ = _; rw [HV.out, decide_eq_false h1]; rfl
        clear hbW
        go_wp2
        rw [HQ.out, HVV.out]
        exact ⟨rfl, HBW.out⟩
end Go.Proofs.YtpeobpmooledaaaDoor
