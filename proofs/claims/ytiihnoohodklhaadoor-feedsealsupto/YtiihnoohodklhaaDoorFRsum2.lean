import Derived.Test.YtiihnoohodklhaaDoorFRsum
import Derived.Test.YtiihnoohodklhaaDoorRefCrc
namespace Go.Proofs.YtiihnoohodklhaaDoor
open Go.RowKit
attribute [local go_sem ↓] Go.wp_at_zero Go.wp_at_succ

/-- The bytes of a change, one step after the other. -/
theorem chP_bytes (xs : List UInt8) (c : Ch) : xs ++ ptB (chP c) = ((((xs ++ ptB [.ln c.1.size, .st c.1]) ++ [if c.2.had then 1 else 0]) ++ ptB [.ln c.2.old.size, .st c.2.old]) ++ [if c.2.has then 1 else 0]) ++ ptB [.ln c.2.new.size, .st c.2.new] := by
  simp [ptB, chP, Part.bytes]
theorem hdP_bytes (fr tt n : Nat) : ptB (hdP fr tt n) = (beBytes fr 8 ++ beBytes tt 8) ++ beBytes n 4 := by
  simp [ptB, hdP, Part.bytes]
theorem two_len (s : ByteArray) : (ptB [.ln s.size, .st s]).length = 4 + s.size := by
  simp [ptB, Part.bytes, beBytes_len]
/-- One letter for a truth behind the others. -/
theorem push_flag (base : Nat) (v : Value) (xs : List UInt8) (b : Bool) (w : World) (hown : BO w base v xs) (hb : xs.length + 1 ≤ 140737488355328) (hbase : base ≤ w.heap.size) :
    ∃ a' c' w', (Builtin.append_ #[49, 49] 49 #[v, .slice (some ⟨w.heap.size, 0, none⟩) 1 1]).run Tryd.prog (w.alloc (.cells #[.int .u8 (if b then 1 else 0)] 5)) = .ok (.slice a' (xs.length + 1) c') w' ∧ BO w' base (.slice a' (xs.length + 1) c') (xs ++ [if b then 1 else 0]) ∧ Below base w w' := by
  cases b with
  | true => exact push_u8 base v xs 1 w hown hb hbase
  | false => exact push_u8 base v xs 0 w hown hb hbase
set_option maxHeartbeats 16000000 in
theorem rsum_any (fr tt : Nat) (v : Value) (l : List Ch) (w : World) (hfr : fr < 18446744073709551616) (htt : tt < 18446744073709551616) (hm : l.length ≤ 1048576) (hs : ∀ c ∈ l, c.1.size ≤ 1048576 ∧ c.2.old.size ≤ 1048576 ∧ c.2.new.size ≤ 1048576) (hr : ChR w v l) :
    Calls Tryd.prog 14 #[.int .u64 (fr : Int), .int .u64 (tt : Int), v] w fun e w' => e = .returned (.int .u32 ((crcV (batB fr tt l) : Nat) : Int)) ∧ Below w.heap.size w w' := by
  obtain ⟨a, cap, hv⟩ := hr.form
  subst hv
  obtain ⟨n, hn⟩ : ∃ n, n = l.length := ⟨_, rfl⟩
  have HD : Hid (batB fr tt l = ((beBytes fr 8 ++ beBytes tt 8) ++ beBytes n 4) ++ chsB l) := by show _ = _; unfold batB; rw [← hn, hdP_bytes]
  rw [← hn] at hr hm ⊢
  have HR := hide hr
  have HN := hide hn
  have HS := hide hs
  have HP1 := hide (fun W => rput_ok fr 8 W hfr (by decide) (by decide) hfr)
  have HP2 := hide (fun W => rput_ok tt 8 W htt (by decide) (by decide) htt)
  have HP3 := hide (fun W => rbytes_any n 4 W (by omega) (by decide) (by decide) (by omega))
  obtain ⟨Q, hQ⟩ : ∃ Q : Ending → World → Prop, Q = fun e w' => e = .returned (.int .u32 ((crcV (batB fr tt l) : Nat) : Int)) ∧ Below w.heap.size w w' := ⟨_, rfl⟩
  rw [← hQ]
  have HQ := hide hQ
  have h8 : ∀ q, (beBytes q 8).length = 8 := fun q => beBytes_len q 8 (by decide)
  have h4 : (beBytes n 4).length = 4 := beBytes_len n 4 (by decide)
  have H8 := hide h8
  have H4 := hide h4
  clear hQ hn hr hs h8 h4
  go_enter Tryd.func14, Tryd.ntmps14
  go_wp2_with fail
  refine (HP1.out _).mono ?_
  rintro e w1 ⟨v1, rfl, ho1, hb1⟩
  have ho1' : BO w1 w.heap.size v1 (beBytes fr 8) := by unfold BO; rw [H8.out]; exact ho1
  have HO1 := hide ho1'
  have HB1 := hide hb1
  clear ho1 ho1' hb1 HP1
  go_wp2_with fail
  refine (HP2.out _).mono ?_
  rintro e w2 ⟨v2, rfl, ho2, hb2⟩
  have hrow2 : RowR w2 v2 (u8s (beBytes tt 8)) := rowR_of_owns ho2
  have HB2 := hide (Below.next HB1.out hb2)
  obtain ⟨x3, c3, w3, hrun3, ho3, hgr3⟩ := append_bb w.heap.size v1 v2 (beBytes fr 8) (beBytes tt 8) w2 (HO1.out.below hb2) hrow2 (by rw [H8.out, H8.out]; decide) HB2.out.size
  have HRUN3 := hide hrun3
  have HO3 := hide ho3
  have HB3 := hide (HB2.out.grown hgr3 HB2.out.size (fun k hk => (HO1.out.lt k hk).1))
  obtain ⟨x1, d1, rfl⟩ := HO1.out.form
  clear ho2 hb2 hrow2 hrun3 ho3 hgr3 HP2 HB1 HO1 HB2
  go_wp2_with (first | (at_builtin; refine wpList_append_run 49 rfl _ _ rfl rfl _ _ rfl rfl _ _ HRUN3.out ?_))
  refine (HP3.out _).mono ?_
  rintro e w4 ⟨v4, rfl, hrow4, hb4⟩
  have HB4 := hide (Below.next HB3.out hb4)
  have ho3 := HO3.out.below hb4
  rw [← List.length_append] at ho3
  obtain ⟨x5, c5, w5, hrun5, ho5, hgr5⟩ := append_bb w.heap.size _ v4 (beBytes fr 8 ++ beBytes tt 8) (beBytes n 4) w4 ho3 hrow4 (by rw [List.length_append, H8.out, H8.out, H4.out]; decide) HB4.out.size
  rw [List.length_append] at hrun5 ho5
  have HRUN5 := hide hrun5
  have HB5 := hide (HB4.out.grown hgr5 HB4.out.size (fun k hk => (ho3.lt k hk).1))
  have HO5 := hide ho5
  clear hrow4 hb4 ho3 hrun5 ho5 hgr5 HP3 HB3 HO3 HB4
  go_wp2_with (first | (at_builtin; refine wpList_append_run 49 rfl _ _ rfl rfl _ _ rfl rfl _ _ HRUN5.out ?_))
  go_wp2
  obtain ⟨hd, hhd⟩ : ∃ hd, hd = (beBytes fr 8 ++ beBytes tt 8) ++ beBytes n 4 := ⟨_, rfl⟩
  have hhl : (beBytes fr 8).length + (beBytes tt 8).length + (beBytes n 4).length = hd.length := by rw [hhd, List.length_append, List.length_append]
  have HHL : Hid (hd.length = 20) := by show _ = _; rw [← hhl, H8.out, H8.out, H4.out]
  rw [hhl] at HO5 ⊢
  rw [← hhd] at HO5 HD
  clear hhd hhl HRUN5 HRUN3 H8 H4
  go_loopw [7, 11] (fun p i wr => ∃ (k mm : Nat) (y : Option Addr) (f : Nat), k ≤ n ∧ i = .int .i64 k ∧ p = .slice y mm f ∧ mm = (hd ++ chsB (l.take k)).length ∧ mm ≤ 20 + k * 3145742 ∧ BO wr w.heap.size (.slice y mm f) (hd ++ chsB (l.take k)) ∧ Below w.heap.size w wr) (fun _ i _ => n - (intOf i).toNat)
  case atStart => exact ⟨0, _, x5, c5, Nat.zero_le _, rfl, rfl, by simp [chsB], by rw [HHL.out]; omega, by simpa [chsB] using HO5.out, HB5.out⟩
  case round =>
    obtain ⟨k, mm, y, f, hk, rfl, rfl, hmm, hml, hown, hbw⟩ := hrel
    by_cases hlt : k < n
    · have hltI : (k : Int) < (n : Int) := by omega
      have j0 : (0 : Int) ≤ (k : Int) := by omega
      have hkl : k < l.length := by have := HN.out; omega
      obtain ⟨a9, cap9, he, _, _, hc0⟩ := HR.out
      obtain ⟨g, o, ha, _⟩ := hc0 k (by have := HN.out; omega)
      obtain ⟨rfl, -, rfl⟩ : a = a9 ∧ n = l.length ∧ cap = cap9 := by simpa using he
      subst ha
      have HTK : Hid (hd ++ chsB (l.take (k + 1)) = (hd ++ chsB (l.take k)) ++ ptB (chP l[k])) := by show _ = _; unfold chsB; rw [List.take_add_one, List.getElem?_eq_getElem hkl, List.flatMap_append]; simp
      have hpk := HS.out l[k] (List.getElem_mem _)
      have HCH : Hid (∀ W, Below w.heap.size w W → ChAt W g (o + k * 5) l[k]) := fun W hb => by
        obtain ⟨a8, cap8, he8, _, _, hc8⟩ := HR.out.below hb
        obtain ⟨g8, o8, ha8, h8⟩ := hc8 k (by have := HN.out; omega)
        cases he8
        cases ha8
        exact h8
      obtain ⟨p, hp⟩ : ∃ p, p = l[k] := ⟨_, rfl⟩
      rw [← hp] at hpk HTK HCH
      obtain ⟨key, had, has, old, new⟩ := p
      rw [chP_bytes] at HTK
      simp only at hpk HTK
      obtain ⟨z0, hz0⟩ : ∃ z0, z0 = hd ++ chsB (l.take k) := ⟨_, rfl⟩
      rw [← hz0] at hmm hown HTK
      have hz0l : z0.length ≤ 20 + k * 3145742 := by rw [← hmm]; exact hml
      obtain ⟨z1, hz1⟩ : ∃ z1, z1 = z0 ++ ptB [.ln key.size, .st key] := ⟨_, rfl⟩
      have hz1l : z1.length = z0.length + (4 + key.size) := by rw [hz1, List.length_append, two_len]
      obtain ⟨z2, hz2⟩ : ∃ z2, z2 = z1 ++ [if had then 1 else 0] := ⟨_, rfl⟩
      have hz2l : z2.length = z1.length + 1 := by rw [hz2, List.length_append]; rfl
      obtain ⟨z3, hz3⟩ : ∃ z3, z3 = z2 ++ ptB [.ln old.size, .st old] := ⟨_, rfl⟩
      have hz3l : z3.length = z2.length + (4 + old.size) := by rw [hz3, List.length_append, two_len]
      obtain ⟨z4, hz4⟩ : ∃ z4, z4 = z3 ++ [if has then 1 else 0] := ⟨_, rfl⟩
      have hz4l : z4.length = z3.length + 1 := by rw [hz4, List.length_append]; rfl
      obtain ⟨z5, hz5⟩ : ∃ z5, z5 = z4 ++ ptB [.ln new.size, .st new] := ⟨_, rfl⟩
      have hz5l : z5.length = z4.length + (4 + new.size) := by rw [hz5, List.length_append, two_len]
      rw [← hz1, ← hz2, ← hz3, ← hz4, ← hz5] at HTK
      have HZL : Hid (z1.length + 1 = z2.length ∧ z3.length + 1 = z4.length) := ⟨hz2l.symm, hz4l.symm⟩
      have HLS : Hid (z0.length ≤ 4398046511104 ∧ z1.length ≤ 4398046511104 ∧ z2.length ≤ 4398046511104 ∧ z3.length ≤ 4398046511104 ∧ z4.length ≤ 4398046511104 ∧ z5.length ≤ 20 + (k + 1) * 3145742) := ⟨by omega, by omega, by omega, by omega, by omega, by omega⟩
      have HT1 := hide (fun W v (h : BO W w.heap.size v z0) (hb : w.heap.size ≤ W.heap.size) => rtext_any w.heap.size v z0 key W h (by omega) (by have := HLS.out; omega) hb)
      have HT3 := hide (fun W v (h : BO W w.heap.size v z2) (hb : w.heap.size ≤ W.heap.size) => rtext_any w.heap.size v z2 old W h (by omega) (by have := HLS.out; omega) hb)
      have HT5 := hide (fun W v (h : BO W w.heap.size v z4) (hb : w.heap.size ≤ W.heap.size) => rtext_any w.heap.size v z4 new W h (by omega) (by have := HLS.out; omega) hb)
      have HT2 := hide (fun W v (h : BO W w.heap.size v z1) (hb : w.heap.size ≤ W.heap.size) => push_flag w.heap.size v z1 had W h (by have := HLS.out; omega) hb)
      have HT4 := hide (fun W v (h : BO W w.heap.size v z3) (hb : w.heap.size ≤ W.heap.size) => push_flag w.heap.size v z3 has W h (by have := HLS.out; omega) hb)
      have HF2 := hide (fun W => rflag_any had W)
      have HF4 := hide (fun W => rflag_any has W)
      rw [← hz1] at HT1
      rw [← hz2] at HT2
      rw [← hz3] at HT3
      rw [← hz4] at HT4
      rw [← hz5] at HT5
      generalize (if had = true then (1 : Int) else 0) = fh at HF2 HT2
      generalize (if has = true then (1 : Int) else 0) = fs at HF4 HT4
      have HO0 := hide hown
      have HB0 := hide hbw
      obtain ⟨c0, c1, c2, c3, c4⟩ := HCH.out _ hbw
      simp only at c0 c1 c2 c3 c4
      clear hz0 hz1 hz2 hz3 hz4 hz5 hz0l hz1l hz2l hz3l hz4l hz5l hown hbw hmm hml hp hpk hc0 he
      go_wp2_with fail
      refine (HT1.out _ _ HO0.out HB0.out.size).mono ?_
      rintro e V1 ⟨u1, rfl, ho, hb⟩
      obtain ⟨y1, f1, rfl⟩ := ho.form
      have HO1 := hide ho
      have HB1 := hide (HB0.out.trans hb)
      clear ho hb c0 c1 c2 c3 c4 HT1 HO0
      obtain ⟨c0, c1, c2, c3, c4⟩ := HCH.out _ HB1.out
      simp only at c0 c1 c2 c3 c4
      obtain ⟨y2, f2, V2, hrun, ho, hb⟩ := HT2.out _ _ HO1.out HB1.out.size
      rw [HZL.out.1] at hrun ho
      have HRUN := hide hrun
      have HO2 := hide ho
      have HB2 := hide (HB1.out.trans hb)
      clear hrun ho hb HT2
      go_wp2_with fail
      refine (HF2.out _).mono ?_
      rintro e Vx ⟨rfl, rfl⟩
      clear c0 c1 c2 c3 c4 HO1
      obtain ⟨c0, c1, c2, c3, c4⟩ := HCH.out _ HB2.out
      simp only at c0 c1 c2 c3 c4
      go_wp2_with (first | (at_builtin; refine wpList_append_run 49 rfl _ _ rfl rfl _ _ rfl rfl _ _ HRUN.out ?_))
      clear HRUN
      refine (HT3.out _ _ HO2.out HB2.out.size).mono ?_
      rintro e V3 ⟨u3, rfl, ho, hb⟩
      obtain ⟨y3, f3, rfl⟩ := ho.form
      have HO3 := hide ho
      have HB3 := hide (HB2.out.trans hb)
      clear ho hb c0 c1 c2 c3 c4 HT3 HO2
      obtain ⟨c0, c1, c2, c3, c4⟩ := HCH.out _ HB3.out
      simp only at c0 c1 c2 c3 c4
      obtain ⟨y4, f4, V4, hrun, ho, hb⟩ := HT4.out _ _ HO3.out HB3.out.size
      rw [HZL.out.2] at hrun ho
      have HRUN := hide hrun
      have HO4 := hide ho
      have HB4 := hide (HB3.out.trans hb)
      clear hrun ho hb HT4
      go_wp2_with fail
      refine (HF4.out _).mono ?_
      rintro e Vx ⟨rfl, rfl⟩
      clear c0 c1 c2 c3 c4 HO3
      obtain ⟨c0, c1, c2, c3, c4⟩ := HCH.out _ HB4.out
      simp only at c0 c1 c2 c3 c4
      go_wp2_with (first | (at_builtin; refine wpList_append_run 49 rfl _ _ rfl rfl _ _ rfl rfl _ _ HRUN.out ?_))
      clear HRUN
      refine (HT5.out _ _ HO4.out HB4.out.size).mono ?_
      rintro e V5 ⟨u5, rfl, ho, hb⟩
      obtain ⟨y5, f5, rfl⟩ := ho.form
      have HO5 := hide ho
      have HB5 := hide (HB4.out.trans hb)
      clear ho hb c0 c1 c2 c3 c4 HT5 HO4
      obtain ⟨c0, c1, c2, c3, c4⟩ := HCH.out _ HB5.out
      simp only at c0 c1 c2 c3 c4
      clear c0 c1 c2 c3 c4 HCH
      go_wp2
      go_roundw
      case rel => exact ⟨k + 1, _, y5, f5, by omega, by go_num, rfl, by rw [HTK.out], HLS.out.2.2.2.2.2, by rw [HTK.out]; exact HO5.out, HB5.out⟩
      case measure => simp [intOf]; omega
    · have hltI : ¬ (k : Int) < (n : Int) := by omega
      have hkn : k = n := by omega
      subst hkn
      have hall : hd ++ chsB (l.take k) = batB fr tt l := by rw [HD.out, HN.out, List.take_length]
      rw [hall] at hown
      have HC := hide (ref_rd (.slice y mm f) (batB fr tt l) wr (by rw [hall] at hmm; rw [← hmm]; omega) (rd_of_owns hown))
      have HB := hide hbw
      clear hown hbw hmm hml hall
      go_wp2_with fail
      refine HC.out.mono ?_
      rintro e w9 ⟨rfl, rfl⟩
      go_wp2
      rw [HQ.out]
      exact ⟨rfl, HB.out⟩
end Go.Proofs.YtiihnoohodklhaaDoor
