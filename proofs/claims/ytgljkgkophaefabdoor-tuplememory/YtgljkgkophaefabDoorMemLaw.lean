import Derived.Test.YtgljkgkophaefabDoorMemL
namespace Go.Proofs.YtgljkgkophaefabDoor
open Go.RowKit

theorem marks_all {l : List It} {v : Value} {bs : List Nat} {w : World} (h : Tr w v l bs) (hc : cntL l ≤ 3000) :
    Calls Tryd.prog 19 #[v, .int .i64 0] w fun e w' => e = .returned (.int .i64 ((cntL l : Nat) : Int)) ∧ Tr w' v (mkdL l 0) bs ∧ OnlyB bs w w' := by
  have := marks_any _ l v 0 bs w (Nat.le_refl _) h (by omega)
  rw [Nat.zero_add] at this
  exact this
theorem marked_all {l : List It} {v : Value} {bs : List Nat} {w : World} (h : Tr w v (mkdL l 0) bs) (hc : cntL l ≤ 3000) :
    Calls Tryd.prog 21 #[v, .int .i64 0] w fun e w' => e = .returned (.tuple #[.int .i64 ((cntL l : Nat) : Int), .bool true]) ∧ Below w.heap.size w w' := by
  have := marked_any _ (mkdL l 0) v 0 w (Nat.le_refl _) h.its.any (by rw [mkdL_cnt]; omega)
  rw [Nat.zero_add, mkdL_cnt, mkdL_mrk] at this
  exact this
theorem unpack_all (aT : Addr) {q : List It} (hq : VL 4 q) (hl : (encL q).length ≤ 60000) (w : World) (ht : TextAt aT w) :
    Calls Tryd.prog 9 #[.string ⟨(encL q).toArray⟩] w fun e w' => ∃ v base bs, e = .returned (.tuple #[v, .nilIface]) ∧ w.heap.size ≤ base ∧ Tr w' v q bs ∧ (∀ k ∈ bs, base ≤ k) ∧ Below w.heap.size w w' := by
  refine (unpackT_any aT ⟨(encL q).toArray⟩ w ht).mono ?_
  rintro e w3 (⟨m, vm, base, hm, hvm, hs, rfl, hba, ⟨bs, om, hbs⟩, hb3⟩ | ⟨hno, -, -⟩)
  rotate_left
  · exact absurd rfl (hno (by rw [show (⟨(encL q).toArray⟩ : ByteArray).size = (encL q).length from S_size _]; omega) q hq)
  have e1 : q = m := encL_inj _ _ hq.each hvm.each hm
  subst e1
  exact ⟨vm, base, bs, rfl, hba, om, hbs, hb3⟩
theorem same_all {q : List It} {va vb : Value} {w : World} (ha : ItsAt w anyB va q) (hb : ItsAt w anyB vb q) : Calls Tryd.prog 10 #[va, vb] w fun e w' => e = .returned (.bool true) ∧ Below w.heap.size w w' := by
  refine (sameItems_any _ q q va vb w (Nat.le_refl _) ha hb).mono ?_
  rintro e w' ⟨b, rfl, hbb, hw⟩
  have hbt : b = true := by simpa using hbb
  subst hbt
  exact ⟨rfl, hw⟩
theorem itCells_one (u u' : Value) (hu : u.oneCell' = true) (hu' : u'.oneCell' = true) : ∀ x ∈ (bothC u u').toList, x.oneCell' = true := by
  intro x hx
  simp only [bothC, List.mem_cons, List.not_mem_nil, or_false] at hx
  rcases hx with rfl | rfl | rfl | rfl | rfl | rfl | rfl | rfl <;> first | rfl | assumption
/-- What stands behind the head: the list with two lists behind it. -/
theorem head_own {w1 w5 : World} {base : Nat} {q : List It} {a1 : Option Addr} {c1 g cap : Nat} {us : List Value} (hus : us.length = q.length) (hok : ∀ i (h : i < q.length), q[i].Ok)
    (hin : ∀ i (h : i < q.length) (h' : i < us.length), ItsAt w1 (fun g => base ≤ g ∧ some g ≠ (Value.slice a1 q.length c1).ownBlock ∧ g < w1.heap.size) us[i] q[i].list) (hbase : base ≤ w1.heap.size) (hbk : ∀ k, (Value.slice a1 q.length c1).ownBlock = some k → k < w1.heap.size)
    (hown : w5.ownsRow base 43 4 (.slice (some ⟨g, 0, none⟩) (q.length + 2) cap) (q.length + 2) (cellsOf' q us ++ (bothC (.slice (some ⟨w1.heap.size + 1, 0, none⟩) 2 2) (.slice (some ⟨w1.heap.size + 1 + 1, 0, none⟩) 1 1)).toList))
    (hgrow : (litW w1 w1.heap.size).grownBy w5 (Value.slice a1 q.length c1).ownBlock) (hat : (Value.slice a1 q.length c1).ownBlock = some g ∨ g = w1.heap.size + 4) : ItsOwn w5 base (.slice (some ⟨g, 0, none⟩) (q.length + 2) cap) (memL q) := by
  obtain ⟨hb, hsz, -, iA, iB⟩ := litW_facts w1 (fun g => base ≤ g ∧ some g ≠ (Value.slice a1 q.length c1).ownBlock ∧ g < (litW w1 w1.heap.size).heap.size) (fun g h1 h2 => ⟨by omega, fun e => by have := hbk g e.symm; omega, by rw [(show (litW w1 w1.heap.size).heap.size = w1.heap.size + 4 by simp [litW])]; omega⟩)
  refine push_two (w4 := litW w1 w1.heap.size) (H := w1.heap.size + 4) (m := [itA, itB]) (vs := [.slice (some ⟨w1.heap.size + 1, 0, none⟩) 2 2, .slice (some ⟨w1.heap.size + 1 + 1, 0, none⟩) 1 1]) hus rfl hok (fun i hi => ?_) (fun i h h' => ?_) (fun i h h' => ?_) rfl ?_ hgrow hat hsz
  · have hi2 : i = 0 ∨ i = 1 := by (simp at hi; omega)
    rcases hi2 with rfl | rfl <;> exact itList_ok _
  · exact ((hin i h h').keep hb).imp fun k hk => ⟨hk.1, hk.2.1, Nat.lt_of_lt_of_le hk.2.2 hb.size⟩
  · have hi2 : i = 0 ∨ i = 1 := by (simp at h; omega)
    rcases hi2 with rfl | rfl
    · exact iA
    · exact iB
  · exact hown

set_option maxHeartbeats 4000000 in
theorem memory_any (aA aT aM : Addr) (l : List It) (v : Value) (w : World) (hv : ItsAt w anyB v l) (he : Errs2 aA aM w) (ht : TextAt aT w) :
    Calls Tryd.prog 6 #[v] w fun e w' => e = .returned (.bool true) ∧ Below w.heap.size w w' := by
  obtain ⟨i0, hi, hz0, hz1, hz2⟩ := info_parts Tryd.info43
  have gA : 2 < w.heap.size := World.block_lt_of_cell? w _ he.arg
  go_enter Tryd.func6, Tryd.ntmps6
  go_wp2_with fail
  refine (tidy_any 4 l _ _ w (by omega) (by rfl) hv).mono ?_
  rintro e w1 ⟨v1, q, rfl, o1, tq, lq, -, hb1⟩
  have HE1 := hide' (he.keep hb1)
  have HT1 : Hid (TextAt aT w1) := cell_below hb1 ht
  obtain ⟨a1, c1, rfl⟩ := o1.form
  have HQ : Hid (TidyT 4 q) := tq
  have HG := hide' gA
  have HB1 := hide' hb1
  have HS1 := hide' hb1.size
  have hbk := o1.blk
  obtain ⟨us, hus, how, hok, hin⟩ := o1
  obtain ⟨lb, lsz, lh, -, -⟩ := litW_facts w1 anyB (fun _ _ _ => trivial)
  have HEAD : Hid (∀ g cap w5, w5.ownsRow w.heap.size 43 4 (.slice (some ⟨g, 0, none⟩) (q.length + 2) cap) (q.length + 2) (cellsOf' q us ++ (bothC (.slice (some ⟨w1.heap.size + 1, 0, none⟩) 2 2) (.slice (some ⟨w1.heap.size + 1 + 1, 0, none⟩) 1 1)).toList) →
      (litW w1 w1.heap.size).grownBy w5 (Value.slice a1 q.length c1).ownBlock → ((Value.slice a1 q.length c1).ownBlock = some g ∨ g = w1.heap.size + 4) → ItsOwn w5 w.heap.size (.slice (some ⟨g, 0, none⟩) (q.length + 2) cap) (memL q) ∧ Below w.heap.size w w5 ∧ Errs2 aA aM w5 ∧ TextAt aT w5) := fun g cap w5 h1 h2 h3 => by
    have hB : Below w.heap.size w w5 := (Below.next hb1 lb).grown h2 (by have := HS1.out; rw [lsz]; omega) (fun k hk => (hbk k hk).1)
    exact ⟨head_own hus hok hin HS1.out (fun k hk => (hbk k hk).2) h1 h2 h3, hB, he.keep hB, cell_below hB ht⟩
  have how4 := owns_keep how lb
  have hnews : ∀ j u, (bothC (.slice (some ⟨w1.heap.size + 1, 0, none⟩) 2 2) (.slice (some ⟨w1.heap.size + 1 + 1, 0, none⟩) 1 1)).toList[j]? = some u → (litW w1 w1.heap.size).cell? ((⟨w1.heap.size + 1 + 1 + 1, 0, none⟩ : Addr).add j) = some u := World.news_of_block lh
  have hone := itCells_one (.slice (some ⟨w1.heap.size + 1, 0, none⟩) 2 2) (.slice (some ⟨w1.heap.size + 1 + 1, 0, none⟩) 1 1) rfl rfl
  simp only [litW, bothC, twoC, nullC] at how4 hnews hone lsz
  have HNEWS := hide' hnews
  have HONE := hide' hone
  have HLSZ := hide' lsz
  clear hv he ht tq gA hb1 hus how hok hin lb lh hnews hone lsz hbk HB1
  go_wp2_with (first
    | (at_builtin; refine wpList_append_lies _ rfl _ _ 22 rfl w.heap.size 43 i0 (.agg #[.int .i64 0, .int .i64 0, .string ⟨#[]⟩, .slice none 0 0]) 4 56 Tryd.underlying22 hi hz0 hz1 hz2 rfl (by decide) _ q.length _ rfl how4 ⟨w1.heap.size + 1 + 1 + 1, 0, none⟩ 2 2 [.int .i64 5, .int .i64 0, .string ⟨#[]⟩, .slice (some ⟨w1.heap.size + 1, 0, none⟩) 2 2, .int .i64 5, .int .i64 0, .string ⟨#[]⟩, .slice (some ⟨w1.heap.size + 1 + 1, 0, none⟩) 1 1] rfl rfl HNEWS.out HONE.out (by decide) ?c4 ?c5 ?c6 (w1.heap.size + 4) HLSZ.out ?_))
  case c4 => unfold maxLen; omega
  case c5 => omega
  case c6 => rw [HLSZ.out]; have := HS1.out; omega
  clear how4
  intro g cap w2 ho2 hg2 hat2 hl2
  have H2 := hide' (HEAD.out g cap w2 ho2 hg2 hat2)
  clear HEAD ho2 hg2 hat2 hl2 HNEWS HONE HLSZ HS1 HE1 HT1 hi hz0 hz1 hz2
  have HM : Hid (VL 4 (memL q) ∧ (encL (memL q)).length ≤ 60000 ∧ cntL (memL q) ≤ 3000) := ⟨memL_VL HQ.out lq, by have := memL_len HQ.out; omega, memL_cnt HQ.out⟩
  have HLEN : Hid ((memL q).length = q.length + 2) := by show _ = _; simp [memL]
  have HK5 : Hid (∀ h, ((memL q)[(memL q).length - 1]'h).kind = 5) := fun h => by
    have e : (memL q)[(memL q).length - 1]? = some itB := by
      rw [HLEN.out, show q.length + 2 - 1 = q.length + 1 from rfl, memL, List.getElem?_append_right (by omega)]
      simp
    rw [List.getElem?_eq_getElem h] at e
    rw [Option.some.inj e]
    rfl
  have HL6 : Hid ((memL q).length ≤ 6 ∧ 2 ≤ (memL q).length) := by have := HLEN.out; exact ⟨by omega, by omega⟩
  rw [← HLEN.out] at H2 ⊢
  clear HLEN HQ lq
  generalize memL q = m at *
  have hb6 : m.length ≤ 2513169434843 := by have := HL6.out.1; omega
  have P2 := hide' (pack_any aA aM m _ w2 (H2.out.1.at' hb6).any H2.out.2.2.1 (fun _ => by have := HM.out.2.1; omega))
  rw [packF_VL HM.out.1 (by have := HM.out.2.1; omega), packT_VL HM.out.1 (by have := HM.out.2.1; omega)] at P2
  simp only [errOf, if_true] at P2
  have HU : Hid (∀ W, TextAt aT W → Calls Tryd.prog 9 #[.string ⟨(encL m).toArray⟩] W fun e w' => ∃ v base bs, e = .returned (.tuple #[v, .nilIface]) ∧ W.heap.size ≤ base ∧ Tr w' v m bs ∧ (∀ k ∈ bs, base ≤ k) ∧ Below W.heap.size W w') := fun W hW => unpack_all aT HM.out.1 HM.out.2.1 W hW
  obtain ⟨S0, hS0⟩ : ∃ S0 : ByteArray, S0 = ⟨(encL m).toArray⟩ := ⟨_, rfl⟩
  rw [← hS0] at P2 HU
  clear hS0
  obtain ⟨V, hV⟩ : ∃ V, V = Value.slice (some ⟨g, 0, none⟩) m.length cap := ⟨_, rfl⟩
  rw [← hV] at H2 P2
  have HV := hide' hV
  clear hV
  go_wp2_with fail
  rw [← HV.out]
  refine P2.out.mono ?_
  rintro e w3 ⟨rfl, hb3⟩
  have HS : Hid (∀ W, Below w3.heap.size w3 W → TextAt aT W ∧ Errs2 aA aM W ∧ ItsOwn W w.heap.size V m ∧ Below w.heap.size w W) := fun W hW =>
    ⟨cell_below (Below.next hb3 hW) H2.out.2.2.2, H2.out.2.2.1.keep (Below.next hb3 hW), H2.out.1.keep (Below.next hb3 hW), Below.next H2.out.2.1 (Below.next hb3 hW)⟩
  clear P2 hb3 H2
  rw [HV.out]
  go_wp2_with fail
  refine (HU.out w3 (HS.out _ (Below.refl _ _)).1).mono ?_
  rintro e w4 ⟨va, ba, bsa, rfl, hba, tra, hbsa, hb4⟩
  have HX4 := hide' hb4
  have HBA : Hid (∀ k ∈ bsa, w3.heap.size ≤ k ∧ k < w4.heap.size) := fun k hk => ⟨Nat.le_trans hba (hbsa k hk), tra.lt k hk⟩
  have TA4 := hide' tra
  obtain ⟨aa, ca, rfl⟩ := tra.form
  clear hba tra hbsa hb4
  go_wp2_with fail
  refine (HU.out w4 (HS.out _ HX4.out).1).mono ?_
  rintro e w5 ⟨vb, bb, bsb, rfl, hbb, trb, hbsb, hb5⟩
  have HX5 := hide' (Below.next HX4.out hb5)
  have HBB : Hid (∀ k ∈ bsb, k ∉ bsa) := fun k hk hm => by have h1 := hbsb k hk; have h2 := (HBA.out k hm).2; omega
  have TA5 := hide' (TA4.out.under hb5)
  have TB5 := hide' trb
  obtain ⟨ab, cb, rfl⟩ := trb.form
  have S5 := hide' (same_all TA5.out.its.any ((HS.out _ HX5.out).2.2.1.at' hb6).any)
  rw [HV.out] at S5
  clear hbb trb hbsb hb5 TA4
  go_wp2_with fail
  refine S5.out.mono ?_
  rintro e w6 ⟨rfl, hb6'⟩
  have HX6 := hide' (Below.next HX5.out hb6')
  have TA6 := hide' (TA5.out.under hb6')
  have TB6 := hide' (TB5.out.under hb6')
  have M6 := hide' (marks_all TA6.out HM.out.2.2)
  obtain ⟨cm, hcm⟩ : ∃ cm, cm = cntL m := ⟨_, rfl⟩
  have HCM := hide' hcm
  rw [← hcm] at M6
  clear hcm hb6' TA5 TB5 S5
  go_wp2_with fail
  refine M6.out.mono ?_
  rintro e w7 ⟨rfl, ta7, ho7⟩
  have HX7 : Hid (Below w3.heap.size w3 w7) := HX6.out.trans (ho7.below HX6.out.size (fun k hk => (HBA.out k hk).1))
  have TB7 := hide' (TB6.out.only ho7 HBB.out)
  have TA7 := hide' ta7
  have G7 := hide' (grown_any _ (mkdL m 0) _ bsa w7 (Nat.le_refl _) ta7 (by rw [mkdL_cnt]; have := HM.out.2.2; omega))
  clear ta7 ho7 TA6 TB6 M6
  go_wp2_with fail
  refine G7.out.mono ?_
  rintro e w8 ⟨N, rfl, hN, -, ta8, ho8⟩
  have HX8 : Hid (Below w3.heap.size w3 w8) := HX7.out.trans (ho8.below HX7.out.size (fun k hk => (HBA.out k hk).1))
  have TB8 := hide' (TB7.out.only ho8 HBB.out)
  have M8 := hide' (marked_all ta8 HM.out.2.2)
  rw [← HCM.out] at M8
  have hNI : (64 : Int) ≤ (N : Int) := by omega
  clear ta8 ho8 TA7 TB7 G7 hN
  go_wp2_with fail
  refine M8.out.mono ?_
  rintro e w9 ⟨rfl, hb9⟩
  have HX9 := hide' (below_then HX8.out (Nat.le_refl _) hb9)
  have TB9 := hide' (TB8.out.under hb9)
  have S9 := hide' (same_all TB9.out.its.any ((HS.out _ HX9.out).2.2.1.at' hb6).any)
  rw [HV.out] at S9
  clear hb9 TB8 M8
  go_wp2_with fail
  refine S9.out.mono ?_
  rintro e w10 ⟨rfl, hb10⟩
  have HX10 := hide' (below_then HX9.out (Nat.le_refl _) hb10)
  clear hb10 TB9 S9
  go_wp2_with fail
  refine (HU.out w10 (HS.out _ HX10.out).1).mono ?_
  rintro e w11 ⟨vc, bc, bsc, rfl, hbc, trc, hbsc, hb11⟩
  have HX11 := hide' (below_then HX10.out (Nat.le_refl _) hb11)
  obtain ⟨ac, cc, rfl⟩ := trc.form
  have S11 := hide' (same_all trc.its.any ((HS.out _ HX11.out).2.2.1.at' hb6).any)
  rw [HV.out] at S11
  clear hbc trc hbsc hb11
  go_wp2_with fail
  refine S11.out.mono ?_
  rintro e w12 ⟨rfl, hb12⟩
  have HX12 := hide' (below_then HX11.out (Nat.le_refl _) hb12)
  have A12 := hide' (anew_any aA aM m V w.heap.size w12 (HS.out _ HX12.out).2.2.1 (HS.out _ HX12.out).2.1 HL6.out.2 (by have := HL6.out.1; omega) HM.out.1 HM.out.2.1 (HK5.out _) HG.out)
  rw [HV.out] at A12
  clear hb12 S11
  go_wp2_with fail
  refine A12.out.mono ?_
  rintro e w13 ⟨rfl, hb13⟩
  have HX13 : Hid (Below w.heap.size w w13) := (HS.out _ HX12.out).2.2.2.trans hb13
  clear hb13 A12
  go_wp2_with fail
  go_ret
  exact ⟨rfl, HX13.out⟩
end Go.Proofs.YtgljkgkophaefabDoor
