import Derived.Test.YtkgeabljdkkonaaGreatDoorGR
namespace Go.Proofs.YtkgeabljdkkonaaGreatDoor
open Go.RowKit

set_option maxHeartbeats 32000000 in
set_option maxRecDepth 100000 in
theorem rquery_any (b : Nat) (a : Option Addr) (c : Nat) (l : List Tk) (u : St) (w : World) (hl : ∀ t ∈ l, TkFine t) (h : RdS w b a c l 0 false) (hrep : Rep u (l.drop 0)) :
    Calls Tryz.prog 12 #[.pointer (some ⟨b, 0, none⟩)] w (RQryR w b a c l (queryD u)) := by
  obtain ⟨i0, hi, hz0, hz1, hz2⟩ := info_parts Tryz.info51
  have hblt := h.row.lt
  obtain ⟨R0, hR0⟩ : ∃ R0, R0 = queryD u := ⟨_, rfl⟩
  have hst := st_name hl hrep
  rw [← hR0] at hst ⊢
  have HST := hide hst
  have hsz : ∀ t ∈ l, t.text.size ≤ 1000000 := fun t ht => (hl t ht).sz
  have HTZ := hide hsz
  have HFL := hide hl
  have HLL : Hid (l.length ≤ 1000000) := h.len
  obtain ⟨W2, hW2⟩ : ∃ W2, (w.alloc (.cells #[.string ⟨#[]⟩, .slice none 0 0, .string ⟨#[]⟩, .bool false, .int .i64 0] 24)).alloc (.cells #[.string ⟨#[]⟩, .slice none 0 0, .string ⟨#[]⟩, .bool false, .int .i64 0] 24) = W2 := ⟨_, rfl⟩
  have hB : Below w.heap.size w W2 := by rw [← hW2]; exact ((Below.refl _ w).alloc (Nat.le_refl _) _).alloc (by simp) _
  have hx : RowAt W2 w.heap.size #[.string ⟨#[]⟩, .slice none 0 0, .string ⟨#[]⟩, .bool false, .int .i64 0] 24 := by rw [← hW2]; exact (RowAt.new w _ _).below (below_new _ _)
  have hy : RowAt W2 (w.heap.size + 1) #[.string ⟨#[]⟩, .slice none 0 0, .string ⟨#[]⟩, .bool false, .int .i64 0] 24 := by
    rw [← hW2]
    have := RowAt.new (w.alloc (.cells #[.string ⟨#[]⟩, .slice none 0 0, .string ⟨#[]⟩, .bool false, .int .i64 0] 24)) #[.string ⟨#[]⟩, .slice none 0 0, .string ⟨#[]⟩, .bool false, .int .i64 0] 24
    rwa [World.size_alloc] at this
  have hs2 : W2.heap.size = w.heap.size + 2 := by rw [← hW2]; simp
  have HW := hide hW2
  have HQ0 : Hid (QW w W2 b a c l 0 false ⟨⟨#[]⟩, [], ⟨#[]⟩, false, 0⟩ none 0) := ⟨h, h.below hB, hx, hy, ⟨[], rfl, by simpa [ccells] using World.ownsRow_nil _ _ _ _, fun i h => absurd h (by simp), fun i h => absurd h (by simp)⟩, .of_below hB, by omega⟩
  have HMU := hide (must_any b a c l 0 false 1 ⟨#[102, 114, 111, 109]⟩ W2 HQ0.out.rd)
  clear hst hrep hl h hsz hW2 hB hx hy hs2 hR0
  go_enter Tryz.func12, Tryz.ntmps12
  go_wp2_with fail
  rw [HW.out]
  refine HMU.out.mono ?_
  rintro e W3 ⟨rfl, hR3, hS3⟩
  obtain ⟨b1, hb1⟩ : ∃ b1, b1 = hereB l 0 1 ⟨#[102, 114, 111, 109]⟩ := ⟨_, rfl⟩
  rw [← hb1] at hR3 HST
  have HQ3 := hide (HQ0.out.move hR3 hS3)
  have HNM := hide (rname_any b a c l (goOn 0 b1) (false || !b1) W3 HQ3.out.rd HTZ.out)
  obtain ⟨k1, hk1⟩ : ∃ k, k = goN l (goOn 0 b1) := ⟨_, rfl⟩
  obtain ⟨lost1, hl1⟩ : ∃ x, x = ((false || !b1) || !nameOkT (nxt l (goOn 0 b1))) := ⟨_, rfl⟩
  obtain ⟨tt, htt⟩ : ∃ x, x = (nxt l (goOn 0 b1)).text := ⟨_, rfl⟩
  rw [← hk1, ← hl1, ← htt] at HNM HST
  clear hR3 hS3 HMU HQ0 HW hb1 hk1 hl1 htt
  go_wp2_with fail
  refine HNM.out.mono ?_
  rintro e W4 ⟨rfl, hR4, hS4⟩
  have hq4 := HQ3.out.move hR4 hS4
  obtain ⟨z0, z1, z2, z3, z4⟩ := hq4.row.q5
  have zf0 := hq4.row.free 0
  obtain ⟨W5, hW5⟩ : ∃ W5, W4.setCell ⟨w.heap.size + 1, 0, none⟩ (.string tt) = W5 := ⟨_, rfl⟩
  have HQ5 : Hid (QW w W5 b a c l k1 lost1 ⟨tt, [], ⟨#[]⟩, false, 0⟩ none 0) := by show QW _ _ _ _ _ _ _ _ _ _ _; rw [← hW5]; exact hq4.set0 tt
  have HW5 := hide hW5
  have HHW := hide (here_any b a c l k1 lost1 1 ⟨#[119, 104, 101, 114, 101]⟩ W5 HQ5.out.rd)
  have hlw := st_where HFL.out rfl HST.out
  obtain ⟨bw, hbw⟩ : ∃ x, x = hereB l k1 1 ⟨#[119, 104, 101, 114, 101]⟩ := ⟨_, rfl⟩
  rw [← hbw] at HHW hlw
  have HLI := hide hlw
  clear hR4 hS4 hq4 HQ3 HNM hW5 hlw hbw HST
  go_wp2_with fail
  rw [HW5.out]
  refine HHW.out.mono ?_
  rintro e W6 ⟨rfl, hR6, hS6⟩
  have HQ6 := hide (HQ5.out.move hR6 hS6)
  clear hR6 hS6 HQ5 HHW HW5 z0 z1 z2 z3 z4 zf0
  go_wp2_with fail
  go_loopw [4] (fun v wr => ∃ (q : Qd) (la : Option Addr) (cc k : Nat) (lost more : Bool), v = .bool more ∧ Hid (QW w wr b a c l k lost q la cc) ∧ Hid (LI l R0 q k lost more) ∧ Hid (q.cs.length ≤ k + 1 ∧ (lost = false → q.cs.length ≤ k))) (fun _ wr => (l.length - posW wr b) + lostW wr b)
  case atStart => exact ⟨_, none, 0, _, lost1, bw, rfl, HQ6, HLI, by show (0 : Nat) ≤ _ ∧ (_ → (0 : Nat) ≤ _); exact ⟨Nat.zero_le _, fun _ => Nat.zero_le _⟩⟩
  case round =>
    clear HQ6 HLI
    obtain ⟨q, la, cc, k, lost, more, rfl, HQW, HLI, HCN⟩ := hrel
    have c2 := HQW.out.rd.row.cell 2 (by simp)
    simp only [List.getElem_toArray, List.getElem_cons_zero, List.getElem_cons_succ] at c2
    have hkl : k ≤ l.length := HQW.out.rd.le
    have HKL : Hid (k ≤ l.length ∧ q.cs.length ≤ 1000001) := ⟨hkl, by have := HCN.out; have := HLL.out; omega⟩
    by_cases hgo : more = true ∧ lost = false
    · obtain ⟨rfl, rfl⟩ := hgo
      obtain ⟨u1, hr1, hg1, _, hm1⟩ := HLI.out.ok rfl
      obtain ⟨n, hn1, hR1⟩ := hm1 rfl
      have HCD := hide (rcond_any b a c l k false u1 wr HFL.out HQW.out.rd (fun _ => hr1))
      have HSTP := hide (fun k2 lost2 cd (hcd : CdRel l k false u1 cd k2 lost2) => st_cond HFL.out hg1 hn1 hR1 hcd)
      have hbw : w.heap.size + 2 ≤ wr.heap.size := HQW.out.sz
      have HPW := hide (posW_is HQW.out.rd)
      clear hr1 hg1 hm1 hn1 hR1 HLI hkl
      go_wp2_with fail
      refine HCD.out.mono ?_
      rintro e W2 ⟨x, xa, cp, k2, lost2, rfl, hIT, hxok, hR2, hS2, hrel⟩
      have hqw2 := HQW.out.move hR2 hS2
      have HL2 := hide (HSTP.out k2 lost2 x hrel)
      have HREL : Hid (k ≤ k2 ∧ (lost2 = false → k < k2)) := ⟨hrel.le, fun e => (hrel.ok e).1⟩
      have hT2s := hS2.size
      have x2 := RowAt.new W2 #[.string ⟨#[]⟩, .int .i64 0, .int .i64 0, .int .i64 0, .string ⟨#[]⟩, .slice none 0 0] 51
      have HSX := hide (store_cd _ W2.heap.size _ _ _ _ _ _ x.field x.sign x.item xa x.item.list.length cp x2)
      obtain ⟨V, hV⟩ : ∃ V, (W2.alloc (.cells #[.string ⟨#[]⟩, .int .i64 0, .int .i64 0, .int .i64 0, .string ⟨#[]⟩, .slice none 0 0] 51)).setRow W2.heap.size (cdV x.field x.sign x.item (.slice xa x.item.list.length cp)) = V := ⟨_, rfl⟩
      have hB : Below W2.heap.size W2 V := by rw [← hV]; exact below_setRow (below_new W2 _) (Nat.le_refl _) _
      have y2 : RowAt V W2.heap.size (cdV x.field x.sign x.item (.slice xa x.item.list.length cp)) 51 := by rw [← hV]; exact row_set _ _ _ _ _ x2
      rw [hV] at HSX
      have hqv := hqw2.below hB
      have hIT3 := hIT.keep hB
      have hVs : wr.heap.size ≤ V.heap.size := Nat.le_trans hT2s hB.size
      have hbk := HQW.out.own.blk
      obtain ⟨us, hus, how, hoks, hins⟩ := hqv.own
      have hq1 : q.cs.length ≤ 1000001 := HKL.out.2
      have hm1 : q.cs.length + 1 ≤ maxLen := by unfold maxLen; omega
      have hm2 : (q.cs.length + 1) * 80 ≤ 140737488355328 := by omega
      have HN : Hid (∀ j u, [Value.string x.field, .int .i64 x.sign, .int .i64 x.item.kind, .int .i64 x.item.num, .string x.item.text, .slice xa x.item.list.length cp][j]? = some u → (V.alloc (.cells #[.string x.field, .int .i64 x.sign, .int .i64 x.item.kind, .int .i64 x.item.num, .string x.item.text, .slice xa x.item.list.length cp] 51)).cell? ((⟨V.heap.size, 0, none⟩ : Addr).add j) = some u) := World.news_of_block (heap_alloc_new V _)
      have HX : Hid (x.Ok ∧ ItsAt V (fun g => wr.heap.size ≤ g) (.slice xa x.item.list.length cp) x.item.list) := ⟨hxok, hIT3⟩
      have HBK : Hid (∀ k, (Value.slice la q.cs.length cc).ownBlock = some k → w.heap.size + 2 ≤ k ∧ k < wr.heap.size) := hbk
      obtain ⟨hc0, hc1, hc2, hc3, hc4, hc5⟩ := y2.q6
      obtain ⟨_, z1, _⟩ := hqv.row.q5
      have HQV := hide hqv
      clear HCD x2 hV y2 hB hIT hIT3 hxok hR2 hS2 hbk hqw2 hqv hrel HSTP HQW c2
      go_wp2_with (first
        | (refine wpList_store_eq rfl 51 _ _ rfl _ _ rfl rfl HSX.out ?_)
        | (at_builtin; go_must (refine wpList_append_lies _ rfl _ _ 22 rfl (w.heap.size + 2) 51 i0 (.agg #[.string ⟨#[]⟩, .int .i64 0, .int .i64 0, .int .i64 0, .string ⟨#[]⟩, .slice none 0 0]) 6 80 Tryz.underlying22 hi hz0 hz1 hz2 rfl (by decide) _ _ _ rfl (how.alloc _) ⟨V.heap.size, 0, none⟩ 1 1 [.string x.field, .int .i64 x.sign, .int .i64 x.item.kind, .int .i64 x.item.num, .string x.item.text, .slice xa x.item.list.length cp] rfl rfl HN.out (cds_cells1 _ _ _ _ _ _ _ _) (by decide) hm1 hm2 (by simp; omega) _ rfl ?_)))
      intro g5 cap5 w5 hown5 hgrow hat hlg
      obtain ⟨HO5, HB5⟩ := cd_push hbw hVs HBK.out HX.out.1 hus hoks hins HX.out.2 rfl hown5 hgrow hat
      obtain ⟨hr5, hq6⟩ := HQV.out.push HB5 HO5
      obtain ⟨_, z1, _⟩ := hr5.q5
      have zf1 := hr5.free 1
      obtain ⟨W6, hW6⟩ : ∃ W6, w5.setCell ⟨w.heap.size + 1, 1, none⟩ (.slice (some ⟨g5, 0, none⟩) (q.cs.length + 1) cap5) = W6 := ⟨_, rfl⟩
      rw [hW6] at hq6
      have HQ6 := hide hq6
      have HW6 := hide hW6
      have HHA := hide (here_any b a c l k2 lost2 1 ⟨#[97, 110, 100]⟩ W6 hq6.rd)
      obtain ⟨ba, hba⟩ : ∃ x, x = hereB l k2 1 ⟨#[97, 110, 100]⟩ := ⟨_, rfl⟩
      rw [← hba] at HHA HL2
      clear hown5 hgrow hat hlg HO5 HB5 hins hoks how HX HN HQV hr5 hq6 hW6 hba hc0 hc1 hc2 hc3 hc4 hc5
      go_wp2_with fail
      rw [HW6.out]
      refine HHA.out.mono ?_
      rintro e W7 ⟨rfl, hR7, hS7⟩
      have hq7 := HQ6.out.move hR7 hS7
      have HQ7 := hide hq7
      have HP7 := hide (posW_is hR7)
      have HK7 : Hid (goOn k2 ba ≤ l.length ∧ k2 ≤ goOn k2 ba) := ⟨hR7.le, by unfold goOn; split <;> omega⟩
      clear hR7 hS7 hq7 HHA HW6 HQ6 z1 zf1
      go_wp2_with fail
      go_roundw
      case rel =>
        refine ⟨_, some ⟨g5, 0, none⟩, cap5, goOn k2 ba, lost2, ba, rfl, HQ7, HL2, ?_⟩
        have h1 := HCN.out
        have h2 := HREL.out
        have h3 := HK7.out
        show (q.cs ++ [x]).length ≤ _ ∧ (_ → (q.cs ++ [x]).length ≤ _)
        simp only [List.length_append, List.length_singleton]
        exact ⟨by have := h1.2 (by first | rfl | trivial); omega, fun e => by have := h2.2 e; have := h1.2 (by first | rfl | trivial); omega⟩
      case measure =>
        have h0 := HPW.out
        have h1 := HP7.out
        have h2 := HREL.out
        have h3 := HK7.out
        rw [h0.1, h0.2, h1.1, h1.2]
        cases lost2 with
        | true => simp; omega
        | false => have := h2.2 rfl; simp; omega
    · have hin : lost = false → more = false := fun e => by
        cases hmm : more with
        | false => rfl
        | true => exact absurd ⟨hmm, e⟩ hgo
      have HI := hide (HLI.out.out hin)
      have hcase : more = false ∨ (more = true ∧ lost = true) := by
        cases hmm : more with
        | false => exact .inl rfl
        | true =>
          refine .inr ⟨rfl, ?_⟩
          cases hll : lost with
          | true => rfl
          | false => exact absurd ⟨hmm, hll⟩ hgo
      clear hgo hin HLI hkl HCN
      have HHO := hide (here_any b a c l k lost 1 ⟨#[111, 114, 100, 101, 114]⟩ wr HQW.out.rd)
      obtain ⟨bo, hbo⟩ : ∃ x, x = hereB l k 1 ⟨#[111, 114, 100, 101, 114]⟩ := ⟨_, rfl⟩
      rw [← hbo] at HHO
      have HBO := hide hbo
      clear hbo
      have HC3 : Hid (q.cs.length ≤ 1000002) := by have := HKL.out; show _ ≤ _; omega
      clear HKL
      rcases hcase with hmo | ⟨hmo, hlo⟩
      all_goals
        first
          | (rw [hlo] at c2)
          | skip
        subst hmo
        go_wp2_with fail
        refine HHO.out.mono ?_
        rintro e W1 ⟨rfl, hR1, hS1⟩
        have HQ1 := hide (HQW.out.move hR1 hS1)
        clear hR1 hS1 HHO HQW c2
        go_upto_if 36 with fail
        go_cut [6] (fun _ wx => QC2 w b a c l R0 F3 la cc wx)
        case first =>
          cases bo with
          | false =>
            have HI3 := hide (st_order0 HFL.out HI.out HBO.out.symm)
            have HQ3 : Hid (QW w W1 b a c l k lost q la cc) := HQ1.out
            clear HI HBO HQ1
            go_wp2_with fail
            go_meet
            exact ⟨q, k, lost, HQ3, HI3, HC3⟩
          | true =>
            have hq1 : QW w W1 b a c l (k + 1) lost q la cc := HQ1.out
            have HMB := hide (must_any b a c l (k + 1) lost 1 ⟨#[98, 121]⟩ W1 hq1.rd)
            have HQ2 := hide hq1
            obtain ⟨b2, hb2⟩ : ∃ x, x = hereB l (k + 1) 1 ⟨#[98, 121]⟩ := ⟨_, rfl⟩
            obtain ⟨k2, hk2⟩ : ∃ x, x = goOn (k + 1) b2 := ⟨_, rfl⟩
            obtain ⟨lost2, hl2⟩ : ∃ x, x = (lost || !b2) := ⟨_, rfl⟩
            rw [← hb2, ← hk2, ← hl2] at HMB
            obtain ⟨k3, hk3⟩ : ∃ x, x = goN l k2 := ⟨_, rfl⟩
            obtain ⟨lost3, hl3⟩ : ∃ x, x = (lost2 || !nameOkT (nxt l k2)) := ⟨_, rfl⟩
            obtain ⟨b4, hb4⟩ : ∃ x, x = hereB l k3 1 ⟨#[102, 97, 108, 108, 105, 110, 103]⟩ := ⟨_, rfl⟩
            obtain ⟨k4, hk4⟩ : ∃ x, x = goOn k3 b4 := ⟨_, rfl⟩
            have hi3 := st_order1 HFL.out HI.out HBO.out.symm hb2 hk2 hl2 hk3 hl3 hb4 hk4
            have HNM := hide (fun W (h : RdS W b a c l k2 lost2) => rname_any b a c l k2 lost2 W h HTZ.out)
            have HHF := hide (fun W (h : RdS W b a c l k3 lost3) => here_any b a c l k3 lost3 1 ⟨#[102, 97, 108, 108, 105, 110, 103]⟩ W h)
            obtain ⟨tno, hto⟩ : ∃ x, x = (nxt l k2).text := ⟨_, rfl⟩
            rw [← hk3, ← hl3, ← hto] at HNM
            rw [← hb4, ← hk4] at HHF
            rw [← hto] at hi3
            obtain ⟨q4, hq4⟩ : ∃ x : Qd, x = ⟨q.table, q.cs, tno, b4, q.limit⟩ := ⟨_, rfl⟩
            rw [← hq4] at hi3
            have HI3 := hide hi3
            have HQ4 := hide hq4
            have HC4 : Hid (q4.cs.length ≤ 1000002) := by show _ ≤ _; rw [hq4]; exact HC3.out
            clear hq1 hb2 hk2 hl2 hk3 hl3 hb4 hk4 hi3 hto hq4 HI HBO HQ1 HC3
            go_wp2_with fail
            refine HMB.out.mono ?_
            rintro e W5 ⟨rfl, hR5, hS5⟩
            have hq5 := HQ2.out.move hR5 hS5
            have HQ5 := hide hq5
            clear hR5 hS5 hq5 HMB HQ2
            go_wp2_with fail
            refine (HNM.out W5 HQ5.out.rd).mono ?_
            rintro e W6 ⟨rfl, hR6, hS6⟩
            have hq6 := HQ5.out.move hR6 hS6
            obtain ⟨_, _, v2, _, _⟩ := hq6.row.q5
            have vf2 := hq6.row.free 2
            have hq7 := hq6.set2 tno
            obtain ⟨W7, hW7⟩ : ∃ W7, W6.setCell ⟨w.heap.size + 1, 2, none⟩ (.string tno) = W7 := ⟨_, rfl⟩
            rw [hW7] at hq7
            have HQ7 := hide hq7
            have HW7 := hide hW7
            clear hR6 hS6 hq6 hq7 hW7 HNM HQ5
            go_wp2_with fail
            rw [HW7.out]
            refine (HHF.out W7 HQ7.out.rd).mono ?_
            rintro e W8 ⟨rfl, hR8, hS8⟩
            have hq8 := HQ7.out.move hR8 hS8
            obtain ⟨_, _, _, v3, _⟩ := hq8.row.q5
            have vf3 := hq8.row.free 3
            have hq9 := hq8.set3 b4
            have HQ3 : Hid (QW w (W8.setCell ⟨w.heap.size + 1, 3, none⟩ (.bool b4)) b a c l k4 lost3 q4 la cc) := by show QW _ _ _ _ _ _ _ _ _ _ _; rw [HQ4.out]; exact hq9
            clear hR8 hS8 hq8 hq9 HHF HQ7 HW7 v2 vf2 HQ4
            go_wp2_with fail
            go_meet
            exact ⟨q4, k4, lost3, HQ3, HI3, HC4⟩
        case rest =>
          clear HQ1 HI HC3 HBO
          have hcut2 : QC2 w b a c l R0 F3 la cc wc := hcut
          clear hcut
          obtain ⟨q, k, lost, HQ3, HI3, HC3⟩ := hcut2
          have HHL := hide (here_any b a c l k lost 1 ⟨#[108, 105, 109, 105, 116]⟩ wc HQ3.out.rd)
          obtain ⟨bl, hbl⟩ : ∃ x, x = hereB l k 1 ⟨#[108, 105, 109, 105, 116]⟩ := ⟨_, rfl⟩
          rw [← hbl] at HHL
          have HBL := hide hbl
          clear hbl
          go_wp2_with fail
          refine HHL.out.mono ?_
          rintro e Wl ⟨rfl, hRl, hSl⟩
          have HQL := hide (HQ3.out.move hRl hSl)
          clear hRl hSl HHL HQ3
          go_upto_if 47 with fail
          go_cut [7] (fun _ wx => QC2 w b a c l R0 F4 la cc wx)
          case first =>
            cases bl with
            | false =>
              have HIE := hide (st_limit0 HFL.out HI3.out HBL.out.symm)
              have HQE : Hid (QW w Wl b a c l k lost q la cc) := HQL.out
              clear HI3 HBL HQL
              go_wp2_with fail
              go_meet
              exact ⟨q, k, lost, HQE, HIE, HC3⟩
            | true =>
              have hq0 : QW w Wl b a c l (k + 1) lost q la cc := HQL.out
              have HNX := hide (next_any b a c l (k + 1) lost Wl hq0.rd)
              have hie := st_limit1 HFL.out HI3.out HBL.out.symm
              obtain ⟨k9, hk9⟩ : ∃ x, x = goN l (k + 1) := ⟨_, rfl⟩
              obtain ⟨t9, ht9⟩ : ∃ x, x = nxt l (k + 1) := ⟨_, rfl⟩
              rw [← hk9, ← ht9] at HNX hie
              have HQ0 := hide hq0
              obtain ⟨tk, tn, tt9⟩ := t9
              simp only [tkV] at HNX hie
              obtain ⟨q9, hq9⟩ : ∃ x : Qd, x = ⟨q.table, q.cs, q.order, q.falling, tn⟩ := ⟨_, rfl⟩
              rw [← hq9] at hie
              have HIE0 := hide hie
              have HQ9 := hide hq9
              have HC9 : Hid (q9.cs.length ≤ 1000002) := by show _ ≤ _; rw [hq9]; exact HC3.out
              clear hq0 hie hk9 ht9 hq9 HI3 HBL HQL HC3
              go_wp2_with fail
              refine HNX.out.mono ?_
              rintro e Wn ⟨rfl, hRn, hSn⟩
              have hqn := HQ0.out.move hRn hSn
              have x3 := RowAt.new Wn #[.int .i64 0, .int .i64 0, .string ⟨#[]⟩] 70
              have HST2 := hide (store_row _ Wn.heap.size 70 _ #[.int .i64 tk, .int .i64 tn, .string tt9] x3 (by kernel_rfl) rfl (by simp [Value.oneCell']))
              obtain ⟨V, hV⟩ : ∃ V, (Wn.alloc (.cells #[.int .i64 0, .int .i64 0, .string ⟨#[]⟩] 70)).setRow Wn.heap.size #[.int .i64 tk, .int .i64 tn, .string tt9] = V := ⟨_, rfl⟩
              have hBv : Below Wn.heap.size Wn V := by rw [← hV]; exact below_setRow (below_new Wn _) (Nat.le_refl _) _
              have y3 : RowAt V Wn.heap.size #[.int .i64 tk, .int .i64 tn, .string tt9] 70 := by rw [← hV]; exact row_set _ _ _ _ _ x3
              rw [hV] at HST2
              have hqv := hqn.below hBv
              have hne : Wn.heap.size ≠ w.heap.size + 1 := by have := hqn.sz; omega
              have d1 := y3.cell 1 (by simp)
              obtain ⟨_, _, _, _, zz4⟩ := hqv.row.q5
              have zf4 := hqv.row.free 4
              have y5 := y3.other hne (.int .i64 tn) (j := 4)
              have e0 := y5.cell 0 (by simp)
              have e1 := y5.cell 1 (by simp)
              simp only [List.getElem_toArray, List.getElem_cons_zero, List.getElem_cons_succ] at d1 e0 e1
              obtain ⟨V5, hV5⟩ : ∃ V5, V.setCell ⟨w.heap.size + 1, 4, none⟩ (.int .i64 tn) = V5 := ⟨_, rfl⟩
              have hq5 : QW w V5 b a c l k9 lost q9 la cc := by
                have hq5' := hqv.set4 tn
                rw [hV5] at hq5'
                rw [HQ9.out]
                exact hq5'
              have HQ5 := hide hq5
              have HV5 := hide hV5
              have l2 := hq5.rd.row.cell 2 (by simp)
              have lf2 := hq5.rd.row.free 2
              simp only [List.getElem_toArray, List.getElem_cons_zero, List.getElem_cons_succ] at l2
              rw [← hV5] at l2 lf2
              clear hqn x3 hV hBv y3 hqv hne y5 hV5 hq5 HNX HQ0 hRn hSn HQ9
              by_cases e3 : tk = 3
              · have k3 : (tk != 3) = false := by simp [e3]
                by_cases e1n : tn < 1
                · have HIE : Hid (QI l R0 F4 q9 k9 true) := by show QI _ _ _ _ _ _; have := HIE0.out; simpa [e3, e1n] using this
                  have HQE := hide HQ5.out.lose
                  clear HIE0 HQ5 e3
                  go_wp2_with (first
                    | (refine wpList_store_eq rfl 70 _ _ rfl _ _ rfl rfl HST2.out ?_)
                    | fail)
                  go_meet
                  rw [HV5.out]
                  exact ⟨q9, k9, true, HQE, HIE, HC9⟩
                · have HIE : Hid (QI l R0 F4 q9 k9 lost) := by show QI _ _ _ _ _ _; have := HIE0.out; simpa [e3, e1n] using this
                  clear HIE0 e3
                  go_wp2_with (first
                    | (refine wpList_store_eq rfl 70 _ _ rfl _ _ rfl rfl HST2.out ?_)
                    | fail)
                  go_meet
                  rw [HV5.out]
                  exact ⟨q9, k9, lost, HQ5, HIE, HC9⟩
              · have k3 : (tk != 3) = true := by simp [e3]
                have HIE : Hid (QI l R0 F4 q9 k9 true) := by show QI _ _ _ _ _ _; have := HIE0.out; simpa [e3] using this
                have HQE := hide HQ5.out.lose
                clear HIE0 HQ5
                go_wp2_with (first
                  | (refine wpList_store_eq rfl 70 _ _ rfl _ _ rfl rfl HST2.out ?_)
                  | fail)
                go_meet
                rw [HV5.out]
                exact ⟨q9, k9, true, HQE, HIE, HC9⟩
          case rest =>
            clear HQL HI3 HC3 HBL
            have hcut2 : QC2 w b a c l R0 F4 la cc wc := hcut
            clear hcut
            obtain ⟨q, k, lost, HQE, HIE, HC3⟩ := hcut2
            have hqe : QW w wc b a c l k lost q la cc := HQE.out
            obtain ⟨z0, z1, z2, z3, z4⟩ := hqe.row.q5
            have p0 := hqe.rd.row.cell 0 (by simp)
            have p1 := hqe.rd.row.cell 1 (by simp)
            have pf2 := hqe.rd.row.free 2
            have p2 := hqe.rd.row.cell 2 (by simp)
            simp only [List.getElem_toArray, List.getElem_cons_zero, List.getElem_cons_succ] at p0 p1 p2
            have hse := st_end HIE.out hqe.rd.le
            have hKI : ((k : Int) == (l.length : Int)) = decide (k = l.length) := by
              by_cases h : k = l.length
              · simp [h]
              · have : ¬ (k : Int) = (l.length : Int) := by omega
                simp [h, this]
            by_cases hk : k = l.length
            · have hkd : decide (k = l.length) = true := by simp [hk]
              have hkn : decide (k ≠ l.length) = false := by simp [hk]
              rw [hkd] at hKI
              rw [hkn, Bool.or_false] at hse
              have HFI := hide (fun n => (hqe.below (below_drewN' (Below.refl _ _) n)).fin HC3.out hse)
              have HRES := hide (fun n => (hqe.below (below_drewN' (Below.refl _ _) n)).res)
              have HSQ := hide (fun n => store_row _ w.heap.size 24 _ (qV q (.slice la q.cs.length cc)) (HRES.out n) (by kernel_rfl) rfl (by simp [Value.oneCell']))
              clear hqe hse hk hkd hkn HQE HIE p2 pf2
              go_wp2_with fail
              go_quiet (fail)
              go_wp2_with (first
                | (refine wpList_store_eq rfl 24 _ _ rfl _ _ rfl rfl (HSQ.out _) ?_))
              refine bodyPost_ret (results_cell_row rfl _ _ w.heap.size 24 _ (0, 0) _ rfl (row_set _ _ _ _ _ (HRES.out _)) Tryz.underlying24 rfl (by kernel_rfl)) rfl ?_
              exact HFI.out _
            · have hkd : decide (k = l.length) = false := by simp [hk]
              have hkn : decide (k ≠ l.length) = true := by simp [hk]
              rw [hkd] at hKI
              rw [hkn, Bool.or_true] at hse
              have HFI := hide (fun n => (hqe.below (below_drewN' (Below.refl _ _) n)).lose.fin HC3.out ⟨fun e => (by cases e), fun _ => hse.2 rfl⟩)
              have HRES := hide (fun n => (hqe.below (below_drewN' (Below.refl _ _) n)).lose.res)
              have HROW := hide (fun n => (hqe.below (below_drewN' (Below.refl _ _) n)).lose.row.q5)
              have HSQ := hide (fun n => store_row _ w.heap.size 24 _ (qV q (.slice la q.cs.length cc)) (HRES.out n) (by kernel_rfl) rfl (by simp [Value.oneCell']))
              clear hqe hse hk hkd hkn HQE HIE z0 z1 z2 z3 z4
              go_wp2_with fail
              go_quiet (fail)
              obtain ⟨z0, z1, z2, z3, z4⟩ := HROW.out nq
              go_wp2_with (first
                | (refine wpList_store_eq rfl 24 _ _ rfl _ _ rfl rfl (HSQ.out _) ?_))
              refine bodyPost_ret (results_cell_row rfl _ _ w.heap.size 24 _ (0, 0) _ rfl (row_set _ _ _ _ _ (HRES.out _)) Tryz.underlying24 rfl (by kernel_rfl)) rfl ?_
              exact HFI.out _
end Go.Proofs.YtkgeabljdkkonaaGreatDoor
