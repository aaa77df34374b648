import Derived.Test.YtdacbajiapdiiabDoorREnc8
namespace Go.Proofs.YtdacbajiapdiiabDoor
open Go.RowKit

/-- What the document's Decode answers. -/
def RDecV (c : Int) (s : ByteArray) (base : Nat) (e : Ending) (w : World) : Prop :=
  (0 ≤ c ∧ DecOk c.toNat s.data.toList ∧ ∃ u, e = .returned (.tuple #[u, .int .i64 0]) ∧ PrO w base u (decL c.toNat s.data.toList)) ∨
    (¬ (0 ≤ c ∧ DecOk c.toNat s.data.toList) ∧ e = .returned (.tuple #[.slice none 0 0, .int .i64 2]))
set_option maxRecDepth 20000 in
set_option maxHeartbeats 4000000 in
theorem rldec_any (c : Int) (s : ByteArray) (w : World) :
    Calls Tryd.prog 7 #[.int .i64 c, .string s] w fun e w' => RDecV c s w.heap.size e w' ∧ Below w.heap.size w w' := by
  have HRD := hide (rread_any c s w)
  obtain ⟨Q, hQ⟩ : ∃ Q : Ending → World → Prop, Q = fun e w' => RDecV c s w.heap.size e w' ∧ Below w.heap.size w w' := ⟨_, rfl⟩
  rw [← hQ]
  have HQ := hide hQ
  clear hQ
  go_enter Tryd.func7, Tryd.ntmps7
  go_wp2_with fail
  refine HRD.out.mono ?_
  rintro e w1 ⟨⟨hc0, hok, ta, tc, rfl, hown⟩ | ⟨hno, rfl⟩, hb1⟩
  · obtain ⟨n, rfl⟩ := Int.eq_ofNat_of_zero_le hc0
    simp only [Int.toNat_natCast] at hok hown ⊢
    have hn := hok.1.1
    obtain ⟨B, hB⟩ : ∃ B, B = s.data.toList := ⟨_, rfl⟩
    obtain ⟨CB, hCB⟩ : ∃ CB, CB = cellsB B n := ⟨_, rfl⟩
    have hCl : CB.length = n := by rw [hCB, cellsB_len]
    rw [← hB] at hok hown
    rw [← hCB] at hown
    have hCsz : ∀ x ∈ CB, x.size ≤ 4072 := fun x hx => by
      rw [hCB] at hx
      obtain ⟨j, hj, rfl⟩ := List.getElem_of_mem hx
      rw [cellsB_len] at hj
      rw [← bsize, cellsB_get, cellB_len hok j hj]
      have := endB_le hok (j + 1) (by omega)
      omega
    have HB1 := hide hb1
    have HTX := hide (rowR_of_owns hown).strs
    have HREF : Hid (DecOk (n : Int).toNat s.data.toList ↔ (chk (CB.map rpairC) true = none ∧ layL ((CB.map rpairC).map cellP) = B)) := by
      show _ ↔ _
      rw [Int.toNat_natCast, ← hB, hCB]
      exact dec_ref hok
    have HDL : Hid (DecOk (n : Int).toNat s.data.toList → decL (n : Int).toNat s.data.toList = CB.map rpairC) := fun h => by
      rw [Int.toNat_natCast, ← hB] at h ⊢
      unfold decL
      rw [← hCB]
      exact (List.map_congr_left (fun x hx => rpair_ok (h.2.1 x (by rw [← hCB]; exact hx)))).symm
    have HCL := hide hCl
    have HCS := hide hCsz
    have HBB := hide hB
    clear hown hok hCl hCsz hCB hB hb1 HRD hc0
    go_wp2
    go_loopw [8, 9] (fun u i wr => ∃ k : Nat, k ≤ n ∧ i = .int .i64 k ∧ PrO wr w1.heap.size u ((CB.take k).map rpairC) ∧ Below w1.heap.size w1 wr) (fun _ i _ => n - (intOf i).toNat)
    case atStart => exact ⟨0, Nat.zero_le _, rfl, PrO.nil _ _, Below.refl _ _⟩
    case round =>
      obtain ⟨k, hk, rfl, hown, hbw⟩ := hrel
      have htk : ((CB.take k).map rpairC).length = k := by rw [List.length_map, List.length_take]; have := HCL.out; omega
      obtain ⟨ua, uc, hu⟩ := hown.form
      rw [htk] at hu
      subst hu
      by_cases hlt : k < n
      · have hkl : k < CB.length := by have := HCL.out; omega
        have htx := HTX.out.below hbw
        obtain ⟨ta', tc', hte, _, hcc⟩ := htx
        obtain ⟨g', o', ha, f1⟩ := hcc k hkl
        simp only [Value.slice.injEq] at hte
        obtain ⟨rfl, -⟩ := hte
        subst ha
        have HPO := hide (fun W => rpairOf_any CB[k] W (HCS.out _ (List.getElem_mem _)))
        have HS : Hid ((CB.take (k + 1)).map rpairC = (CB.take k).map rpairC ++ [rpairC CB[k]]) := by show _ = _; rw [List.take_succ_eq_append_getElem hkl, List.map_append]; rfl
        obtain ⟨p, hp⟩ : ∃ p, p = rpairC CB[k] := ⟨_, rfl⟩
        rw [← hp] at HPO HS
        obtain ⟨ck, hck⟩ : ∃ ck, ck = CB[k] := ⟨_, rfl⟩
        rw [← hck] at f1 HPO
        have HBW := hide hbw
        have HOW := hide hown
        have HTK := hide htk
        have hltI : (k : Int) < (n : Int) := by omega
        have j0 : (0 : Int) ≤ (k : Int) := by omega
        clear hck hp hcc hbw hown htk
        go_wp2_with fail
        refine (HPO.out _).mono ?_
        rintro e w2 ⟨rfl, hb2⟩
        obtain ⟨a1, cp1, w3, hrun, hown1, hb3, _⟩ := push_prs w1.heap.size _ _ p 45 w2 w1 w1.heap.size k HTK.out (HOW.out.below hb2) (by omega) (by have := HBW.out.size; have := hb2.size; omega) (Nat.le_refl _) (Below.next HBW.out hb2)
        rw [← HS.out] at hown1
        have HO2 := hide hown1
        have HB2 := hide hb3
        clear hb2 hown1 hb3 HOW HBW HPO HS f1
        go_wp2_with (first | (at_builtin; refine wpList_append_run 24 rfl (.tmp 26) (.tmp 32) rfl rfl _ _ rfl rfl _ _ hrun ?_))
        clear hrun
        go_wp2
        go_roundw
        case rel => exact ⟨k + 1, by omega, by go_num, HO2.out, HB2.out⟩
        case measure => simp [intOf]; omega
      · have hkn : k = n := by omega
        have hall : (CB.take k).map rpairC = CB.map rpairC := by rw [List.take_of_length_le]; have := HCL.out; omega
        rw [hall] at hown
        have hoks : OkL (CB.map rpairC) := fun p hp => by
          obtain ⟨c0, hc0, rfl⟩ := List.mem_map.1 hp
          have h0 := HCS.out c0 hc0
          unfold rpairC
          split
          · exact ⟨Nat.zero_le _, Nat.zero_le _⟩
          · have h1 := pairC_k c0
            have h2 := pairC_v c0
            have h3 := (keyC_le c0.data.toList).1
            omega
        have HEN := hide (rlenc_any _ (CB.map rpairC) wr hoks (by rw [List.length_map]; have := HCL.out; omega) hown.at)
        obtain ⟨L, hL⟩ : ∃ L, L = CB.map rpairC := ⟨_, rfl⟩
        rw [← hL] at HEN hown HREF HDL
        have HBW := hide hbw
        have HOW := hide hown
        have hltI : ¬ (k : Int) < (n : Int) := by omega
        have HKN := hide hkn
        clear hbw hown htk hall hoks hL HTX HCS hkn
        go_wp2_with fail
        refine HEN.out.mono ?_
        rintro e w3 ⟨hv, hb3⟩
        have HB3 := hide (Below.next HB1.out (Below.next HBW.out hb3))
        have HO3 := hide ((HOW.out.below hb3).mono HB1.out.size)
        clear hb3 HEN HBW HOW
        rcases hv with ⟨hch, rfl⟩ | ⟨m, hch, rfl⟩
        · by_cases heq : encL L = s
          · have hdo : DecOk (n : Int).toNat s.data.toList := HREF.out.2 ⟨hch, by rw [HBB.out, ← heq]; simp [encL]⟩
            have HD := hide hdo
            have HDE := hide (HDL.out hdo)
            have hbn : ((encL L).toList == s.toList) = true := by rw [heq]; simp
            obtain ⟨E, hE⟩ : ∃ E, E = encL L := ⟨_, rfl⟩
            rw [← hE] at hbn ⊢
            have hd0 : (((0 : Nat) : Int) != 0) = false := by simp
            clear hdo heq hE hch
            go_wp2
            rw [HQ.out]
            exact ⟨.inl ⟨by omega, HD.out, _, rfl, by rw [HDE.out]; exact HO3.out⟩, HB3.out⟩
          · have HD : Hid (¬ (0 ≤ (n : Int) ∧ DecOk (n : Int).toNat s.data.toList)) := fun h => by
              have := (HREF.out.1 h.2).2
              exact heq (ba_ext' (by simp only [encL]; rw [this, HBB.out]))
            have hbn : ((encL L).toList == s.toList) = false := by rw [beq_eq_false_iff_ne]; exact fun he => heq (by rw [ByteArray.toList_eq, ByteArray.toList_eq] at he; exact ba_ext' he)
            obtain ⟨E, hE⟩ : ∃ E, E = encL L := ⟨_, rfl⟩
            rw [← hE] at hbn ⊢
            clear heq hE hch
            go_wp2
            rw [HQ.out]
            exact ⟨.inr ⟨HD.out, rfl⟩, HB3.out⟩
        · have HD : Hid (¬ (0 ≤ (n : Int) ∧ DecOk (n : Int).toNat s.data.toList)) := fun h => by
            have := (HREF.out.1 h.2).1
            rw [hch] at this; cases this
          obtain ⟨m1, hm1⟩ : ∃ m1, m1 = m + 1 := ⟨_, rfl⟩
          rw [← hm1]
          have hd0 : ((m1 : Int) != 0) = true := by rw [bne_iff_ne]; omega
          clear hm1 hch
          go_wp2
          rw [HQ.out]
          exact ⟨.inr ⟨HD.out, rfl⟩, HB3.out⟩
  · have HNO : Hid (¬ (0 ≤ c ∧ DecOk c.toNat s.data.toList)) := fun h => hno ⟨h.1, h.2.1⟩
    have HB1 := hide hb1
    clear hb1 hno HRD
    go_wp2
    rw [HQ.out]
    exact ⟨.inr ⟨HNO.out, rfl⟩, HB1.out⟩

end Go.Proofs.YtdacbajiapdiiabDoor
