import Derived.Test.YtdacbajiapdiiabDoorCTrim
import Derived.Test.YtdacbajiapdiiabDoorErrs
import Derived.Test.YtdacbajiapdiiabDoorRowT
namespace Go.Proofs.YtdacbajiapdiiabDoor
open Go.RowKit

def AllZ (s : ByteArray) : Prop := ∀ j, j < s.size → s.data.toList.getD j 0 = 0
set_option maxHeartbeats 400000 in
theorem allz_any (s : ByteArray) (w : World) (hs : s.size ≤ 140737488355328) :
    Calls Tryd.prog 48 #[.string s] w fun e w' => ((AllZ s ∧ e = .returned (.bool true)) ∨ (¬ AllZ s ∧ e = .returned (.bool false))) ∧ Below w.heap.size w w' := by
  have HT := hide (trim_any s w hs)
  by_cases hz : AllZ s
  · have ht : trL (trR s) = ByteArray.empty := (trim_nil s).2 hz
    rw [ht] at HT
    have HZ := hide hz
    clear hz ht
    go_enter Tryd.func48, Tryd.ntmps48
    go_wp2_with fail
    refine HT.out.mono ?_
    rintro e w' ⟨rfl, hb⟩
    go_wp2
    go_ret
    exact ⟨.inl ⟨HZ.out, rfl⟩, hb⟩
  · have ht : ¬ trL (trR s) = ByteArray.empty := fun h => hz ((trim_nil s).1 h)
    have hne : (trL (trR s)).toList.isEmpty = false := by rw [empty_iff]; exact decide_eq_false ht
    have HZ := hide hz
    generalize trL (trR s) = t at *
    have hne2 : ¬ t.toList = [] := fun h => by rw [h] at hne; cases hne
    clear hz ht
    go_enter Tryd.func48, Tryd.ntmps48
    go_wp2_with fail
    refine HT.out.mono ?_
    rintro e w' ⟨rfl, hb⟩
    go_wp2
    go_ret
    exact ⟨.inr ⟨HZ.out, rfl⟩, hb⟩

/-- The row that Read fills, k cells of it. -/
def rowK (b : List UInt8) (n k : Nat) : List Value := strs ((cellsB b n).take k) ++ List.replicate (n - k) (.string ByteArray.empty)
theorem rowK_zero (b : List UInt8) (n : Nat) : rowK b n 0 = List.replicate n (.string ByteArray.empty) := by simp [rowK, strs]
theorem rowK_all (b : List UInt8) (n : Nat) : rowK b n n = strs (cellsB b n) := by
  unfold rowK
  rw [List.take_of_length_le (by rw [cellsB_len]; exact Nat.le_refl _), Nat.sub_self]; simp
theorem rowK_len (b : List UInt8) (n k : Nat) (h : k ≤ n) : (rowK b n k).length = n := by
  simp [rowK, strs, cellsB_len]; omega
theorem rowK_set (b : List UInt8) (n k : Nat) (h : k < n) (hk : k < (cellsB b n).length) : (rowK b n k).set k (.string (cellsB b n)[k]) = rowK b n (k + 1) := by
  unfold rowK
  rw [List.set_append_right _ _ (by rw [strs_length, List.length_take, cellsB_len]; omega), List.take_succ_eq_append_getElem hk, strs_append]
  rw [strs_length, List.length_take, cellsB_len, Nat.min_eq_left (by omega), Nat.sub_self, show n - k = (n - (k + 1)) + 1 by omega, List.replicate_succ, List.set_cons_zero]
  simp [strs]
theorem getD_drop (l : List UInt8) (a j : Nat) : (l.drop a).getD j 0 = l.getD (a + j) 0 := by
  rw [List.getD_eq_getElem?_getD, List.getD_eq_getElem?_getD, List.getElem?_drop]
theorem allz_ext (s : ByteArray) (a : Nat) (ha : a ≤ s.size) : AllZ (s.extract a s.size) ↔ ∀ j, a ≤ j → j < s.size → s.data.toList.getD j 0 = 0 := by
  have hl : (s.extract a s.size).data.toList = s.data.toList.drop a := by
    rw [ext_toList, List.take_of_length_le (by rw [List.length_drop, bsize]; omega)]
  have hsz : (s.extract a s.size).size = s.size - a := by rw [ByteArray.size_extract]; omega
  unfold AllZ
  rw [hl, hsz]
  constructor
  · intro h j h1 h2
    have := h (j - a) (by omega)
    rw [getD_drop, show a + (j - a) = j by omega] at this
    exact this
  · intro h j hj
    rw [getD_drop]; exact h _ (by omega) (by omega)
def ReadV (A : Nat → Addr) (c : Int) (s : ByteArray) (w : World) (e : Ending) (w' : World) : Prop :=
  (0 ≤ c ∧ OkR s.data.toList c.toNat ∧ ∃ g, e = .returned (.tuple #[.slice (some ⟨g, 0, none⟩) c.toNat c.toNat, .nilIface]) ∧ w'.ownsRow w.heap.size 9 1 (.slice (some ⟨g, 0, none⟩) c.toNat c.toNat) c.toNat (strs (cellsB s.data.toList c.toNat))) ∨
    (¬ (0 ≤ c ∧ OkR s.data.toList c.toNat) ∧ e = .returned (.tuple #[.slice none 0 0, .iface 128 (.pointer (some (A 1)))]))

set_option maxHeartbeats 4000000 in
theorem read_in (A : Nat → Addr) (n : Nat) (s : ByteArray) (w : World) (hn : n ≤ 2036) (hsz : s.size = 4072) (hE : ErrsG 4 gAll A w) :
    Calls Tryd.prog 22 #[.int .i64 (n : Int), .string s] w fun e w' => ReadV A n s w e w' ∧ Below w.heap.size w w' := by
  obtain ⟨i0, hi, hz0, hz1, hz2⟩ := info_parts info9
  obtain ⟨w1, hmk, ho1, hg1⟩ := run_make_full (P := Tryd.prog) w w.heap.size 53 9 i0 (.string ByteArray.empty) 1 Tryd.underlying53 hi hz0 hz1 .i64 .i64 n (by rw [hz2]; omega) (by unfold maxLen; omega) (Nat.le_refl _)
  have hb1 : Below w.heap.size w w1 := (Below.refl _ _).grown hg1 (Nat.le_refl _) (fun j hj => by cases hj)
  rw [Nat.mul_one, show (Value.string ByteArray.empty).cells = #[.string ByteArray.empty] from rfl, toList_madeCells_one] at ho1
  have HO1 : Hid (w1.ownsRow w.heap.size 9 1 (.slice (some ⟨w.heap.size, 0, none⟩) n n) n (rowK s.data.toList n 0)) := by
    show World.ownsRow _ _ _ _ _ _ _
    rw [rowK_zero]; exact ho1
  have HB1 := hide hb1
  have HE := hide hE
  have HSZ := hide hsz
  have d1 : ((s.size : Int) != 4072) = false := by rw [hsz]; rfl
  have hnI : (n : Int) ≤ 2036 := by omega
  have hn1 : ¬ (n : Int) < 0 := by omega
  have hn2 : ¬ (2036 : Int) < (n : Int) := by omega
  have hn0 : (0 : Int) ≤ (n : Int) := by omega
  have hwn : IntKind.i64.wrap (2 * (n : Int)) = ((2 * n : Nat) : Int) := by rw [IntKind.wrap_i64]; omega
  obtain ⟨n2, hn2e⟩ : ∃ n2, n2 = 2 * n := ⟨_, rfl⟩
  rw [← hn2e] at hwn
  have HN2 := hide hn2e
  have HLB : Hid (s.data.toList.length = 4072) := by show _ = _; rw [bsize]; exact hsz
  obtain ⟨q, hq⟩ : ∃ q, q = w.heap.size := ⟨_, rfl⟩
  rw [← hq] at hmk HO1
  have HQ := hide hq
  clear ho1 hg1 hb1 hE hsz hz0 hz1 hz2 hi hn2e hq
  go_enter Tryd.func22, Tryd.ntmps22
  go_wp2_with fail
  clear hmk
  go_loopw [7, 28] (fun st i wr => ∃ k : Nat, k ≤ n ∧ i = .int .i64 k ∧ st = .int .i64 ((endB s.data.toList n k : Nat) : Int) ∧ endB s.data.toList n k ≤ 4072 ∧ (∀ i, i < k → endB s.data.toList n i ≤ endB s.data.toList n (i + 1) ∧ endB s.data.toList n (i + 1) ≤ 4072) ∧ wr.ownsRow q 9 1 (.slice (some ⟨q, 0, none⟩) n n) n (rowK s.data.toList n k) ∧ Below w.heap.size w wr) (fun _ i _ => n - (intOf i).toNat)
  case atStart => exact ⟨0, Nat.zero_le _, rfl, by rw [HN2.out]; rfl, by show 2 * n ≤ 4072; omega, fun i h => by omega, HO1.out, HB1.out⟩
  case round =>
    obtain ⟨k, hk, rfl, rfl, h4, hends, hown, hbw⟩ := hrel
    have HEN := hide hends
    clear hends HO1 HB1 HN2
    by_cases hlt : k < n
    · have HSL := hide (slot_any s k wr (by have := HSZ.out; omega) HSZ.out)
      have hes : endB s.data.toList n (k + 1) = slotN s.data.toList k := rfl
      rw [← hes] at HSL
      have HOW := hide hown
      have HBW := hide hbw
      obtain ⟨a, ha⟩ : ∃ a, a = endB s.data.toList n k := ⟨_, rfl⟩
      obtain ⟨e, he⟩ : ∃ e, e = endB s.data.toList n (k + 1) := ⟨_, rfl⟩
      rw [← ha] at h4 ⊢
      rw [← he] at HSL
      have HA : Hid (a = endB s.data.toList n k ∧ e = endB s.data.toList n (k + 1)) := ⟨ha, he⟩
      have c1 := hown.cellAt k (by omega)
      rw [List.getElem?_eq_getElem (by rw [rowK_len _ _ _ hk]; exact hlt)] at c1
      have hltI : (k : Int) < (n : Int) := by omega
      clear ha he hown hes hbw
      by_cases hbad : e < a
      · have hbadI : (e : Int) < (a : Int) := by omega
        have HV : Hid (¬ (0 ≤ (n : Int) ∧ OkR s.data.toList (n : Int).toNat)) := fun h => by
          have := (h.2.2.1 k hlt).1
          rw [Int.toNat_natCast, ← HA.out.1, ← HA.out.2] at this
          omega
        clear c1
        go_wp2_with fail
        refine HSL.out.mono ?_
        rintro e' w2 ⟨rfl, hb2⟩
        have c0 : w2.cell? ⟨0, 0, none⟩ = some (.iface 128 (.pointer (some (A 1)))) := ((ErrsG.keep HE.out (Below.next HBW.out hb2)).1 1 (by decide)).1
        have HB2 := hide (Below.next HBW.out hb2)
        clear hb2
        go_wp2
        go_quiet (fail)
        go_wp2
        go_ret2
        exact ⟨.inr ⟨HV.out, rfl⟩, below_drewN' HB2.out _⟩
      · have hbadI : ¬ (e : Int) < (a : Int) := by omega
        by_cases hbig : 4072 < e
        · have hbigI : (s.size : Int) < (e : Int) := by have := HSZ.out; omega
          have HV : Hid (¬ (0 ≤ (n : Int) ∧ OkR s.data.toList (n : Int).toNat)) := fun h => by
            have := (h.2.2.1 k hlt).2
            rw [Int.toNat_natCast, ← HA.out.2] at this
            omega
          clear c1
          go_wp2_with fail
          refine HSL.out.mono ?_
          rintro e' w2 ⟨rfl, hb2⟩
          have c0 : w2.cell? ⟨0, 0, none⟩ = some (.iface 128 (.pointer (some (A 1)))) := ((ErrsG.keep HE.out (Below.next HBW.out hb2)).1 1 (by decide)).1
          have HB2 := hide (Below.next HBW.out hb2)
          clear hb2
          go_wp2
          go_quiet (fail)
          go_wp2
          go_ret2
          exact ⟨.inr ⟨HV.out, rfl⟩, below_drewN' HB2.out _⟩
        · have hbigI : ¬ (s.size : Int) < (e : Int) := by have := HSZ.out; omega
          have s1 : (a : Int) ≤ (e : Int) := by omega
          have s2 : (e : Int) ≤ (s.size : Int) := by omega
          have s3 : (0 : Int) ≤ (a : Int) := by omega
          have s4 : a ≤ e := by omega
          have s5 : e ≤ s.size := by omega
          have hkc : k < (cellsB s.data.toList n).length := by rw [cellsB_len]; exact hlt
          have HC : Hid (s.extract a e = (cellsB s.data.toList n)[k]) := by
            refine ba_ext ?_
            rw [ext_toList, cellsB_get, HA.out.1, HA.out.2]; rfl
          have HRS := hide (rowK_set s.data.toList n k hlt hkc)
          clear c1
          go_wp2_with fail
          refine HSL.out.mono ?_
          rintro e' w2 ⟨rfl, hb2⟩
          have hbx := HOW.out
          have how2 : w2.ownsRow q 9 1 (.slice (some ⟨q, 0, none⟩) n n) n (rowK s.data.toList n k) := by
            refine ⟨hbx.1, ?_⟩
            rcases hbx.2 with h' | ⟨g', cap, cur, hv, hbg, hg, hnc, hcm, hcs, htk⟩
            · exact .inl h'
            · have hl : g' < wr.heap.size := by
                rcases Nat.lt_or_ge g' wr.heap.size with h' | h'
                · exact h'
                · rw [Array.getElem?_eq_none h'] at hg; cases hg
              exact .inr ⟨g', cap, cur, hv, hbg, (hb2.block g' hl).trans hg, hnc, hcm, hcs, htk⟩
          have c1 := how2.cellAt k (by omega)
          rw [List.getElem?_eq_getElem (by rw [rowK_len _ _ _ hk]; exact hlt)] at c1
          have z1 := how2.frozenAt k
          have hst := (how2.stored k (.string (s.extract a e))).1
          rw [HC.out, HRS.out] at hst
          rw [← HC.out] at hst
          have HST := hide hst
          have HB2 : Hid (Below w.heap.size w (w2.setCell ⟨q, k, none⟩ (.string (s.extract a e)))) := (Below.next HBW.out hb2).setCell (by show w.heap.size ≤ q; rw [HQ.out]; exact Nat.le_refl _) _
          clear hb2 hbx how2 hst
          go_wp2
          go_roundw
          case rel =>
            refine ⟨k + 1, by omega, by go_num, by rw [← HA.out.2], by rw [← HA.out.2]; omega, fun i hi => ?_, HST.out, HB2.out⟩
            by_cases hik : i = k
            · subst hik; rw [← HA.out.1, ← HA.out.2]; omega
            · exact HEN.out i (by omega)
          case measure => simp [intOf]; omega
    · have hkn : k = n := by omega
      have hltI : ¬ (k : Int) < (n : Int) := by omega
      subst hkn
      obtain ⟨a, ha⟩ : ∃ a, a = endB s.data.toList k k := ⟨_, rfl⟩
      rw [← ha] at h4 ⊢
      have s1 : (a : Int) ≤ (s.size : Int) := by have := HSZ.out; omega
      have s2 : (0 : Int) ≤ (a : Int) := by omega
      have HZ := hide (allz_any (s.extract a s.size) wr (by rw [ByteArray.size_extract]; have := HSZ.out; omega))
      have HX := hide (allz_ext s a (by omega))
      have HAE := hide ha
      have HOW := hide hown
      have HBW := hide hbw
      clear ha hown hbw
      by_cases hz : AllZ (s.extract a s.size)
      · have HOK : Hid (OkR s.data.toList k) := ⟨⟨hn, HLB.out⟩, HEN.out, fun j h1 h2 => HX.out.1 hz j (by rw [HAE.out]; exact h1) (by rw [HSZ.out]; exact h2)⟩
        have HZ2 : Hid (Calls Tryd.prog 48 #[.string (s.extract a s.size)] wr fun e w' => e = .returned (.bool true) ∧ Below wr.heap.size wr w') := by
          refine HZ.out.mono ?_
          rintro e w' ⟨h | h, hb⟩
          · exact ⟨h.2, hb⟩
          · exact absurd hz h.1
        clear HZ hz HX
        go_wp2_with fail
        refine HZ2.out.mono ?_
        rintro e w2 ⟨rfl, hb2⟩
        have hbx := HOW.out
        have HO2 : Hid (w2.ownsRow w.heap.size 9 1 (.slice (some ⟨q, 0, none⟩) k k) k (strs (cellsB s.data.toList k))) := by
          rw [rowK_all, HQ.out] at hbx
          show World.ownsRow _ _ _ _ _ _ _
          rw [HQ.out]
          refine ⟨hbx.1, ?_⟩
          rcases hbx.2 with h' | ⟨g', cap, cur, hv, hbg, hg, hnc, hcm, hcs, htk⟩
          · exact .inl h'
          · have hl : g' < wr.heap.size := by
              rcases Nat.lt_or_ge g' wr.heap.size with h' | h'
              · exact h'
              · rw [Array.getElem?_eq_none h'] at hg; cases hg
            exact .inr ⟨g', cap, cur, hv, hbg, (hb2.block g' hl).trans hg, hnc, hcm, hcs, htk⟩
        have HB2 := hide (Below.next HBW.out hb2)
        clear hbx hb2
        go_wp2
        go_ret2
        exact ⟨.inl ⟨hn0, HOK.out, q, rfl, HO2.out⟩, HB2.out⟩
      · have HV : Hid (¬ (0 ≤ (k : Int) ∧ OkR s.data.toList (k : Int).toNat)) := fun h => hz (HX.out.2 (fun j h1 h2 => h.2.2.2 j (by rw [Int.toNat_natCast, ← HAE.out]; exact h1) (by rw [← HSZ.out]; exact h2)))
        have HZ2 : Hid (Calls Tryd.prog 48 #[.string (s.extract a s.size)] wr fun e w' => e = .returned (.bool false) ∧ Below wr.heap.size wr w') := by
          refine HZ.out.mono ?_
          rintro e w' ⟨h | h, hb⟩
          · exact absurd h.1 hz
          · exact ⟨h.2, hb⟩
        clear HZ hz HX
        go_wp2_with fail
        refine HZ2.out.mono ?_
        rintro e w2 ⟨rfl, hb2⟩
        have c0 : w2.cell? ⟨0, 0, none⟩ = some (.iface 128 (.pointer (some (A 1)))) := ((ErrsG.keep HE.out (Below.next HBW.out hb2)).1 1 (by decide)).1
        have HB2 := hide (Below.next HBW.out hb2)
        clear hb2
        go_wp2
        go_quiet (fail)
        go_wp2
        go_ret2
        exact ⟨.inr ⟨HV.out, rfl⟩, below_drewN' HB2.out _⟩

set_option maxHeartbeats 1000000 in
theorem read_any (A : Nat → Addr) (c : Int) (s : ByteArray) (w : World) (hE : ErrsG 4 gAll A w) :
    Calls Tryd.prog 22 #[.int .i64 c, .string s] w fun e w' => ReadV A c s w e w' ∧ Below w.heap.size w w' := by
  by_cases h : (0 ≤ c ∧ c ≤ 2036) ∧ s.size = 4072
  · obtain ⟨n, rfl⟩ := Int.eq_ofNat_of_zero_le h.1.1
    exact read_in A n s w (by omega) h.2 hE
  · have HV : Hid (¬ (0 ≤ c ∧ OkR s.data.toList c.toNat)) := fun hh => h ⟨⟨hh.1, by have := hh.2.1.1; omega⟩, by have := hh.2.1.2; rw [bsize] at this; exact this⟩
    have c0 : w.cell? ⟨0, 0, none⟩ = some (.iface 128 (.pointer (some (A 1)))) := (hE.1 1 (by decide)).1
    clear hE
    by_cases h1 : c < 0
    · clear h
      go_enter Tryd.func22, Tryd.ntmps22
      go_wp2
      go_quiet (fail)
      go_wp2
      go_ret2
      exact ⟨.inr ⟨HV.out, rfl⟩, below_drewN' (Below.refl _ _) _⟩
    · by_cases h2 : 2036 < c
      · clear h
        go_enter Tryd.func22, Tryd.ntmps22
        go_wp2
        go_quiet (fail)
        go_wp2
        go_ret2
        exact ⟨.inr ⟨HV.out, rfl⟩, below_drewN' (Below.refl _ _) _⟩
      · have d1 : ((s.size : Int) != 4072) = true := by
          rw [bne_iff_ne]; intro he
          exact h ⟨⟨by omega, by omega⟩, by omega⟩
        clear h
        go_enter Tryd.func22, Tryd.ntmps22
        go_wp2
        go_quiet (fail)
        go_wp2
        go_ret2
        exact ⟨.inr ⟨HV.out, rfl⟩, below_drewN' (Below.refl _ _) _⟩

end Go.Proofs.YtdacbajiapdiiabDoor
