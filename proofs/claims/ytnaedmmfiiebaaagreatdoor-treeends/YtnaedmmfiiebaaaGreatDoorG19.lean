import Derived.Test.YtnaedmmfiiebaaaGreatDoorG18
import Derived.Test.YtnaedmmfiiebaaaGreatDoorG02
import Derived.Test.YtnaedmmfiiebaaaGreatDoorG17
import Derived.Test.YtnaedmmfiiebaaaGreatDoorG00
namespace Go.Proofs.YtnaedmmfiiebaaaGreatDoor
open Go.RowKit

def AllZ (s : ByteArray) : Prop := ∀ j, j < s.size → s.data.toList.getD j 0 = 0
set_option maxHeartbeats 400000 in
theorem allz_any (s : ByteArray) (w : World) (hs : s.size ≤ 140737488355328) :
    Calls Tryz.prog 190 #[.string s] w fun e w' => ((AllZ s ∧ e = .returned (.bool true)) ∨ (¬ AllZ s ∧ e = .returned (.bool false))) ∧ Below w.heap.size w w' := by
  have HT := hide (trim_any s w hs)
  by_cases hz : AllZ s
  · have ht : trL (trR s) = ByteArray.empty := (trim_nil s).2 hz
    rw [ht] at HT
    have HZ := hide hz
    clear hz ht
    go_enter Tryz.func190, Tryz.ntmps190
    go_wp2_with fail
    refine HT.out.mono ?_
    rintro e w' ⟨rfl, hb⟩
    go_wp2
    go_ret
    exact ⟨.inl ⟨HZ.out, rfl⟩, hb⟩
  · have ht : ¬ trL (trR s) = ByteArray.empty := fun h => hz ((trim_nil s).1 h)
    have hne : (trL (trR s)).toList.isEmpty = false := by rw [empty_iff]; exact decide_eq_false ht
    have HZ := hide hz
    generalize trL (trR s) = t at *
    have hne2 : ¬ t.toList = [] := fun h => by rw [h] at hne; cases hne
    clear hz ht
    go_enter Tryz.func190, Tryz.ntmps190
    go_wp2_with fail
    refine HT.out.mono ?_
    rintro e w' ⟨rfl, hb⟩
    go_wp2
    go_ret
    exact ⟨.inr ⟨HZ.out, rfl⟩, hb⟩

/-- The row that Read fills, k cells of it. -/
def rowK (b : List UInt8) (n k : Nat) : List Value := strs ((cellsB b n).take k) ++ List.replicate (n - k) (.string ByteArray.empty)
theorem rowK_zero (b : List UInt8) (n : Nat) : rowK b n 0 = List.replicate n (.string ByteArray.empty) := by simp [rowK, strs]
theorem rowK_all (b : List UInt8) (n : Nat) : rowK b n n = strs (cellsB b n) := by
  unfold rowK
  rw [List.take_of_length_le (by rw [cellsB_len]; exact Nat.le_refl _), Nat.sub_self]; simp
theorem rowK_len (b : List UInt8) (n k : Nat) (h : k ≤ n) : (rowK b n k).length = n := by
  simp [rowK, strs, cellsB_len]; omega
theorem rowK_set (b : List UInt8) (n k : Nat) (h : k < n) (hk : k < (cellsB b n).length) : (rowK b n k).set k (.string (cellsB b n)[k]) = rowK b n (k + 1) := by
  unfold rowK
  rw [List.set_append_right _ _ (by rw [strs_length, List.length_take, cellsB_len]; omega), List.take_succ_eq_append_getElem hk, strs_append]
  rw [strs_length, List.length_take, cellsB_len, Nat.min_eq_left (by omega), Nat.sub_self, show n - k = (n - (k + 1)) + 1 by omega, List.replicate_succ, List.set_cons_zero]
  simp [strs]
theorem getD_drop (l : List UInt8) (a j : Nat) : (l.drop a).getD j 0 = l.getD (a + j) 0 := by
  rw [List.getD_eq_getElem?_getD, List.getD_eq_getElem?_getD, List.getElem?_drop]
theorem allz_ext (s : ByteArray) (a : Nat) (ha : a ≤ s.size) : AllZ (s.extract a s.size) ↔ ∀ j, a ≤ j → j < s.size → s.data.toList.getD j 0 = 0 := by
  have hl : (s.extract a s.size).data.toList = s.data.toList.drop a := by
    rw [ext_toList, List.take_of_length_le (by rw [List.length_drop, bsize]; omega)]
  have hsz : (s.extract a s.size).size = s.size - a := by rw [ByteArray.size_extract]; omega
  unfold AllZ
  rw [hl, hsz]
  constructor
  · intro h j h1 h2
    have := h (j - a) (by omega)
    rw [getD_drop, show a + (j - a) = j by omega] at this
    exact this
  · intro h j hj
    rw [getD_drop]; exact h _ (by omega) (by omega)
def ReadV (A : Nat → Addr) (c : Int) (s : ByteArray) (w : World) (e : Ending) (w' : World) : Prop :=
  (0 ≤ c ∧ OkR s.data.toList c.toNat ∧ ∃ g, e = .returned (.tuple #[.slice (some ⟨g, 0, none⟩) c.toNat c.toNat, .nilIface]) ∧ w'.ownsRow w.heap.size 9 1 (.slice (some ⟨g, 0, none⟩) c.toNat c.toNat) c.toNat (strs (cellsB s.data.toList c.toNat))) ∨
    (¬ (0 ≤ c ∧ OkR s.data.toList c.toNat) ∧ e = .returned (.tuple #[.slice none 0 0, .iface 360 (.pointer (some (A 1)))]))

set_option maxHeartbeats 4000000 in
theorem read_in (A : Nat → Addr) (n : Nat) (s : ByteArray) (w : World) (hn : n ≤ 2036) (hsz : s.size = 4072) (hE : ErrsG 4 gAll A w) :
    Calls Tryz.prog 153 #[.int .i64 (n : Int), .string s] w fun e w' => ReadV A n s w e w' ∧ Below w.heap.size w w' := by
  obtain ⟨i0, hi, hz0, hz1, hz2⟩ := info_parts info9
  obtain ⟨w1, hmk, ho1, hg1⟩ := run_make_full (P := Tryz.prog) w w.heap.size 231 9 i0 (.string ByteArray.empty) 1 Tryz.underlying231 hi hz0 hz1 .i64 .i64 n (by rw [hz2]; omega) (by unfold maxLen; omega) (Nat.le_refl _)
  have hb1 : Below w.heap.size w w1 := (Below.refl _ _).grown hg1 (Nat.le_refl _) (fun j hj => by cases hj)
  rw [Nat.mul_one, show (Value.string ByteArray.empty).cells = #[.string ByteArray.empty] from rfl, toList_madeCells_one] at ho1
  have HO1 : Hid (w1.ownsRow w.heap.size 9 1 (.slice (some ⟨w.heap.size, 0, none⟩) n n) n (rowK s.data.toList n 0)) := by
    show World.ownsRow _ _ _ _ _ _ _
    rw [rowK_zero]; exact ho1
  have HB1 := hide hb1
  have HE := hide hE
  have HSZ := hide hsz
  have d1 : ((s.size : Int) != 4072) = false := by rw [hsz]; rfl
  have hnI : (n : Int) ≤ 2036 := by omega
  have hn1 : ¬ (n : Int) < 0 := by omega
  have hn2 : ¬ (2036 : Int) < (n : Int) := by omega
  have hn0 : (0 : Int) ≤ (n : Int) := by omega
  have hwn : IntKind.i64.wrap (2 * (n : Int)) = ((2 * n : Nat) : Int) := by rw [IntKind.wrap_i64]; omega
  obtain ⟨n2, hn2e⟩ : ∃ n2, n2 = 2 * n := ⟨_, rfl⟩
  rw [← hn2e] at hwn
  have HN2 := hide hn2e
  have HLB : Hid (s.data.toList.length = 4072) := by show _ = _; rw [bsize]; exact hsz
  obtain ⟨q, hq⟩ : ∃ q, q = w.heap.size := ⟨_, rfl⟩
  rw [← hq] at hmk HO1
  have HQ := hide hq
  clear ho1 hg1 hb1 hE hsz hz0 hz1 hz2 hi hn2e hq
  go_enter Tryz.func153, Tryz.ntmps153
  go_wp2_with fail
  clear hmk
  go_loopw [7, 28] (fun st i wr => ∃ k : Nat, k ≤ n ∧ i = .int .i64 k ∧ st = .int .i64 ((endB s.data.toList n k : Nat) : Int) ∧ endB s.data.toList n k ≤ 4072 ∧ (∀ i, i < k → endB s.data.toList n i ≤ endB s.data.toList n (i + 1) ∧ endB s.data.toList n (i + 1) ≤ 4072) ∧ wr.ownsRow q 9 1 (.slice (some ⟨q, 0, none⟩) n n) n (rowK s.data.toList n k) ∧ Below w.heap.size w wr) (fun _ i _ => n - (intOf i).toNat)
  case atStart => exact ⟨0, Nat.zero_le _, rfl, by rw [HN2.out]; rfl, by show 2 * n ≤ 4072; omega, fun i h => by omega, HO1.out, HB1.out⟩
  case round =>
    obtain ⟨k, hk, rfl, rfl, h4, hends, hown, hbw⟩ := hrel
    have HEN := hide hends
    clear hends HO1 HB1 HN2
    by_cases hlt : k < n
    · have HSL := hide (slot_any s k wr (by have := HSZ.out; omega) HSZ.out)
      have hes : endB s.data.toList n (k + 1) = slotN s.data.toList k := rfl
      rw [← hes] at HSL
      have HOW := hide hown
      have HBW := hide hbw
      obtain ⟨a, ha⟩ : ∃ a, a = endB s.data.toList n k := ⟨_, rfl⟩
      obtain ⟨e, he⟩ : ∃ e, e = endB s.data.toList n (k + 1) := ⟨_, rfl⟩
      rw [← ha] at h4 ⊢
      rw [← he] at HSL
      have HA : Hid (a = endB s.data.toList n k ∧ e = endB s.data.toList n (k + 1)) := ⟨ha, he⟩
      have c1 := hown.cellAt k (by omega)
      rw [List.getElem?_eq_getElem (by rw [rowK_len _ _ _ hk]; exact hlt)] at c1
      have hltI : (k : Int) < (n : Int) := by omega
      clear ha he hown hes hbw
      by_cases hbad : e < a
      · have hbadI : (e : Int) < (a : Int) := by omega
        have HV : Hid (¬ (0 ≤ (n : Int) ∧ OkR s.data.toList (n : Int).toNat)) := fun h => by
          have := (h.2.2.1 k hlt).1
          rw [Int.toNat_natCast, ← HA.out.1, ← HA.out.2] at this
          omega
        clear c1
        go_wp2_with fail
        refine HSL.out.mono ?_
        rintro e' w2 ⟨rfl, hb2⟩
        have c0 : w2.cell? ⟨1, 0, none⟩ = some (.iface 360 (.pointer (some (A 1)))) := ((ErrsG.keep HE.out (Below.next HBW.out hb2)).1 1 (by decide)).1
        have HB2 := hide (Below.next HBW.out hb2)
        clear hb2
        go_wp2
        go_quiet (fail)
        go_wp2
        go_ret2
        exact ⟨.inr ⟨HV.out, rfl⟩, below_drewN' HB2.out _⟩
      · have hbadI : ¬ (e : Int) < (a : Int) := by omega
        by_cases hbig : 4072 < e
        · have hbigI : (s.size : Int) < (e : Int) := by have := HSZ.out; omega
          have HV : Hid (¬ (0 ≤ (n : Int) ∧ OkR s.data.toList (n : Int).toNat)) := fun h => by
            have := (h.2.2.1 k hlt).2
            rw [Int.toNat_natCast, ← HA.out.2] at this
            omega
          clear c1
          go_wp2_with fail
          refine HSL.out.mono ?_
          rintro e' w2 ⟨rfl, hb2⟩
          have c0 : w2.cell? ⟨1, 0, none⟩ = some (.iface 360 (.pointer (some (A 1)))) := ((ErrsG.keep HE.out (Below.next HBW.out hb2)).1 1 (by decide)).1
          have HB2 := hide (Below.next HBW.out hb2)
          clear hb2
          go_wp2
          go_quiet (fail)
          go_wp2
          go_ret2
          exact ⟨.inr ⟨HV.out, rfl⟩, below_drewN' HB2.out _⟩
        · have hbigI : ¬ (s.size : Int) < (e : Int) := by have := HSZ.out; omega
          have s1 : (a : Int) ≤ (e : Int) := by omega
          have s2 : (e : Int) ≤ (s.size : Int) := by omega
          have s3 : (0 : Int) ≤ (a : Int) := by omega
          have s4 : a ≤ e := by omega
          have s5 : e ≤ s.size := by omega
          have hkc : k < (cellsB s.data.toList n).length := by rw [cellsB_len]; exact hlt
          have HC : Hid (s.extract a e = (cellsB s.data.toList n)[k]) := by
            refine ba_ext ?_
            rw [ext_toList, cellsB_get, HA.out.1, HA.out.2]; rfl
          have HRS := hide (rowK_set s.data.toList n k hlt hkc)
          clear c1
          go_wp2_with fail
          refine HSL.out.mono ?_
          rintro e' w2 ⟨rfl, hb2⟩
          have hbx := HOW.out
          have how2 : w2.ownsRow q 9 1 (.slice (some ⟨q, 0, none⟩) n n) n (rowK s.data.toList n k) := by
            refine ⟨hbx.1, ?_⟩
            rcases hbx.2 with h' | ⟨g', cap, cur, hv, hbg, hg, hnc, hcm, hcs, htk⟩
            · exact .inl h'
            · have hl : g' < wr.heap.size := by
                rcases Nat.lt_or_ge g' wr.heap.size with h' | h'
                · exact h'
                · rw [Array.getElem?_eq_none h'] at hg; cases hg
              exact .inr ⟨g', cap, cur, hv, hbg, (hb2.block g' hl).trans hg, hnc, hcm, hcs, htk⟩
          have c1 := how2.cellAt k (by omega)
          rw [List.getElem?_eq_getElem (by rw [rowK_len _ _ _ hk]; exact hlt)] at c1
          have z1 := how2.frozenAt k
          have hst := (how2.stored k (.string (s.extract a e))).1
          rw [HC.out, HRS.out] at hst
          rw [← HC.out] at hst
          have HST := hide hst
          have HB2 : Hid (Below w.heap.size w (w2.setCell ⟨q, k, none⟩ (.string (s.extract a e)))) := (Below.next HBW.out hb2).setCell (by show w.heap.size ≤ q; rw [HQ.out]; exact Nat.le_refl _) _
          clear hb2 hbx how2 hst
          go_wp2
          go_roundw
          case rel =>
            refine ⟨k + 1, by omega, by go_num, by rw [← HA.out.2], by rw [← HA.out.2]; omega, fun i hi => ?_, HST.out, HB2.out⟩
            by_cases hik : i = k
            · subst hik; rw [← HA.out.1, ← HA.out.2]; omega
            · exact HEN.out i (by omega)
          case measure => simp [intOf]; omega
    · have hkn : k = n := by omega
      have hltI : ¬ (k : Int) < (n : Int) := by omega
      subst hkn
      obtain ⟨a, ha⟩ : ∃ a, a = endB s.data.toList k k := ⟨_, rfl⟩
      rw [← ha] at h4 ⊢
      have s1 : (a : Int) ≤ (s.size : Int) := by have := HSZ.out; omega
      have s2 : (0 : Int) ≤ (a : Int) := by omega
      have HZ := hide (allz_any (s.extract a s.size) wr (by rw [ByteArray.size_extract]; have := HSZ.out; omega))
      have HX := hide (allz_ext s a (by omega))
      have HAE := hide ha
      have HOW := hide hown
      have HBW := hide hbw
      clear ha hown hbw
      by_cases hz : AllZ (s.extract a s.size)
      · have HOK : Hid (OkR s.data.toList k) := ⟨⟨hn, HLB.out⟩, HEN.out, fun j h1 h2 => HX.out.1 hz j (by rw [HAE.out]; exact h1) (by rw [HSZ.out]; exact h2)⟩
        have HZ2 : Hid (Calls Tryz.prog 190 #[.string (s.extract a s.size)] wr fun e w' => e = .returned (.bool true) ∧ Below wr.heap.size wr w') := by
          refine HZ.out.mono ?_
          rintro e w' ⟨h | h, hb⟩
          · exact ⟨h.2, hb⟩
          · exact absurd hz h.1
        clear HZ hz HX
        go_wp2_with fail
        refine HZ2.out.mono ?_
        rintro e w2 ⟨rfl, hb2⟩
        have hbx := HOW.out
        have HO2 : Hid (w2.ownsRow w.heap.size 9 1 (.slice (some ⟨q, 0, none⟩) k k) k (strs (cellsB s.data.toList k))) := by
          rw [rowK_all, HQ.out] at hbx
          show World.ownsRow _ _ _ _ _ _ _
          rw [HQ.out]
          refine ⟨hbx.1, ?_⟩
          rcases hbx.2 with h' | ⟨g', cap, cur, hv, hbg, hg, hnc, hcm, hcs, htk⟩
          · exact .inl h'
          · have hl : g' < wr.heap.size := by
              rcases Nat.lt_or_ge g' wr.heap.size with h' | h'
              · exact h'
              · rw [Array.getElem?_eq_none h'] at hg; cases hg
            exact .inr ⟨g', cap, cur, hv, hbg, (hb2.block g' hl).trans hg, hnc, hcm, hcs, htk⟩
        have HB2 := hide (Below.next HBW.out hb2)
        clear hbx hb2
        go_wp2
        go_ret2
        exact ⟨.inl ⟨hn0, HOK.out, q, rfl, HO2.out⟩, HB2.out⟩
      · have HV : Hid (¬ (0 ≤ (k : Int) ∧ OkR s.data.toList (k : Int).toNat)) := fun h => hz (HX.out.2 (fun j h1 h2 => h.2.2.2 j (by rw [Int.toNat_natCast, ← HAE.out]; exact h1) (by rw [← HSZ.out]; exact h2)))
        have HZ2 : Hid (Calls Tryz.prog 190 #[.string (s.extract a s.size)] wr fun e w' => e = .returned (.bool false) ∧ Below wr.heap.size wr w') := by
          refine HZ.out.mono ?_
          rintro e w' ⟨h | h, hb⟩
          · exact absurd h.1 hz
          · exact ⟨h.2, hb⟩
        clear HZ hz HX
        go_wp2_with fail
        refine HZ2.out.mono ?_
        rintro e w2 ⟨rfl, hb2⟩
        have c0 : w2.cell? ⟨1, 0, none⟩ = some (.iface 360 (.pointer (some (A 1)))) := ((ErrsG.keep HE.out (Below.next HBW.out hb2)).1 1 (by decide)).1
        have HB2 := hide (Below.next HBW.out hb2)
        clear hb2
        go_wp2
        go_quiet (fail)
        go_wp2
        go_ret2
        exact ⟨.inr ⟨HV.out, rfl⟩, below_drewN' HB2.out _⟩

set_option maxHeartbeats 1000000 in
theorem read_any (A : Nat → Addr) (c : Int) (s : ByteArray) (w : World) (hE : ErrsG 4 gAll A w) :
    Calls Tryz.prog 153 #[.int .i64 c, .string s] w fun e w' => ReadV A c s w e w' ∧ Below w.heap.size w w' := by
  by_cases h : (0 ≤ c ∧ c ≤ 2036) ∧ s.size = 4072
  · obtain ⟨n, rfl⟩ := Int.eq_ofNat_of_zero_le h.1.1
    exact read_in A n s w (by omega) h.2 hE
  · have HV : Hid (¬ (0 ≤ c ∧ OkR s.data.toList c.toNat)) := fun hh => h ⟨⟨hh.1, by have := hh.2.1.1; omega⟩, by have := hh.2.1.2; rw [bsize] at this; exact this⟩
    have c0 : w.cell? ⟨1, 0, none⟩ = some (.iface 360 (.pointer (some (A 1)))) := (hE.1 1 (by decide)).1
    clear hE
    by_cases h1 : c < 0
    · clear h
      go_enter Tryz.func153, Tryz.ntmps153
      go_wp2
      go_quiet (fail)
      go_wp2
      go_ret2
      exact ⟨.inr ⟨HV.out, rfl⟩, below_drewN' (Below.refl _ _) _⟩
    · by_cases h2 : 2036 < c
      · clear h
        go_enter Tryz.func153, Tryz.ntmps153
        go_wp2
        go_quiet (fail)
        go_wp2
        go_ret2
        exact ⟨.inr ⟨HV.out, rfl⟩, below_drewN' (Below.refl _ _) _⟩
      · have d1 : ((s.size : Int) != 4072) = true := by
          rw [bne_iff_ne]; intro he
          exact h ⟨⟨by omega, by omega⟩, by omega⟩
        clear h
        go_enter Tryz.func153, Tryz.ntmps153
        go_wp2
        go_quiet (fail)
        go_wp2
        go_ret2
        exact ⟨.inr ⟨HV.out, rfl⟩, below_drewN' (Below.refl _ _) _⟩

end Go.Proofs.YtnaedmmfiiebaaaGreatDoor

namespace Go.Proofs.YtnaedmmfiiebaaaGreatDoor
open Go.RowKit

/-- What the list holds when k pairs are read. -/
def dcAt (L : List Pr) (k : Nat) : List Value := prs (L.take k) ++ List.replicate ((L.length - k) * 2) (.string ByteArray.empty)
theorem dcAt_len (L : List Pr) (k : Nat) (h : k ≤ L.length) : (dcAt L k).length = L.length * 2 := by
  unfold dcAt; rw [List.length_append, prs_length, List.length_take, List.length_replicate]; omega
theorem dcAt_set (L : List Pr) (k : Nat) (h : k < L.length) : ((dcAt L k).set (k * 2) (.string L[k].1)).set (k * 2 + 1) (.string L[k].2) = dcAt L (k + 1) := by
  have hl : (prs (L.take k)).length = k * 2 := by rw [prs_length, List.length_take]; omega
  unfold dcAt
  rw [List.set_append_right _ _ (by omega), hl, Nat.sub_self, show (L.length - k) * 2 = (L.length - (k + 1)) * 2 + 1 + 1 by omega, List.replicate_succ, List.replicate_succ, List.set_cons_zero]
  rw [List.set_append_right _ _ (by omega), hl, show k * 2 + 1 - k * 2 = 1 by omega, List.set_cons_succ, List.set_cons_zero, List.take_succ_eq_append_getElem h, prs_append, List.append_assoc]
  rfl
theorem dcAt_zero (L : List Pr) : dcAt L 0 = List.replicate (L.length * 2) (.string ByteArray.empty) := by simp [dcAt, prs]
theorem dcAt_all (L : List Pr) : dcAt L L.length = prs L := by simp [dcAt]
theorem made_two (z : Value) (n : Nat) : (madeCells #[z, z] n).toList = List.replicate n z := by
  apply List.ext_getElem?
  intro j
  by_cases hj : j < n
  · rcases Nat.mod_two_eq_zero_or_one j with h | h <;> simp [madeCells, hj, h]
  · simp [madeCells, hj]
theorem own_below2 {w w' : World} {base e n : Nat} {v : Value} {xs : List Value} (h : w.ownsRow base e 2 v n xs) (hb : Below w.heap.size w w') : w'.ownsRow base e 2 v n xs := by
  refine ⟨h.1, ?_⟩
  rcases h.2 with h' | ⟨g, cap, cur, h', h1, h2, hr⟩
  · exact .inl h'
  · refine .inr ⟨g, cap, cur, h', h1, ?_, hr⟩
    have hg : g < w.heap.size := by
      rcases Nat.lt_or_ge g w.heap.size with h' | h'
      · exact h'
      · rw [Array.getElem?_eq_none h'] at h2; cases h2
    rw [hb.block g hg]; exact h2

/-- What Decode answers. -/
def DecV (A : Nat → Addr) (c : Int) (s : ByteArray) (base : Nat) (e : Ending) (w : World) : Prop :=
  (0 ≤ c ∧ DecOk c.toNat s.data.toList ∧ ∃ u, e = .returned (.tuple #[u, .nilIface]) ∧ PrO w base u (decL c.toNat s.data.toList)) ∨
    (¬ (0 ≤ c ∧ DecOk c.toNat s.data.toList) ∧ e = .returned (.tuple #[.slice none 0 0, .iface 360 (.pointer (some (A 1)))]))

set_option maxRecDepth 20000 in
set_option maxHeartbeats 4000000 in
theorem ldec_any (A : Nat → Addr) (c : Int) (s : ByteArray) (w : World) (hE : ErrC A w) :
    Calls Tryz.prog 114 #[.int .i64 c, .string s] w fun e w' => DecV A c s w.heap.size e w' ∧ Below w.heap.size w w' := by
  have HRD := hide (read_any A c s w hE.1)
  have HE := hide hE
  obtain ⟨i0, hi, hz, hsz, hby⟩ := info_parts infoP
  clear hE
  obtain ⟨Q, hQ⟩ : ∃ Q : Ending → World → Prop, Q = fun e w' => DecV A c s w.heap.size e w' ∧ Below w.heap.size w w' := ⟨_, rfl⟩
  rw [← hQ]
  have HQ := hide hQ
  clear hQ
  go_enter Tryz.func114, Tryz.ntmps114
  go_wp2_with fail
  refine HRD.out.mono ?_
  rintro e w1 ⟨⟨hc0, hok, g, rfl, hown⟩ | ⟨hno, rfl⟩, hb1⟩
  · obtain ⟨n, rfl⟩ := Int.eq_ofNat_of_zero_le hc0
    simp only [Int.toNat_natCast] at hok hown ⊢
    have hn := hok.1.1
    obtain ⟨B, hB⟩ : ∃ B, B = s.data.toList := ⟨_, rfl⟩
    obtain ⟨CB, hCB⟩ : ∃ CB, CB = cellsB B n := ⟨_, rfl⟩
    have hCl : CB.length = n := by rw [hCB, cellsB_len]
    rw [← hB] at hok hown
    rw [← hCB] at hown
    have hCsz : ∀ x ∈ CB, x.size ≤ 4072 := fun x hx => by
      rw [hCB] at hx
      obtain ⟨j, hj, rfl⟩ := List.getElem_of_mem hx
      rw [cellsB_len] at hj
      rw [← bsize, cellsB_get, cellB_len hok j hj]
      have := endB_le hok (j + 1) (by omega)
      omega
    have hLL : (CB.map pairC).length = n := by rw [List.length_map, hCl]
    obtain ⟨wm, hmk, hown0, hg0⟩ := run_make_full (P := Tryz.prog) w1 w1.heap.size 63 52 i0 _ 2 Tryz.underlying63 hi hz hsz .i64 .i64 n (by rw [hby]; omega) (by unfold maxLen; omega) (Nat.le_refl _)
    have hz0 : (madeCells (Value.agg #[.string ByteArray.empty, .string ByteArray.empty]).cells (n * 2)).toList = dcAt (CB.map pairC) 0 := by
      rw [dcAt_zero, hLL]; exact made_two _ _
    rw [hz0] at hown0
    have hbm : Below w1.heap.size w1 wm := (Below.refl _ _).grown hg0 (Nat.le_refl _) (fun j hj => by cases hj)
    obtain ⟨b, hb⟩ : ∃ b, b = w1.heap.size := ⟨_, rfl⟩
    rw [← hb] at hmk hown0
    have HB := hide hb
    have HO := hide hown0
    have HBM := hide hbm
    have HB1 := hide hb1
    have HTX := hide (rowR_of_owns hown).strs
    have HOK := hide hok
    have HCL := hide hCl
    have HCS := hide hCsz
    have HLL := hide hLL
    have HCB := hide hCB
    have HBB := hide hB
    clear hb hown0 hbm hg0 hi hz hsz hby hz0 hb1 HRD hown hok hCl hCsz hLL hCB hB hc0
    go_wp2
    clear hmk
    go_loopw [27] (fun i wr => ∃ k : Nat, k ≤ n ∧ i = .int .i64 k ∧ wr.ownsRow b 52 2 (.slice (some ⟨b, 0, none⟩) n n) n (dcAt (CB.map pairC) k) ∧ (∀ j (h : j < CB.length), j < k → okC CB[j] = true) ∧ Below w1.heap.size w1 wr) (fun i _ => n - (intOf i).toNat)
    case atStart => exact ⟨0, Nat.zero_le _, rfl, HO.out, fun j _ h => absurd h (Nat.not_lt_zero _), HBM.out⟩
    case round =>
      obtain ⟨k, hk, rfl, hown, hpre, hbw⟩ := hrel
      clear HO HBM
      have HP := hide hpre
      clear hpre
      by_cases hlt : k < n
      · have hkl : k < CB.length := by have := HCL.out; omega
        have hkL : k < (CB.map pairC).length := by rw [HLL.out]; exact hlt
        have htx := HTX.out.below hbw
        obtain ⟨ta, tc, hte, _, hcc⟩ := htx
        obtain ⟨g', o', ha, f1⟩ := hcc k hkl
        simp only [Value.slice.injEq] at hte
        obtain ⟨rfl, -⟩ := hte
        simp only [Option.some.injEq, Addr.mk.injEq, and_true] at ha
        obtain ⟨rfl, rfl⟩ := ha
        rw [Nat.zero_add] at f1
        have HPO := hide (fun W => pairOf_any CB[k] W (HCS.out _ (List.getElem_mem _)))
        have HSET : Hid (((dcAt (CB.map pairC) k).set (k * 2) (.string (pairC CB[k]).1)).set (k * 2 + 1) (.string (pairC CB[k]).2) = dcAt (CB.map pairC) (k + 1)) := by
          have := dcAt_set (CB.map pairC) k hkL
          simp only [List.getElem_map] at this
          exact this
        have HNX : Hid (okC CB[k] = true → ∀ j (h : j < CB.length), j < k + 1 → okC CB[j] = true) := fun hl j h hj => by
          by_cases he : j = k
          · subst he; exact hl
          · exact HP.out j h (by omega)
        have HNO : Hid (okC CB[k] = false → ¬ (0 ≤ (n : Int) ∧ DecOk (n : Int).toNat s.data.toList)) := fun hl hd => by
          have := hd.2.2.1
          rw [← HBB.out, Int.toNat_natCast, ← HCB.out] at this
          have h2 := this CB[k] (List.getElem_mem _)
          rw [hl] at h2; cases h2
        obtain ⟨ck, hck⟩ : ∃ ck, ck = CB[k] := ⟨_, rfl⟩
        rw [← hck] at f1 HPO HSET HNX HNO
        have HBW := hide hbw
        have HOW := hide hown
        have HLEN := hide (dcAt_len (CB.map pairC) k (by omega))
        have hltI : (k : Int) < (n : Int) := by omega
        have j0 : (0 : Int) ≤ (k : Int) := by omega
        clear hck hcc hbw hown
        go_wp2_with fail
        refine (HPO.out _).mono ?_
        rintro e w2 ⟨⟨hok1, rfl⟩ | ⟨hno1, x, y, rfl⟩, hb2⟩
        · have HNX2 := hide (HNX.out hok1)
          obtain ⟨p, hp⟩ : ∃ p, p = pairC ck := ⟨_, rfl⟩
          rw [← hp] at HSET ⊢
          have hbn := below_new w2 (.cells #[.string p.1, .string p.2] 52)
          have ho2 := own_below2 HOW.out (Below.next hb2 hbn)
          have hq : ∀ j, j < n * 2 → ∃ u, (w2.alloc (.cells #[.string p.1, .string p.2] 52)).cell? ⟨b, j, none⟩ = some u := fun j hj => by
            rw [World.ownsRow.cellAt ho2 j hj]
            exact ⟨_, List.getElem?_eq_getElem (by rw [HLEN.out, HLL.out]; exact hj)⟩
          obtain ⟨u1, q1⟩ := hq (k * 2) (by omega)
          obtain ⟨u2, q2⟩ := hq (k * 2 + 1) (by omega)
          have z1 := World.ownsRow.frozenAt ho2 (k * 2)
          have z2 := World.ownsRow.frozenAt ho2 (k * 2 + 1)
          have hst := (World.ownsRow.stored (World.ownsRow.stored ho2 (k * 2) (.string p.1)).1 (k * 2 + 1) (.string p.2)).1
          rw [HSET.out] at hst
          have HO2 := hide hst
          have hbb : w1.heap.size ≤ b := by rw [HB.out]; exact Nat.le_refl _
          have HB2 : Hid (Below w1.heap.size w1 (((w2.alloc (.cells #[.string p.1, .string p.2] 52)).setCell ⟨b, k * 2, none⟩ (.string p.1)).setCell ⟨b, k * 2 + 1, none⟩ (.string p.2))) := ((Below.next HBW.out (Below.next hb2 hbn)).setCell hbb _).setCell hbb _
          clear hp hb2 hbn ho2 hq hst HSET HOW HBW HPO HNX HNO hok1 f1
          go_wp2
          go_roundw
          case rel => exact ⟨k + 1, by omega, by go_num, HO2.out, HNX2.out, HB2.out⟩
          case measure => simp [intOf]; omega
        · have HNO2 := hide (HNO.out hno1)
          have hbn := below_new w2 (.cells #[.string x, .string y] 52)
          have HB2 := hide (Below.next HB1.out (Below.next HBW.out (Below.next hb2 hbn)))
          have k1 : (w2.alloc (.cells #[.string x, .string y] 52)).cell? ⟨1, 0, none⟩ = some (.iface 360 (.pointer (some (A 1)))) := ((HE.out.below HB2.out).1.1 1 (by decide)).1
          clear hb2 hbn HSET HOW HBW HPO HNX HNO hno1 f1
          go_wp2
          go_quiet (fail)
          go_wp2
          rw [HQ.out]
          exact ⟨.inr ⟨HNO2.out, rfl⟩, below_drewN' HB2.out _⟩
      · have hkn : k = n := by omega
        rw [hkn, ← HLL.out, dcAt_all, HLL.out] at hown
        have hpo : PrO wr b (.slice (some ⟨b, 0, none⟩) n n) (CB.map pairC) := by unfold PrO; rw [HLL.out]; exact hown
        have hoks : OkL (CB.map pairC) := fun p hp => by
          obtain ⟨c0, hc0, rfl⟩ := List.mem_map.1 hp
          have := HCS.out c0 hc0
          have h1 := pairC_k c0
          have h2 := pairC_v c0
          have h3 := (keyC_le c0.data.toList).1
          omega
        have HBF := hide (Below.next HB1.out hbw)
        have HCK := hide (lcheck_any A _ (CB.map pairC) true wr hoks (by rw [HLL.out]; omega) hpo.at (HE.out.below HBF.out))
        have HPO := hide (hpo.mono (show w.heap.size ≤ b by rw [HB.out]; exact HB1.out.size))
        have HALL : Hid (∀ x ∈ CB, okC x = true) := fun x hx => by
          obtain ⟨j, hj, rfl⟩ := List.getElem_of_mem hx
          exact HP.out j hj (by have := HCL.out; omega)
        have hltI : ¬ (k : Int) < (n : Int) := by omega
        have HDL : Hid (decL (n : Int).toNat s.data.toList = CB.map pairC) := by show _ = _; rw [Int.toNat_natCast, ← HBB.out, HCB.out]; rfl
        have HDO : Hid (DecOk (n : Int).toNat s.data.toList ↔ chk (CB.map pairC) true = none) := by
          show _ ↔ _
          rw [Int.toNat_natCast, ← HBB.out]
          unfold DecOk
          rw [← HCB.out]
          exact ⟨fun h => h.2.2, fun h => ⟨HOK.out, HALL.out, h⟩⟩
        clear hown hbw hpo hoks HP HTX hkn
        cases hck : chk (CB.map pairC) true with
        | none =>
          rw [hck] at HCK
          have HD := hide (HDO.out.2 hck)
          clear hck
          go_wp2_with fail
          refine HCK.out.mono ?_
          rintro e w3 ⟨rfl, hb3⟩
          have HO3 := hide (HPO.out.below hb3)
          have HB3 := hide (Below.next HBF.out hb3)
          clear hb3 HCK HPO HBF
          unfold errV
          go_wp2
          rw [HQ.out]
          exact ⟨.inl ⟨by omega, HD.out, _, rfl, by rw [HDL.out]; exact HO3.out⟩, HB3.out⟩
        | some m =>
          rw [hck] at HCK
          have HD : Hid (¬ (0 ≤ (n : Int) ∧ DecOk (n : Int).toNat s.data.toList)) := fun h => by
            have := HDO.out.1 h.2
            rw [hck] at this; cases this
          have hnn := fun W => iface_ne_nil (some (A m)) W
          clear hck
          go_wp2_with fail
          refine HCK.out.mono ?_
          rintro e w3 ⟨rfl, hb3⟩
          have HB3 := hide (Below.next HBF.out hb3)
          have k1 : w3.cell? ⟨1, 0, none⟩ = some (.iface 360 (.pointer (some (A 1)))) := ((HE.out.below HB3.out).1.1 1 (by decide)).1
          clear hb3 HCK HPO HBF
          unfold errV
          go_wp2
          go_quiet (fail)
          go_wp2
          rw [HQ.out]
          exact ⟨.inr ⟨HD.out, rfl⟩, below_drewN' HB3.out _⟩
  · have HNO : Hid (¬ (0 ≤ c ∧ DecOk c.toNat s.data.toList)) := fun h => hno ⟨h.1, h.2.1⟩
    have HB1 := hide hb1
    have k1 : w1.cell? ⟨1, 0, none⟩ = some (.iface 360 (.pointer (some (A 1)))) := ((HE.out.below hb1).1.1 1 (by decide)).1
    have hnn := fun W => iface_ne_nil (some (A 1)) W
    clear hb1 hno HRD hi hz hsz hby
    go_wp2
    go_quiet (fail)
    go_wp2
    rw [HQ.out]
    exact ⟨.inr ⟨HNO.out, rfl⟩, below_drewN' HB1.out _⟩

end Go.Proofs.YtnaedmmfiiebaaaGreatDoor

namespace Go.Proofs.YtnaedmmfiiebaaaGreatDoor.B

/-! The cells of a branch, as data. -/
end Go.Proofs.YtnaedmmfiiebaaaGreatDoor.B
