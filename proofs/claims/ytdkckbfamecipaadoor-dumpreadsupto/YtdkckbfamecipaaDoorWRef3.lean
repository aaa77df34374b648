import Derived.Test.YtdkckbfamecipaaDoorWRef2
namespace Go.Proofs.YtdkckbfamecipaaDoor
open Go.RowKit

def endO (o : Option (List UInt8 × List UInt8)) : Option (List UInt8 × List UInt8) := match o with
  | some x => if wEndB x.2 = true then some x else none
  | none => none
theorem ba_app (x y : List UInt8) : ba x ++ ba y = ba (x ++ y) := by
  refine ba_ext ?_
  rw [ByteArray.data_append, Array.toList_append]; rfl
set_option maxHeartbeats 8000000 in
set_option maxRecDepth 100000 in
theorem rquoted_any (s : ByteArray) (at' : Nat) (w : World) (hat : at' < s.size) (hs : s.size ≤ 70368744177664) :
    Calls Tryd.prog 21 #[.string s, .int .i64 (at' : Int)] w fun e w' => ReV s.data.toList (endO (quotD [] (s.data.toList.drop (at' + 1)))) e ∧ Below w.heap.size w w' := by
  obtain ⟨o, ho⟩ : ∃ o, o = quotD [] (s.data.toList.drop (at' + 1)) := ⟨_, rfl⟩
  rw [← ho]
  obtain ⟨Q, hQ⟩ : ∃ Q : Ending → World → Prop, Q = fun e w' => ReV s.data.toList (endO o) e ∧ Below w.heap.size w w' := ⟨_, rfl⟩
  rw [← hQ]
  have HQ := hide hQ
  have HO := hide ho
  clear hQ ho
  go_enter Tryd.func21, Tryd.ntmps21
  go_wp2
  go_loopw [6, 7] (fun xv iv wr => ∃ (acc : List UInt8) (x : ByteArray) (i : Nat), xv = .string x ∧ iv = .int .i64 (i : Int) ∧ i ≤ s.size ∧ Hid (x = ba acc ∧ o = quotD acc (s.data.toList.drop i) ∧ acc.length ≤ i) ∧ Below w.heap.size w wr) (fun _ iv _ => s.size - (intOf iv).toNat)
  case atStart => exact ⟨[], ⟨#[]⟩, at' + 1, rfl, by go_num, by omega, ⟨rfl, HO.out, Nat.zero_le _⟩, Below.refl _ _⟩
  case round =>
    obtain ⟨acc, x, i, rfl, rfl, hi, hh, hnx⟩ := hrel
    have i0 : (0 : Int) ≤ (i : Int) := by omega
    have iI : (i : Int) ≤ (s.size : Int) := by omega
    have hxs : x.size ≤ i := by rw [hh.out.1, ba_size]; exact hh.out.2.2
    by_cases hlt : i < s.size
    · have hltI : (i : Int) < (s.size : Int) := by omega
      obtain ⟨i1, hi1⟩ : ∃ k, k = i + 1 := ⟨_, rfl⟩
      have w1 : IntKind.i64.wrap ((i : Int) + 1) = (i1 : Int) := by rw [IntKind.wrap_i64]; omega
      have n1 : (0 : Int) ≤ (i1 : Int) := by omega
      have n2 : (i : Int) ≤ (i1 : Int) := by omega
      have n3 : (i1 : Int) ≤ (s.size : Int) := by omega
      have hd := drop_cons s i hlt
      rw [← hi1] at hd
      have HI := hide hi1
      by_cases hc : s[i] = 34
      · have hcI : ((s[i].toNat : Int) == 34) = true := by rw [hc]; rfl
        have hoo : o = some (acc, s.data.toList.drop i1) := by
          rw [hh.out.2.1, hd, hc, quotD_end]
        have HE : Hid (wEndB (s.data.toList.drop i1) = true → ReV s.data.toList (endO o) (.returned (.tuple #[.string x, .int .i64 (i1 : Int)]))) := fun h => by
          rw [hoo, hh.out.1]
          refine .inl ⟨acc, i1, by rw [bsize]; omega, ?_, rfl⟩
          show (if wEndB _ = true then _ else _) = _
          rw [if_pos h]
        have HN : Hid (wEndB (s.data.toList.drop i1) = false → ReV s.data.toList (endO o) (.returned (.tuple #[.string ⟨#[]⟩, .int .i64 (-1)]))) := fun h => by
          rw [hoo]
          refine .inr ⟨?_, rfl⟩
          show (if wEndB _ = true then _ else _) = _
          rw [if_neg (by rw [h]; decide)]
        clear hoo hd hh hc hi1
        by_cases hl1 : i1 < s.size
        · have l1 : (i1 : Int) < (s.size : Int) := by omega
          have hd1 := drop_cons s i1 hl1
          by_cases hb : s[i1] = 32
          · have hbI : ((s[i1].toNat : Int) != 32) = false := by rw [hb]; rfl
            have HR := hide (HE.out (by rw [hd1, hb]; rfl))
            clear hb hd1
            go_wp2
            rw [HQ.out]
            exact ⟨HR.out, hnx⟩
          · have hbI : ((s[i1].toNat : Int) != 32) = true := by
              rw [bne_iff_ne]
              intro e
              exact hb (UInt8.toNat_inj.1 (show _ = 32 by omega))
            have HR := hide (HN.out (by rw [hd1]; simpa [wEndB] using hb))
            clear hb hd1
            go_wp2
            rw [HQ.out]
            exact ⟨HR.out, hnx⟩
        · have l1 : ¬ (i1 : Int) < (s.size : Int) := by omega
          have HR := hide (HE.out (by rw [List.drop_eq_nil_of_le (by rw [bsize]; omega)]; rfl))
          go_wp2
          rw [HQ.out]
          exact ⟨HR.out, hnx⟩
      · have hcI : ((s[i].toNat : Int) == 34) = false := u8_ne (k := 34) (by decide) hc
        by_cases h92 : s[i] = 92
        · have h92I : ((s[i].toNat : Int) == 92) = true := by rw [h92]; rfl
          have HES := hide (resc_any s i wr hlt hs)
          have hbd : byteD (s.data.toList.drop i) = escD (s.data.toList.drop i1) := by
            rw [hd, byteD_cons, if_pos h92]
          have HBD := hide hbd
          have HD := hide hd
          have HC := hide hc
          have HH := hh
          rw [← hi1] at HES
          clear hbd hd hc h92 hh hi1
          go_wp2_with fail
          refine HES.out.mono ?_
          rintro e w5 ⟨hv, hb5⟩
          have hnx5 : Below w.heap.size w w5 := Below.next hnx hb5
          clear hnx hb5 HES
          rcases hv with ⟨xb, j, hj, hes, rfl⟩ | ⟨hes, rfl⟩
          · obtain ⟨b, q, hbq, hxb, hq⟩ : ∃ b q, escD (s.data.toList.drop i1) = some (b, q) ∧ xb = [b] ∧ q = s.data.toList.drop j := by
              unfold escP at hes
              cases hx : escD (s.data.toList.drop i1) with
              | none => rw [hx] at hes; cases hes
              | some y =>
                rw [hx] at hes
                simp only [Option.map_some, Option.some.injEq, Prod.mk.injEq] at hes
                exact ⟨y.1, y.2, rfl, hes.1.symm, hes.2⟩
            subst hxb
            have hbl := byteD_lt (t := s.data.toList.drop i) (b := b) (r := q) (by rw [HBD.out]; exact hbq)
            rw [bsize] at hj
            have hij : i < j := by
              rw [hq, List.length_drop, List.length_drop, bsize] at hbl
              omega
            have HX : Hid (x ++ ba [b] = ba (acc ++ [b]) ∧ o = quotD (acc ++ [b]) (s.data.toList.drop j) ∧ (acc ++ [b]).length ≤ j) := by
              have h9 := HH.out
              refine ⟨by rw [h9.1, ba_app], ?_, by simp; omega⟩
              rw [h9.2.1, HD.out, quotD_some HC.out (b := b) (q := q) (by rw [← HD.out, HBD.out]; exact hbq), hq]
            have jI : ¬ (j : Int) < 0 := by omega
            have hsz : x.size + (ba [b]).size ≤ 140737488355328 := by rw [ba_size]; simp; omega
            clear hes hbq hq hbl HH
            generalize ba [b] = bb at *
            go_wp2
            go_roundw
            case rel => exact ⟨acc ++ [b], x ++ bb, j, rfl, rfl, hj, HX.out, hnx5⟩
            case measure => simp [intOf]; omega
          · have HR : Hid (ReV s.data.toList (endO o) (.returned (.tuple #[.string ⟨#[]⟩, .int .i64 (-1)]))) := by
              refine .inr ⟨?_, rfl⟩
              have h9 := HH.out
              have : escD (s.data.toList.drop i1) = none := by
                unfold escP at hes
                cases hx : escD (s.data.toList.drop i1) with
                | none => rfl
                | some y => rw [hx] at hes; cases hes
              rw [h9.2.1, HD.out, quotD_none HC.out (by rw [← HD.out, HBD.out]; exact this)]
              rfl
            clear hes HH
            go_wp2
            rw [HQ.out]
            exact ⟨HR.out, hnx5⟩
        · have h92I : ((s[i].toNat : Int) == 92) = false := u8_ne (k := 92) (by decide) h92
          have hbd : byteD (s.data.toList.drop i) = if seenB s[i] = true then some (s[i], s.data.toList.drop i1) else none := by
            rw [hd, byteD_cons, if_neg h92]
          cases hse : seenB s[i] with
          | true =>
            rw [hse, if_pos rfl] at hbd
            have hbb := hse
            unfold seenB at hbb
            simp only [Bool.and_eq_true, decide_eq_true_eq] at hbb
            have b1 : ¬ (s[i].toNat : Int) < 32 := by omega
            have b2 : ¬ (126 : Int) < (s[i].toNat : Int) := by omega
            have HX : Hid (x ++ s.extract i i1 = ba (acc ++ [s[i]]) ∧ o = quotD (acc ++ [s[i]]) (s.data.toList.drop i1) ∧ (acc ++ [s[i]]).length ≤ i1) := by
              have h9 := hh.out
              refine ⟨by rw [h9.1, hi1, ba_one s i hlt, ba_app], ?_, by simp; omega⟩
              rw [h9.2.1, hd, quotD_some hc (by rw [← hd]; exact hbd)]
            have hsz : x.size + (s.extract i i1).size ≤ 140737488355328 := by rw [ByteArray.size_extract]; omega
            have hi1' : i1 ≤ s.size := by omega
            have hi1'' : s.size - i1 < s.size - i := by omega
            clear hd hh hc hse hbb h92 hbd hi1
            go_wp2
            go_roundw
            case rel => exact ⟨acc ++ [s[i]], x ++ s.extract i i1, i1, rfl, rfl, hi1', HX.out, hnx⟩
            case measure => simp [intOf]; omega
          | false =>
            rw [hse, if_neg (by decide)] at hbd
            have HR : Hid (ReV s.data.toList (endO o) (.returned (.tuple #[.string ⟨#[]⟩, .int .i64 (-1)]))) := by
              refine .inr ⟨?_, rfl⟩
              have h9 := hh.out
              rw [h9.2.1, hd, quotD_none hc (by rw [← hd]; exact hbd)]
              rfl
            have hcs : (s[i].toNat : Int) < 32 ∨ (¬ (s[i].toNat : Int) < 32 ∧ (126 : Int) < (s[i].toNat : Int)) := by
              unfold seenB at hse
              simp only [Bool.and_eq_false_iff, decide_eq_false_iff_not] at hse
              omega
            clear hd hh hc hse h92 hbd hi1
            rcases hcs with b1 | ⟨b1, b2⟩
            all_goals
              go_wp2
              rw [HQ.out]
              exact ⟨HR.out, hnx⟩
    · have hltI : ¬ (i : Int) < (s.size : Int) := by omega
      have HR : Hid (ReV s.data.toList (endO o) (.returned (.tuple #[.string ⟨#[]⟩, .int .i64 (-1)]))) := by
        refine .inr ⟨?_, rfl⟩
        rw [hh.out.2.1, List.drop_eq_nil_of_le (by rw [bsize]; omega), quotD_nil]
        rfl
      clear hh
      go_wp2
      rw [HQ.out]
      exact ⟨HR.out, hnx⟩
end Go.Proofs.YtdkckbfamecipaaDoor
