import Derived.Test.YtdkckbfamecipaaDoorWRef3
import Derived.Test.YtdkckbfamecipaaDoorWWords
namespace Go.Proofs.YtdkckbfamecipaaDoor
open Go.RowKit

/-- The next word, as the document reads it. -/
def nextD (t : List UInt8) : Option (List UInt8 × List UInt8) := endO (wordD t)
theorem next_plain {c : UInt8} {r : List UInt8} (hc : c ≠ 34) : nextD (c :: r) = plainD (c :: r) := by
  unfold nextD plainD
  rw [wordD_cons, if_neg hc]
  cases h : ((c :: r).takeWhile wordB).all bareB with
  | true =>
    obtain ⟨h1, h2, h3⟩ := plain_ok h
    rw [if_pos rfl, ← h1, ← h2]
    show (if wEndB _ = true then _ else _) = _
    rw [if_pos h3]
  | false =>
    have h3 := plain_no h
    rw [if_neg (by decide)]
    show (if wEndB _ = true then _ else _) = _
    rw [if_neg (by rw [h3]; decide)]
theorem wordsD_next {acc : List (List UInt8)} {t x q : List UInt8} (h : nextD t = some (x, q)) : wordsD acc t = wordsD (acc ++ [x]) (skipB q) ∧ (skipB q).length < t.length := by
  unfold nextD at h
  cases hw : wordD t with
  | none => rw [hw] at h; cases h
  | some y =>
    rw [hw] at h
    have h' : (if wEndB y.2 = true then some y else none) = some (x, q) := h
    by_cases he : wEndB y.2 = true
    · rw [if_pos he] at h'
      cases h'
      exact ⟨wordsD_some hw he, word_lt hw he⟩
    · rw [if_neg he] at h'; cases h'
theorem wordsD_nono {acc : List (List UInt8)} {t : List UInt8} (hne : t ≠ []) (h : nextD t = none) : wordsD acc t = none := by
  unfold nextD at h
  cases hw : wordD t with
  | none => exact wordsD_none hne hw
  | some y =>
    rw [hw] at h
    have h' : (if wEndB y.2 = true then some y else none) = none := h
    by_cases he : wEndB y.2 = true
    · rw [if_pos he] at h'; cases h'
    · exact wordsD_bad hw (by simpa using he)
theorem skip_cons (r : List UInt8) : skipB (32 :: r) = skipB r := by
  unfold skipB
  rw [List.dropWhile_cons_of_pos (by decide)]
theorem skip_not {c : UInt8} {r : List UInt8} (h : c ≠ 32) : skipB (c :: r) = c :: r := by
  unfold skipB
  rw [List.dropWhile_cons_of_neg]
  unfold blankB
  simpa using h
/-- What the document's Words answers. -/
def RwV (base : Nat) (o : Option (List (List UInt8))) (e : Ending) (w : World) : Prop :=
  (∃ (ws : List (List UInt8)) (a : Option Addr) (n c : Nat), o = some ws ∧ e = .returned (.tuple #[.slice a n c, .int .i64 0]) ∧ n = ws.length ∧ w.ownsRow base 9 1 (.slice a n c) n (strs (ws.map ba))) ∨
  (o = none ∧ e = .returned (.tuple #[.slice none 0 0, .int .i64 2]))
set_option maxHeartbeats 8000000 in
set_option maxRecDepth 100000 in
theorem rwords_any (s : ByteArray) (w : World) (hs : s.size ≤ 1099511627776) :
    Calls Tryd.prog 14 #[.string s] w fun e w' => RwV w.heap.size (wordsD [] (skipB s.data.toList)) e w' ∧ Below w.heap.size w w' := by
  obtain ⟨i0, hi0, hz0, hz1, hz2⟩ := info_parts info9
  obtain ⟨o, ho⟩ : ∃ o, o = wordsD [] (skipB s.data.toList) := ⟨_, rfl⟩
  rw [← ho]
  have HO := hide ho
  clear ho
  obtain ⟨Q, hQ⟩ : ∃ Q : Ending → World → Prop, Q = fun e w' => RwV w.heap.size o e w' ∧ Below w.heap.size w w' := ⟨_, rfl⟩
  rw [← hQ]
  have HQ := hide hQ
  clear hQ
  go_enter Tryd.func14, Tryd.ntmps14
  go_wp2
  go_loopw [4, 5] (fun v iv wr => ∃ (i : Nat) (acc : List (List UInt8)) (va : Option Addr) (vn vc : Nat), v = .slice va vn vc ∧ iv = .int .i64 (i : Int) ∧ i ≤ s.size ∧ Hid (o = wordsD acc (skipB (s.data.toList.drop i)) ∧ acc.length ≤ i ∧ acc.length = vn) ∧ wr.ownsRow w.heap.size 9 1 (.slice va vn vc) vn (strs (acc.map ba)) ∧ Below w.heap.size w wr)
    (fun _ iv _ => s.size - (intOf iv).toNat)
  case atStart => exact ⟨0, [], none, 0, 0, rfl, rfl, Nat.zero_le _, ⟨HO.out, Nat.zero_le _, rfl⟩, World.ownsRow_nil _ _ _ _, Below.refl _ _⟩
  case round =>
    obtain ⟨i, acc, va, vn, vc, rfl, rfl, hi, hh, hown, hnx⟩ := hrel
    have i0I : (0 : Int) ≤ (i : Int) := by omega
    have iI : (i : Int) ≤ (s.size : Int) := by omega
    by_cases hlt : i < s.size
    · have hltI : (i : Int) < (s.size : Int) := by omega
      have hd := drop_cons s i hlt
      by_cases hb : s[i] = 32
      · have hbI : ((s[i].toNat : Int) == 32) = true := by rw [hb]; rfl
        have HX : Hid (o = wordsD acc (skipB (s.data.toList.drop (i + 1))) ∧ acc.length ≤ i + 1 ∧ acc.length = vn) := by
          have h9 := hh.out
          refine ⟨?_, by omega, h9.2.2⟩
          rw [h9.1, hd, hb, skip_cons]
        clear hb hd hh
        go_wp2
        go_roundw
        case rel => exact ⟨i + 1, acc, va, vn, vc, rfl, by go_num, by omega, HX.out, hown, hnx⟩
        case measure => simp [intOf]; omega
      · have hbI : ((s[i].toNat : Int) == 32) = false := u8_ne (k := 32) (by decide) hb
        have HSK : Hid (skipB (s.data.toList.drop i) = s.data.toList.drop i ∧ s.data.toList.drop i ≠ []) := by rw [hd]; exact ⟨skip_not hb, by simp⟩
        have HFN : Hid (∀ e w1, ReV s.data.toList (nextD (s.data.toList.drop i)) e → Below wr.heap.size wr w1 →
            (∃ x j, i < j ∧ j ≤ s.size ∧ e = .returned (.tuple #[.string (ba x), .int .i64 ((j : Nat) : Int)]) ∧ Hid (o = wordsD (acc ++ [x]) (skipB (s.data.toList.drop j)) ∧ (acc ++ [x]).length ≤ j ∧ (acc ++ [x]).length = vn + 1)) ∨ (o = none ∧ e = .returned (.tuple #[.string ⟨#[]⟩, .int .i64 (-1)]))) := by
          intro e w1 hv _
          have h9 := hh.out
          rcases hv with ⟨x, j, hj, hn, rfl⟩ | ⟨hn, rfl⟩
          · rw [bsize] at hj
            obtain ⟨h1, h2⟩ := wordsD_next (acc := acc) hn
            have hqi : (s.data.toList.drop j).length < (s.data.toList.drop i).length ∨ j ≤ i := by
              rw [List.length_drop, List.length_drop, bsize]; omega
            have hij : i < j := by
              rcases Nat.lt_or_ge i j with h | h
              · exact h
              · exfalso
                unfold nextD at hn
                cases hw : wordD (s.data.toList.drop i) with
                | none => rw [hw] at hn; cases hn
                | some y =>
                  rw [hw] at hn
                  have hn' : (if wEndB y.2 = true then some y else none) = some (x, s.data.toList.drop j) := hn
                  by_cases he : wEndB y.2 = true
                  · rw [if_pos he] at hn'
                    cases hn'
                    have hle := wordD_le hw
                    rw [List.length_drop, List.length_drop, bsize] at hle
                    have hji : j = i := by omega
                    subst hji
                    rw [hd] at he
                    exact hb (by simpa [wEndB] using he)
                  · rw [if_neg he] at hn'; cases hn'
            refine .inl ⟨x, j, hij, hj, rfl, ?_, by simp; omega, by simp; omega⟩
            rw [h9.1, HSK.out.1, h1]
          · refine .inr ⟨?_, rfl⟩
            rw [h9.1, HSK.out.1]
            exact wordsD_nono HSK.out.2 hn
        have hvn : vn ≤ 1099511627776 := by have := hh.out; omega
        by_cases hc : s[i] = 34
        · have hcI : ((s[i].toNat : Int) == 34) = true := by rw [hc]; rfl
          have hnx' : nextD (s.data.toList.drop i) = endO (quotD [] (s.data.toList.drop (i + 1))) := by
            rw [hd, hc]; unfold nextD; rw [wordD_cons, if_pos rfl]
          have HRD := hide (rquoted_any s i wr hlt (by omega))
          rw [← hnx'] at HRD
          clear hb hd hh hc hnx'
          go_wp2_with fail
          refine HRD.out.mono ?_
          rintro e w1 ⟨hv, hb1⟩
          have hown1 : w1.ownsRow w.heap.size 9 1 (.slice va vn vc) vn (strs (acc.map ba)) := owns_below5 hown hb1
          have hnx1 : Below w.heap.size w w1 := Below.next hnx hb1
          have hcs := HFN.out e w1 hv hb1
          clear hv hown hnx hb1 HRD HFN
          rcases hcs with ⟨x, j, hij, hj, rfl, hX⟩ | ⟨hon, rfl⟩
          · have jI : ¬ (j : Int) < 0 := by omega
            go_wp2_with (first
              | (at_builtin; refine wpList_append_lies _ rfl _ _ 22 rfl w.heap.size 9 i0 (.string ByteArray.empty) 1 16 Tryd.underlying22 hi0 hz0 hz1 hz2 rfl (by decide) _ _ _ rfl (hown1.alloc _) ⟨w1.heap.size, 0, none⟩ 1 1 [.string (ba x)] rfl rfl ?c1 ?c2 ?c3 ?c4 ?c5 ?c6 (w1.heap.size + 1) ?c7 ?_))
            case c1 =>
              intro k u hk
              match k, hk with
              | 0, hk => simp at hk; subst hk; simp [Addr.add]
            case c2 => intro u hu; simp at hu; subst hu; rfl
            case c3 => decide
            case c4 => unfold maxLen; omega
            case c5 => omega
            case c6 => have := hnx1.size; simp; omega
            case c7 => simp
            intro g cap w2 hown' hgrow hat hlg
            have hb2 : Below w.heap.size w w2 := (hnx1.alloc (by have := hnx1.size; omega) _).grown hgrow (by have := hnx1.size; simp; omega) (fun k hk => (hown1.lt k hk).1)
            have hown2 : w2.ownsRow w.heap.size 9 1 (.slice (some ⟨g, 0, none⟩) (vn + 1) cap) (vn + 1) (strs ((acc ++ [x]).map ba)) := by
              rw [List.map_append, strs_append]; exact hown'
            clear hown' hgrow hown1 hat hlg hnx1
            go_wp2
            go_roundw
            case rel => exact ⟨j, acc ++ [x], some ⟨g, 0, none⟩, vn + 1, cap, rfl, rfl, hj, hX, hown2, hb2⟩
            case measure => simp [intOf]; omega
          · have HR := hide hon
            clear hon
            go_wp2
            rw [HQ.out]
            exact ⟨.inr ⟨HR.out, rfl⟩, hnx1⟩
        · have hcI : ((s[i].toNat : Int) == 34) = false := u8_ne (k := 34) (by decide) hc
          have hnx' : nextD (s.data.toList.drop i) = plainD (s.data.toList.drop i) := by
            rw [hd]; exact next_plain hc
          have HRD : Hid (Calls Tryd.prog 22 #[.string s, .int .i64 (i : Int)] wr fun e w' => ReV s.data.toList (plainD (s.data.toList.drop i)) e ∧ Below wr.heap.size wr w') := (rplain_any s i wr hi (by omega)).mono fun e w' h => ⟨h.1, by rw [← h.2]; exact Below.refl _ _⟩
          rw [← hnx'] at HRD
          clear hb hd hh hc hnx'
          go_wp2_with fail
          refine HRD.out.mono ?_
          rintro e w1 ⟨hv, hb1⟩
          have hown1 : w1.ownsRow w.heap.size 9 1 (.slice va vn vc) vn (strs (acc.map ba)) := owns_below5 hown hb1
          have hnx1 : Below w.heap.size w w1 := Below.next hnx hb1
          have hcs := HFN.out e w1 hv hb1
          clear hv hown hnx hb1 HRD HFN
          rcases hcs with ⟨x, j, hij, hj, rfl, hX⟩ | ⟨hon, rfl⟩
          · have jI : ¬ (j : Int) < 0 := by omega
            go_wp2_with (first
              | (at_builtin; refine wpList_append_lies _ rfl _ _ 22 rfl w.heap.size 9 i0 (.string ByteArray.empty) 1 16 Tryd.underlying22 hi0 hz0 hz1 hz2 rfl (by decide) _ _ _ rfl (hown1.alloc _) ⟨w1.heap.size, 0, none⟩ 1 1 [.string (ba x)] rfl rfl ?c1 ?c2 ?c3 ?c4 ?c5 ?c6 (w1.heap.size + 1) ?c7 ?_))
            case c1 =>
              intro k u hk
              match k, hk with
              | 0, hk => simp at hk; subst hk; simp [Addr.add]
            case c2 => intro u hu; simp at hu; subst hu; rfl
            case c3 => decide
            case c4 => unfold maxLen; omega
            case c5 => omega
            case c6 => have := hnx1.size; simp; omega
            case c7 => simp
            intro g cap w2 hown' hgrow hat hlg
            have hb2 : Below w.heap.size w w2 := (hnx1.alloc (by have := hnx1.size; omega) _).grown hgrow (by have := hnx1.size; simp; omega) (fun k hk => (hown1.lt k hk).1)
            have hown2 : w2.ownsRow w.heap.size 9 1 (.slice (some ⟨g, 0, none⟩) (vn + 1) cap) (vn + 1) (strs ((acc ++ [x]).map ba)) := by
              rw [List.map_append, strs_append]; exact hown'
            clear hown' hgrow hown1 hat hlg hnx1
            go_wp2
            go_roundw
            case rel => exact ⟨j, acc ++ [x], some ⟨g, 0, none⟩, vn + 1, cap, rfl, rfl, hj, hX, hown2, hb2⟩
            case measure => simp [intOf]; omega
          · have HR := hide hon
            clear hon
            go_wp2
            rw [HQ.out]
            exact ⟨.inr ⟨HR.out, rfl⟩, hnx1⟩
    · have hltI : ¬ (i : Int) < (s.size : Int) := by omega
      have HR : Hid (o = some acc ∧ acc.length = vn) := by
        have h9 := hh.out
        refine ⟨?_, h9.2.2⟩
        rw [h9.1, List.drop_eq_nil_of_le (by rw [bsize]; omega)]
        exact wordsD_nil _
      clear hh
      go_wp2
      rw [HQ.out]
      exact ⟨.inl ⟨acc, va, vn, vc, HR.out.1, rfl, HR.out.2.symm, hown⟩, hnx⟩
end Go.Proofs.YtdkckbfamecipaaDoor
