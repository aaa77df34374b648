import Derived.Test.YtdkckbfamecipaaDoorWWord
import Derived.Test.YtdkckbfamecipaaDoorSameS
namespace Go.Proofs.YtdkckbfamecipaaDoor
open Go.RowKit

/-- Where ErrText lies. -/
def TxtAt (B : Nat) (p : Addr) (w : World) : Prop := 0 < B ∧ B ≤ w.heap.size ∧ w.cell? ⟨0, 0, none⟩ = some (.iface 107 (.pointer (some p)))
theorem TxtAt.below {B : Nat} {p : Addr} {w w' : World} (h : TxtAt B p w) (hb : Below B w w') : TxtAt B p w' := ⟨h.1, Nat.le_trans h.2.1 hb.size, (hb.cell (p := ⟨0, 0, none⟩) h.1).trans h.2.2⟩
/-- What Words answers. -/
def WoV (base : Nat) (p : Addr) (o : Option (List (List UInt8))) (e : Ending) (w : World) : Prop :=
  (∃ (ws : List (List UInt8)) (a : Option Addr) (n c : Nat), o = some ws ∧ e = .returned (.tuple #[.slice a n c, .nilIface]) ∧ n = ws.length ∧ w.ownsRow base 9 1 (.slice a n c) n (strs (ws.map ba))) ∨
  (o = none ∧ e = .returned (.tuple #[.slice none 0 0, .iface 107 (.pointer (some p))]))
theorem SynAt.up {w w' : World} (h : SynAt w.heap.size w) (hb : Below w.heap.size w w') : SynAt w'.heap.size w' := by
  obtain ⟨h1, h2, te, pe, h3⟩ := h.below hb
  exact ⟨by have := hb.size; omega, Nat.le_refl _, te, pe, h3⟩
theorem end_head {q : List UInt8} {b : ByteArray} (h : b = ba q) : (wEndB q = true ∧ (¬ 0 < b.size)) ∨ ((h0 : 0 < b.size) → (b[0] = 32 ↔ wEndB q = true)) := by
  subst h
  cases q with
  | nil => exact .inl ⟨rfl, by rw [ba_size]; simp⟩
  | cons c r =>
    refine .inr fun h0 => ?_
    have : (ba (c :: r))[0] = c := rfl
    rw [this]
    simp [wEndB]
set_option maxHeartbeats 4000000 in
set_option maxRecDepth 100000 in
theorem words_any (s : ByteArray) (p : Addr) (w : World) (hs : s.size ≤ 1099511627776) (hsy : SynAt w.heap.size w) (htx : TxtAt w.heap.size p w) :
    Calls Tryd.prog 10 #[.string s] w fun e w' => WoV w.heap.size p (wordsD [] (skipB s.data.toList)) e w' ∧ Below w.heap.size w w' := by
  obtain ⟨i0, hi, hz0, hz1, hz2⟩ := info_parts info9
  obtain ⟨o, ho⟩ : ∃ o, o = wordsD [] (skipB s.data.toList) := ⟨_, rfl⟩
  rw [← ho]
  have HO := hide ho
  have HSY := hide hsy
  have HTX := hide htx
  have HAF := hide (after_any s w (by omega))
  clear ho hsy htx
  obtain ⟨Q, hQ⟩ : ∃ Q : Ending → World → Prop, Q = fun e w' => WoV w.heap.size p o e w' ∧ Below w.heap.size w w' := ⟨_, rfl⟩
  rw [← hQ]
  have HQ := hide hQ
  clear hQ
  go_enter Tryd.func10, Tryd.ntmps10
  go_wp2_with fail
  refine HAF.out.mono ?_
  rintro e w1 ⟨rfl, hb1⟩
  have hsk : (ba (skipB s.data.toList)).size ≤ s.size := by rw [ba_size]; have := skip_len s.data.toList; rw [bsize] at this; exact this
  have HST : Hid (o = wordsD [] (ba (skipB s.data.toList)).data.toList) := HO.out
  generalize ba (skipB s.data.toList) = t0 at *
  clear HAF
  go_wp2
  go_loopw [4, 5] (fun v tv wr => ∃ (t : ByteArray) (acc : List (List UInt8)) (va : Option Addr) (vn vc : Nat), tv = .string t ∧ v = .slice va vn vc ∧ Hid (o = wordsD acc t.data.toList ∧ acc.length + t.size ≤ s.size ∧ acc.length = vn) ∧ wr.ownsRow w.heap.size 9 1 (.slice va vn vc) vn (strs (acc.map ba)) ∧ Below w.heap.size w wr)
    (fun _ tv _ => match tv with | .string x => x.size | _ => 0)
  case atStart => exact ⟨t0, [], none, 0, 0, rfl, rfl, ⟨HST.out, by simpa using hsk, rfl⟩, World.ownsRow_nil _ _ _ _, hb1⟩
  case round =>
    clear hb1
    obtain ⟨t, acc, va, vn, vc, rfl, rfl, hh, hown, hnx⟩ := hrel
    by_cases h0 : 0 < t.size
    · obtain ⟨e0, e1⟩ := str_ne h0
      have HCW := hide (cutw_any t wr h0 (by have := hh.out.2.1; omega) (by
        obtain ⟨h1, h2, te, pe, h3⟩ := HSY.out.below hnx
        exact ⟨by omega, Nat.le_refl _, te, pe, h3⟩))
      have htne : t.data.toList ≠ [] := fun h => by have := bsize t; rw [h] at this; simp at this; omega
      have HNE := hide htne
      clear htne
      go_wp2_with fail
      refine HCW.out.mono ?_
      rintro e w1 ⟨hq, hb1⟩
      have hown1 : w1.ownsRow w.heap.size 9 1 (.slice va vn vc) vn (strs (acc.map ba)) := owns_below5 hown hb1
      have hnx1 : Below w.heap.size w w1 := Below.next hnx hb1
      have c1 := (HTX.out.below hnx1).2.2
      clear hown hnx hb1 HCW
      rcases hq with ⟨x, q, hwd, rfl⟩ | ⟨hwd, rfl⟩
      · obtain ⟨bq, hbq⟩ : ∃ bq, bq = ba q := ⟨_, rfl⟩
        rw [← hbq]
        by_cases he : wEndB q = true
        · have HE : Hid (o = wordsD (acc ++ [x]) (skipB bq.data.toList) ∧ (skipB bq.data.toList).length < t.size ∧ (acc ++ [x]).length + (skipB bq.data.toList).length ≤ s.size ∧ (acc ++ [x]).length = vn + 1) := by
            have h2 := hh.out
            have hl := word_lt hwd he
            rw [bsize] at hl
            rw [hbq, ba_list]
            refine ⟨?_, hl, by simp; omega, by simp; omega⟩
            rw [h2.1]
            exact wordsD_some hwd he
          have hvn : vn ≤ 1099511627776 := by have := hh.out; omega
          have hbs : bq.size ≤ 140737488355328 := by
            have := wordD_le hwd
            have h2 := hh.out.2.1
            rw [bsize] at this
            rw [hbq, ba_size]; omega
          have hcs : bq = ⟨#[]⟩ ∨ ∃ h : 0 < bq.size, ((bq[0].toNat : Int) != 32) = false := by
            by_cases hz : 0 < bq.size
            · refine .inr ⟨hz, ?_⟩
              rcases end_head hbq with ⟨_, h⟩ | h
              · exact absurd hz h
              · rw [(h hz).2 he]; rfl
            · exact .inl (str_nil hz)
          have HBQ := hide hbs
          clear hh hwd he hbq hbs c1
          rcases hcs with rfl | ⟨hz, hzc⟩
          · go_wp2_with (first
              | (at_builtin; refine wpList_append_lies _ rfl _ _ 22 rfl w.heap.size 9 i0 (.string ByteArray.empty) 1 16 Tryd.underlying22 hi hz0 hz1 hz2 rfl (by decide) _ _ _ rfl (hown1.alloc _) ⟨w1.heap.size, 0, none⟩ 1 1 [.string (ba x)] rfl rfl ?c1 ?c2 ?c3 ?c4 ?c5 ?c6 (w1.heap.size + 1) ?c7 ?_))
            case c1 =>
              intro j u hj
              match j, hj with
              | 0, hj => simp at hj; subst hj; simp [Addr.add]
            case c2 => intro u hu; simp at hu; subst hu; rfl
            case c3 => decide
            case c4 => unfold maxLen; omega
            case c5 => omega
            case c6 => have := hnx1.size; simp; omega
            case c7 => simp
            intro g cap w2 hown' hgrow hat hlg
            have hb2 : Below w.heap.size w w2 := (hnx1.alloc (by have := hnx1.size; omega) _).grown hgrow (by have := hnx1.size; simp; omega) (fun j hj => (hown1.lt j hj).1)
            have hown2 : w2.ownsRow w.heap.size 9 1 (.slice (some ⟨g, 0, none⟩) (vn + 1) cap) (vn + 1) (strs ((acc ++ [x]).map ba)) := by
              rw [List.map_append, strs_append]; exact hown'
            have HA2 := hide (after_any _ w2 HBQ.out)
            clear hown' hgrow hown1 hat hlg hnx1
            go_wp2_with fail
            refine HA2.out.mono ?_
            rintro e w3 ⟨rfl, hb3⟩
            have hown3 := owns_below5 hown2 hb3
            have hnx3 := Below.next hb2 hb3
            clear hown2 hb2 hb3 HA2
            go_wp2
            go_roundw
            case rel => exact ⟨_, acc ++ [x], some ⟨g, 0, none⟩, vn + 1, cap, rfl, rfl, ⟨HE.out.1, by rw [ba_size]; exact HE.out.2.2.1, HE.out.2.2.2⟩, hown3, hnx3⟩
            case measure => show (ba _).size < _; rw [ba_size]; exact HE.out.2.1
          · obtain ⟨f0, f1⟩ := str_ne hz
            have hzI : (0 : Int) < (bq.size : Int) := by omega
            go_wp2_with (first
              | (at_builtin; refine wpList_append_lies _ rfl _ _ 22 rfl w.heap.size 9 i0 (.string ByteArray.empty) 1 16 Tryd.underlying22 hi hz0 hz1 hz2 rfl (by decide) _ _ _ rfl (hown1.alloc _) ⟨w1.heap.size, 0, none⟩ 1 1 [.string (ba x)] rfl rfl ?c1 ?c2 ?c3 ?c4 ?c5 ?c6 (w1.heap.size + 1) ?c7 ?_))
            case c1 =>
              intro j u hj
              match j, hj with
              | 0, hj => simp at hj; subst hj; simp [Addr.add]
            case c2 => intro u hu; simp at hu; subst hu; rfl
            case c3 => decide
            case c4 => unfold maxLen; omega
            case c5 => omega
            case c6 => have := hnx1.size; simp; omega
            case c7 => simp
            intro g cap w2 hown' hgrow hat hlg
            have hb2 : Below w.heap.size w w2 := (hnx1.alloc (by have := hnx1.size; omega) _).grown hgrow (by have := hnx1.size; simp; omega) (fun j hj => (hown1.lt j hj).1)
            have hown2 : w2.ownsRow w.heap.size 9 1 (.slice (some ⟨g, 0, none⟩) (vn + 1) cap) (vn + 1) (strs ((acc ++ [x]).map ba)) := by
              rw [List.map_append, strs_append]; exact hown'
            have HA2 := hide (after_any _ w2 HBQ.out)
            clear hown' hgrow hown1 hat hlg hnx1
            go_wp2_with fail
            refine HA2.out.mono ?_
            rintro e w3 ⟨rfl, hb3⟩
            have hown3 := owns_below5 hown2 hb3
            have hnx3 := Below.next hb2 hb3
            clear hown2 hb2 hb3 HA2
            go_wp2
            go_roundw
            case rel => exact ⟨_, acc ++ [x], some ⟨g, 0, none⟩, vn + 1, cap, rfl, rfl, ⟨HE.out.1, by rw [ba_size]; exact HE.out.2.2.1, HE.out.2.2.2⟩, hown3, hnx3⟩
            case measure => show (ba _).size < _; rw [ba_size]; exact HE.out.2.1
        · have HR : Hid (o = none) := by
            show _ = _
            rw [hh.out.1]; exact wordsD_bad hwd (by simpa using he)
          have hz : 0 < bq.size := by
            rcases end_head hbq with ⟨h, _⟩ | h
            · exact absurd h he
            · refine Nat.pos_of_ne_zero fun h0 => he ?_
              have : q = [] := by
                have h9 := congrArg ByteArray.size hbq
                rw [ba_size] at h9
                exact List.length_eq_zero_iff.1 (by omega)
              rw [this]; rfl
          have hzc : ((bq[0].toNat : Int) != 32) = true := by
            rcases end_head hbq with ⟨h, _⟩ | h
            · exact absurd h he
            · rw [bne_iff_ne]
              intro e9
              exact he ((h hz).1 (UInt8.toNat_inj.1 (show _ = 32 by omega)))
          obtain ⟨f0, f1⟩ := str_ne hz
          have hzI : (0 : Int) < (bq.size : Int) := by omega
          clear hh hwd he hbq hown1
          go_wp2
          go_quiet (fail)
          go_wp2
          rw [HQ.out]
          exact ⟨.inr ⟨HR.out, rfl⟩, below_drewN' hnx1 _⟩
      · have HR : Hid (o = none) := by
          show _ = _
          rw [hh.out.1]; exact wordsD_none HNE.out hwd
        clear hh hwd hown1
        go_wp2
        go_quiet (fail)
        go_wp2
        rw [HQ.out]
        exact ⟨.inr ⟨HR.out, rfl⟩, below_drewN' hnx1 _⟩
    · have ht := str_nil h0
      subst ht
      have HR : Hid (o = some acc ∧ acc.length = vn) := ⟨by rw [hh.out.1]; exact wordsD_nil _, hh.out.2.2⟩
      clear hh
      go_wp2
      rw [HQ.out]
      exact ⟨.inl ⟨acc, va, vn, vc, HR.out.1, rfl, HR.out.2.symm, hown⟩, hnx⟩
end Go.Proofs.YtdkckbfamecipaaDoor
