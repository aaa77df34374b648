import Derived.Test.YtdkckbfamecipaaDoorWQuot
import Derived.Deep.RegionHeld3
namespace Go.Proofs.YtdkckbfamecipaaDoor
open Go.RowKit

theorem take_end {p : UInt8 → Bool} {l : List UInt8} {k : Nat} (h : (l.take k).all p = true) (he : ∀ c q, l.drop k = c :: q → p c = false) : l.takeWhile p = l.take k ∧ l.dropWhile p = l.drop k := by
  have := all_take h he
  rw [List.take_append_drop] at this
  exact this
set_option maxHeartbeats 4000000 in
set_option maxRecDepth 100000 in
theorem bare_any (s : ByteArray) (w : World) (hs : s.size ≤ 70368744177664) :
    Calls Tryd.prog 25 #[.string s] w fun e w' => e = .returned (.tuple #[.string (ba (s.data.toList.takeWhile bareB)), .string (ba (s.data.toList.dropWhile bareB))]) ∧ Below w.heap.size w w' := by
  obtain ⟨x, hx⟩ : ∃ x, x = ba (s.data.toList.takeWhile bareB) := ⟨_, rfl⟩
  obtain ⟨y, hy⟩ : ∃ y, y = ba (s.data.toList.dropWhile bareB) := ⟨_, rfl⟩
  rw [← hx, ← hy]
  have HXY : Hid (x = ba (s.data.toList.takeWhile bareB) ∧ y = ba (s.data.toList.dropWhile bareB)) := ⟨hx, hy⟩
  clear hx hy
  go_enter Tryd.func25, Tryd.ntmps25
  go_wp2
  go_loop [4] (fun v => ∃ k : Nat, v = .int .i64 (k : Int) ∧ k ≤ s.size ∧ Hid ((s.data.toList.take k).all bareB = true)) (fun v => s.size - (intOf v).toNat)
  case atStart => exact ⟨0, rfl, Nat.zero_le _, rfl⟩
  case round =>
    obtain ⟨k, rfl, hk, hall⟩ := hrel
    have k0 : (0 : Int) ≤ (k : Int) := by omega
    have kI : (k : Int) ≤ (s.size : Int) := by omega
    have fin : (∀ c q, s.data.toList.drop k = c :: q → bareB c = false) → s.extract 0 k = x ∧ s.extract k s.size = y := fun h => by
      obtain ⟨h1, h2⟩ := take_end hall.out h
      obtain ⟨e1, e2⟩ := HXY.out
      rw [e1, e2, h1, h2, ba_head, ba_tail]
      exact ⟨rfl, rfl⟩
    by_cases hlt : k < s.size
    · have hltI : (k : Int) < (s.size : Int) := by omega
      have hd := drop_cons s k hlt
      have HST := hide (stand_any s[k])
      cases hb : bareB s[k] with
      | true =>
        rw [hb] at HST
        have HA : Hid ((s.data.toList.take (k + 1)).all bareB = true) := by
          show _ = _
          rw [take_snoc s k hlt, List.all_append, hall.out]
          simp [hb]
        clear hb fin hd
        go_wp2_with (go_at_call 33; refine (HST.out _).mono ?_; rintro e w1 ⟨rfl, rfl⟩)
        go_round
        case rel => exact ⟨k + 1, by go_num, by omega, HA⟩
        case measure => simp [intOf]; omega
      | false =>
        rw [hb] at HST
        obtain ⟨f1, f2⟩ := fin (fun c q h => by rw [hd] at h; cases h; exact hb)
        have F1 := hide f1
        have F2 := hide f2
        have HCL : Hid (∀ W, Below w.heap.size w W → Calls Tryd.prog 34 #[.string (s.extract 0 k)] W fun e w' => e = .returned (.string x) ∧ Below w.heap.size w w') := fun W hW => by
          rw [F1.out]
          exact (sclone_any x W (by have := congrArg ByteArray.size F1.out; rw [ByteArray.size_extract] at this; omega)).mono fun e w' h => ⟨h.1, Below.next hW h.2⟩
        clear hb fin hd f1 f2 hall
        go_wp2_with (go_at_call 33; refine (HST.out _).mono ?_; rintro e w1 ⟨rfl, rfl⟩)
        go_region_with (go_at_call 34; refine (HCL.out _ (by first | exact (Below.refl _ _).drew | exact below_drewN' (Below.refl _ _) _ | exact Below.refl _ _)).mono ?_; rintro e w2 ⟨rfl, hb2⟩)
        all_goals
          go_wp2
          go_ret2
          rw [F2.out]
          exact ⟨rfl, hb2⟩
    · have hltI : ¬ (k : Int) < (s.size : Int) := by omega
      obtain ⟨f1, f2⟩ := fin (fun c q h => by rw [List.drop_eq_nil_of_le (by rw [bsize]; omega)] at h; cases h)
      have F1 := hide f1
      have F2 := hide f2
      have HCL : Hid (∀ W, Below w.heap.size w W → Calls Tryd.prog 34 #[.string (s.extract 0 k)] W fun e w' => e = .returned (.string x) ∧ Below w.heap.size w w') := fun W hW => by
        rw [F1.out]
        exact (sclone_any x W (by have := congrArg ByteArray.size F1.out; rw [ByteArray.size_extract] at this; omega)).mono fun e w' h => ⟨h.1, Below.next hW h.2⟩
      clear fin f1 f2 hall
      go_wp2_with fail
      go_region_with (go_at_call 34; refine (HCL.out _ (by first | exact (Below.refl _ _).drew | exact below_drewN' (Below.refl _ _) _ | exact Below.refl _ _)).mono ?_; rintro e w2 ⟨rfl, hb2⟩)
      all_goals
        go_wp2
        go_ret2
        rw [F2.out]
        exact ⟨rfl, hb2⟩
/-- What cutWord answers. -/
theorem cutw_any (s : ByteArray) (w : World) (h0 : 0 < s.size) (hs : s.size ≤ 70368744177664) (hsy : SynAt w.heap.size w) :
    Calls Tryd.prog 19 #[.string s] w fun e w' => QuV (wordD s.data.toList) e ∧ Below w.heap.size w w' := by
  have HL := toList_first s h0
  have h0I : (0 : Int) < (s.size : Int) := by omega
  have h1I : (1 : Int) ≤ (s.size : Int) := by omega
  by_cases hc : s[0] = 34
  · have hcI : ((s[0].toNat : Int) == 34) = true := by rw [hc]; rfl
    have hw : wordD s.data.toList = quotD [] (s.extract 1 s.size).data.toList := by
      rw [ba_tail, ba_list]
      conv => lhs; rw [HL, wordD_cons, if_pos hc]
    rw [hw]
    have HQ := hide (quot_any (s.extract 1 s.size) w (by rw [ByteArray.size_extract]; omega) hsy)
    generalize quotD [] (s.extract 1 s.size).data.toList = o at *
    clear hc HL hsy hw
    go_enter Tryd.func19, Tryd.ntmps19
    go_wp2_with fail
    refine HQ.out.mono ?_
    rintro e w1 ⟨hq, hb1⟩
    rcases hq with ⟨x, q, rfl, rfl⟩ | ⟨rfl, rfl⟩
    · go_wp2
      go_ret3
      exact ⟨.inl ⟨x, q, rfl, rfl⟩, hb1⟩
    · go_wp2
      go_ret3
      exact ⟨.inr ⟨rfl, rfl⟩, hb1⟩
  · have hcI : ((s[0].toNat : Int) == 34) = false := u8_ne (k := 34) (by decide) hc
    have HW : Hid (wordD s.data.toList = some (s.data.toList.takeWhile bareB, s.data.toList.dropWhile bareB)) := by
      show _ = _
      conv => lhs; rw [HL, wordD_cons, if_neg hc, ← HL]
    have HB := hide (bare_any s w hs)
    generalize s.data.toList.takeWhile bareB = x at *
    generalize s.data.toList.dropWhile bareB = y at *
    clear hc HL hsy
    go_enter Tryd.func19, Tryd.ntmps19
    go_wp2_with fail
    refine HB.out.mono ?_
    rintro e w1 ⟨rfl, hb1⟩
    go_wp2
    go_ret3
    exact ⟨.inl ⟨x, y, HW.out, rfl⟩, hb1⟩
end Go.Proofs.YtdkckbfamecipaaDoor
