import Derived.Test.YtgljkgkophaefaaAboveRef
import Derived.Test.YtgljkgkophaefaaUpMath
namespace Go.Proofs.Ytgljkgkophaefaa
open Go.RowKit

theorem begins_eq (s t : ByteArray) (h : t.size ≤ s.size) : ((s.extract 0 t.size).toList == t.toList) = beg t.data.toList s.data.toList := by
  have e : (s.extract 0 t.size).data.toList = s.data.toList.take t.size := by simp [ByteArray.data_extract]
  have : decide (t.data.toList.length ≤ s.data.toList.length) = true := by simpa using h
  rw [beg_take, this, Bool.true_and, ByteArray.toList_eq, ByteArray.toList_eq, e]
  simp
theorem begins_no (s t : ByteArray) (h : ¬ t.size ≤ s.size) : false = beg t.data.toList s.data.toList := by
  have : decide (t.data.toList.length ≤ s.data.toList.length) = false := by simpa using h
  rw [beg_take, this, Bool.false_and]

theorem ret_bool {a b : Bool} (h : a = b) : Ending.returned (.bool a) = .returned (.bool b) := by rw [h]

set_option maxHeartbeats 400000 in
theorem begins_any (s t : ByteArray) (w : World) (_hs : s.size ≤ 140737488351232) (_ht : t.size ≤ 140737488351232) :
    Calls Try.prog 7 #[.string s, .string t] w fun e w' => e = .returned (.bool (beg t.data.toList s.data.toList)) ∧ w = w' := by
  go_enter Try.func7, Try.ntmps7
  by_cases h : t.size ≤ s.size
  · go_wp2_with fail
    go_ret
    exact ⟨ret_bool (begins_eq s t h), rfl⟩
  · go_wp2_with fail
    go_ret
    exact ⟨ret_bool (begins_no s t h), rfl⟩

theorem ab_up : aboveB ⟨#[97, 98]⟩ = ⟨#[97, 99]⟩ := by decide
theorem ab_has : hasUp ⟨#[97, 98]⟩ = true := by decide

set_option maxHeartbeats 1000000 in
theorem tabove_any (s t : ByteArray) (w : World) (hs : s.size ≤ 140737488351232) (ht : t.size ≤ 140737488351232) :
    Calls Try.prog 4 #[.agg #[.string s, .string t]] w fun e w' => e = .returned (.bool true) ∧ Below w.heap.size w w' := by
  go_enter Try.func4, Try.ntmps4
  go_wp2_with fail
  go_quiet (fail)
  go_wp2_with fail
  refine (above_any ⟨#[97, 98]⟩ _ (by decide)).mono ?_
  rintro e w1 ⟨rfl, hb1⟩
  have hb01 : Below w.heap.size w w1 := (below_drewN ((Below.refl _ _).alloc (Nat.le_refl _) _) _).trans (hb1.mono (by simp))
  clear hb1
  rw [ab_up, ab_has]
  go_wp2_with fail
  refine (above_any s _ hs).mono ?_
  rintro e w2 ⟨rfl, hb2⟩
  have hb02 := hb01.trans (hb2.mono hb01.size)
  clear hb01 hb2
  by_cases hcut : cutN s = 0
  · have hup : hasUp s = false := by simp [hasUp, hcut]
    have hab : aboveB s = ⟨#[]⟩ := by simp [aboveB, hcut]
    have hff := cut_none s hcut
    have hk := beg_ff s.data.toList hff t.data.toList
    rw [hup, hab]
    clear hup hab hcut
    go_wp2_with fail
    go_loop [9] (fun i => ∃ k : Nat, k ≤ s.size ∧ i = .int .i64 k) (fun i => s.size - (intOf i).toNat)
    case atStart => exact ⟨0, Nat.zero_le _, rfl⟩
    case round =>
      obtain ⟨k, hkl, rfl⟩ := hrel
      by_cases hlt : k < s.size
      · have hx : s[k].toNat = 255 := by rw [hff s[k] (by exact Array.getElem_mem_toList _)]; rfl
        clear hk hff
        go_wp2_with fail
        go_round
        case rel => exact ⟨k + 1, by omega, by go_num⟩
        case measure => simp [intOf]; omega
      · have hL : ∀ b, Op.bytesLess t.toList s.toList = b → beg s.data.toList t.data.toList = !b := by
          intro b hb; rw [hk, ← hb, ByteArray.toList_eq, ByteArray.toList_eq]
        clear hk hff
        cases hb : Op.bytesLess t.toList s.toList
        all_goals
          have hk2 := hL _ hb
          clear hL
          go_wp2_with fail
          refine (begins_any t s _ ht hs).mono ?_
          rintro e w3 ⟨rfl, rfl⟩
          rw [hk2]
          go_wp2_with fail
          go_ret
          exact ⟨rfl, hb02⟩
  · have hup : hasUp s = true := by simp [hasUp, hcut]
    have hk := beg_above s hcut t.data.toList
    rw [hup]
    clear hup hcut
    generalize aboveB s = U at *
    have hL : ∀ b c, Op.bytesLess t.toList s.toList = b → Op.bytesLess t.toList U.toList = c → beg s.data.toList t.data.toList = (!b && c) := by
      intro b c hb hc; rw [hk, ← hb, ← hc, ByteArray.toList_eq, ByteArray.toList_eq, ByteArray.toList_eq]
    clear hk
    cases hb : Op.bytesLess t.toList s.toList
    all_goals
      cases hc : Op.bytesLess t.toList U.toList
      all_goals
        have hk2 := hL _ _ hb hc
        clear hL
        go_wp2_with fail
        refine (begins_any t s _ ht hs).mono ?_
        rintro e w3 ⟨rfl, rfl⟩
        rw [hk2]
        go_wp2_with fail
        go_ret
        exact ⟨rfl, hb02⟩

end Go.Proofs.Ytgljkgkophaefaa
