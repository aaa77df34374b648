import Derived.Test.YtgljkgkophaefabDoorComp
import Derived.Test.YtgljkgkophaefabDoorOrd3
import Derived.Test.YtgljkgkophaefabDoorTidy
namespace Go.Proofs.YtgljkgkophaefabDoor
open Go.RowKit

theorem ret_i64' {a b : Int} (h : a = b) : Ending.returned (.int .i64 a) = .returned (.int .i64 b) := by rw [h]
theorem cmpB_at (x y : List UInt8) (j : Nat) (hx : j < x.length) (hy : j < y.length) (h : x.take j = y.take j) : cmpB x y = if x[j] < y[j] then -1 else if y[j] < x[j] then 1 else cmpB (x.drop (j + 1)) (y.drop (j + 1)) := by
  have ex : x = x.take j ++ x[j] :: x.drop (j + 1) := by rw [← List.drop_eq_getElem_cons hx, List.take_append_drop]
  have ey : y = x.take j ++ y[j] :: y.drop (j + 1) := by rw [h, ← List.drop_eq_getElem_cons hy, List.take_append_drop]
  have : cmpB x y = cmpB (x.take j ++ x[j] :: x.drop (j + 1)) (x.take j ++ y[j] :: y.drop (j + 1)) := congr (congrArg cmpB ex) ey
  rw [this, cmpB_app, cmpB_cons]
theorem cmpB_end (x y : List UInt8) (j : Nat) (h : x.take j = y.take j) (hj : j = x.length ∨ j = y.length) (hx : j ≤ x.length) (hy : j ≤ y.length) : cmpB x y = sgn x.length y.length := by
  rcases hj with rfl | rfl
  · have ey : y = x ++ y.drop x.length := by
      have := List.take_append_drop x.length y
      rw [← h, List.take_of_length_le (Nat.le_refl _)] at this
      exact this.symm
    have : cmpB x y = cmpB (x ++ []) (x ++ y.drop x.length) := congr (congrArg cmpB (List.append_nil x).symm) ey
    rw [this, cmpB_app]
    cases hd : y.drop x.length with
    | nil =>
      have hl : y.length ≤ x.length := by simpa using hd
      have : x.length = y.length := by omega
      rw [this, sgn_eq]; rfl
    | cons c r =>
      have hl : x.length < y.length := by
        rcases Nat.lt_or_ge x.length y.length with k | k
        · exact k
        · rw [List.drop_eq_nil_iff.2 k] at hd; cases hd
      rw [sgn_lt (by omega)]; rfl
  · have ex : x = y ++ x.drop y.length := by
      have := List.take_append_drop y.length x
      rw [h, List.take_of_length_le (Nat.le_refl _)] at this
      exact this.symm
    have : cmpB x y = cmpB (y ++ x.drop y.length) (y ++ []) := congr (congrArg cmpB ex) (List.append_nil y).symm
    rw [this, cmpB_app]
    cases hd : x.drop y.length with
    | nil =>
      have hl : x.length ≤ y.length := by simpa using hd
      have : x.length = y.length := by omega
      rw [this, sgn_eq]; rfl
    | cons c r =>
      have hl : y.length < x.length := by
        rcases Nat.lt_or_ge y.length x.length with k | k
        · exact k
        · rw [List.drop_eq_nil_iff.2 k] at hd; cases hd
      rw [sgn_gt (by omega)]; rfl

set_option maxHeartbeats 1000000 in
theorem order_any (s t : ByteArray) (w : World) (hs : s.size ≤ 140737488351232) (_ht : t.size ≤ 140737488351232) :
    Calls Tryd.prog 18 #[.string s, .string t] w fun e w' => e = .returned (.int .i64 (cmpB s.data.toList t.data.toList)) ∧ Below w.heap.size w w' := by
  have ls : s.data.toList.length = s.size := by simp
  have lt : t.data.toList.length = t.size := by simp
  have HL : Hid (s.data.toList.length = s.size ∧ t.data.toList.length = t.size) := ⟨ls, lt⟩
  clear ls lt
  go_enter Tryd.func18, Tryd.ntmps18
  go_wp2_with fail
  go_loopw [5] (fun i wr => ∃ j : Nat, j ≤ s.size ∧ j ≤ t.size ∧ i = .int .i64 j ∧ s.data.toList.take j = t.data.toList.take j ∧ Below w.heap.size w wr) (fun i _ => s.size - (intOf i).toNat)
  case atStart => exact ⟨0, Nat.zero_le _, Nat.zero_le _, rfl, rfl, Below.refl _ _⟩
  case round =>
    obtain ⟨j, hj, hj', rfl, he, hbl⟩ := hrel
    have HE : Hid (s.data.toList.take j = t.data.toList.take j) := he
    clear he
    by_cases hlt : j < s.size
    · by_cases hlt' : j < t.size
      · have e1 := cmpB_at s.data.toList t.data.toList j (by rw [HL.out.1]; exact hlt) (by rw [HL.out.2]; exact hlt') HE.out
        have a1 : s.data.toList[j]'(by rw [HL.out.1]; exact hlt) = s[j] := rfl
        have a2 : t.data.toList[j]'(by rw [HL.out.2]; exact hlt') = t[j] := rfl
        rw [a1, a2] at e1
        have HN : Hid (s[j] = t[j] → s.data.toList.take (j + 1) = t.data.toList.take (j + 1)) := fun h => by
          rw [List.take_succ_eq_append_getElem (by rw [HL.out.1]; exact hlt), List.take_succ_eq_append_getElem (by rw [HL.out.2]; exact hlt'), HE.out, a1, a2, h]
        clear a1 a2
        obtain ⟨x, hx⟩ : ∃ x : UInt8, x = s[j] := ⟨_, rfl⟩
        obtain ⟨y, hy⟩ : ∃ y : UInt8, y = t[j] := ⟨_, rfl⟩
        rw [← hx, ← hy] at e1 HN
        have hx' : s[j] = x := hx.symm
        have hy' : t[j] = y := hy.symm
        have H1 : Hid (cmpB s.data.toList t.data.toList = if x < y then -1 else if y < x then 1 else cmpB (s.data.toList.drop (j + 1)) (t.data.toList.drop (j + 1))) := e1
        clear hx hy e1
        have j0 : (0 : Int) ≤ (j : Int) := Int.natCast_nonneg _
        have j1 : (j : Int) < (s.size : Int) := by omega
        have j2 : (j : Int) < (t.size : Int) := by omega
        rcases Nat.lt_trichotomy x.toNat y.toNat with h | h | h
        · have HR : Hid (cmpB s.data.toList t.data.toList = -1) := by show _ = _; rw [H1.out, if_pos (UInt8.lt_iff_toNat_lt.2 h)]
          have hne : ((x.toNat : Int) != (y.toNat : Int)) = true := by rw [bne_iff_ne]; omega
          have hd : decide ((x.toNat : Int) < (y.toNat : Int)) = true := decide_eq_true (by omega)
          clear H1 HN HE
          go_wp2_with fail
          go_quiet (fail)
          go_wp2_with fail
          go_quiet (fail)
          go_wp2_with fail
          go_ret
          exact ⟨ret_i64' HR.out.symm, below_drewN (below_drewN hbl _) _⟩
        · have e : x = y := UInt8.toNat_inj.1 h
          have HQ := HN.out e
          have HQ' : Hid (s.data.toList.take (j + 1) = t.data.toList.take (j + 1)) := HQ
          subst e
          have hne : ((x.toNat : Int) != (x.toNat : Int)) = false := by simp
          clear H1 HN HE HQ
          go_wp2_with fail
          go_quiet (fail)
          go_wp2_with fail
          go_roundw
          case rel => exact ⟨j + 1, by omega, by omega, by go_num, HQ'.out, below_drewN hbl _⟩
          case measure => simp [intOf]; omega
        · have h' : ¬ x < y := fun e => by have := UInt8.lt_iff_toNat_lt.1 e; omega
          have HR : Hid (cmpB s.data.toList t.data.toList = 1) := by show _ = _; rw [H1.out, if_neg h', if_pos (UInt8.lt_iff_toNat_lt.2 h)]
          have hne : ((x.toNat : Int) != (y.toNat : Int)) = true := by rw [bne_iff_ne]; omega
          have hd : decide ((x.toNat : Int) < (y.toNat : Int)) = false := decide_eq_false (by omega)
          clear H1 HN HE h'
          go_wp2_with fail
          go_quiet (fail)
          go_wp2_with fail
          go_quiet (fail)
          go_wp2_with fail
          go_ret
          exact ⟨ret_i64' HR.out.symm, below_drewN (below_drewN hbl _) _⟩
      · have e1 := cmpB_end s.data.toList t.data.toList j HE.out (.inr (by rw [HL.out.2]; omega)) (by rw [HL.out.1]; omega) (by rw [HL.out.2]; omega)
        rw [HL.out.1, HL.out.2] at e1
        have HR : Hid (cmpB s.data.toList t.data.toList = 1) := by show _ = _; rw [e1, sgn_gt (by omega)]
        clear e1 HE
        go_wp2_with fail
        go_ret
        exact ⟨ret_i64' HR.out.symm, hbl⟩
    · have e1 := cmpB_end s.data.toList t.data.toList j HE.out (.inl (by rw [HL.out.1]; omega)) (by rw [HL.out.1]; omega) (by rw [HL.out.2]; omega)
      rw [HL.out.1, HL.out.2] at e1
      by_cases hst : s.size < t.size
      · have HR : Hid (cmpB s.data.toList t.data.toList = -1) := by show _ = _; rw [e1, sgn_lt (by omega)]
        clear e1 HE
        go_wp2_with fail
        go_ret
        exact ⟨ret_i64' HR.out.symm, hbl⟩
      · have hse : s.size = t.size := by omega
        have HR : Hid (cmpB s.data.toList t.data.toList = 0) := by show _ = _; rw [e1, hse, sgn_eq]
        have h1 : ¬ (t.size : Int) < (s.size : Int) := by omega
        have h2 : ¬ (s.size : Int) < (t.size : Int) := by omega
        clear e1 HE hse
        go_wp2_with fail
        go_ret
        exact ⟨ret_i64' HR.out.symm, hbl⟩

end Go.Proofs.YtgljkgkophaefabDoor
