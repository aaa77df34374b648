import Derived.Test.YtpeobpmooledaaaDoorPut
import Derived.Test.YtpeobpmooledaaaDoorGS
namespace Go.Proofs.YtpeobpmooledaaaDoor
open Go.RowKit

theorem pow_cast (n k : Nat) : (n : Int) / 2 ^ k = ((n / 2 ^ k : Nat) : Int) := by
  rw [Int.natCast_ediv]; simp
theorem be_get (n m k : Nat) (_hm : m ≤ 8) (_hk : k < m) (h : k < (beBytes n m).length) : (beBytes n m)[k] = dig n (8 - m + k) := by
  simp only [beBytes, List.getElem_drop]
  rw [digs_get]

set_option maxHeartbeats 400000 in
theorem rput_no (n : Nat) (width : Int) (w : World) (hn : n < 18446744073709551616) (hw1 : -9223372036854775808 ≤ width) (hw2 : width ≤ 9223372036854775807) (hno : ¬ fits n width) :
    Calls Tryd.prog 27 #[.int .u64 (n : Int), .int .i64 width] w fun e w' => e = .returned (.tuple #[.slice none 0 0, .int .i64 1]) ∧ w = w' := by
  by_cases h1 : width < 1
  · have hd1 : decide (width < 1) = true := decide_eq_true h1
    clear hno
    go_enter Tryd.func27, Tryd.ntmps27
    go_wp2
    go_ret2
    exact ⟨rfl, rfl⟩
  · have hd1 : decide (width < 1) = false := decide_eq_false h1
    by_cases h8 : 8 < width
    · have hd2 : decide (8 < width) = true := decide_eq_true h8
      clear hno
      go_enter Tryd.func27, Tryd.ntmps27
      go_wp2
      go_ret2
      exact ⟨rfl, rfl⟩
    · have hd2 : decide (8 < width) = false := decide_eq_false h8
      obtain ⟨m, rfl⟩ := Int.eq_ofNat_of_zero_le (show 0 ≤ width by omega)
      have hb : ¬ n < 2 ^ (8 * m) := fun h => hno ⟨by omega, by omega, by simpa using h⟩
      have hm8 : m < 8 := by
        rcases Nat.lt_or_ge m 8 with h | h
        · exact h
        · exact absurd (Nat.lt_of_lt_of_le hn (Nat.pow_le_pow_right (n := 2) (i := 64) (j := 8 * m) (by decide) (by omega))) hb
      have hd3 : decide ((m : Int) < 8) = true := decide_eq_true (by omega)
      have hpos : 0 < n / 2 ^ (8 * m) := Nat.div_pos (by omega) (Nat.two_pow_pos _)
      have hd4 : ((n : Int) / 2 ^ (8 * m) != 0) = true := by rw [pow_cast, bne_iff_ne]; omega
      clear hno hb hpos
      go_enter Tryd.func27, Tryd.ntmps27
      go_wp2
      go_ret2
      exact ⟨rfl, rfl⟩

set_option maxRecDepth 100000 in
set_option maxHeartbeats 400000 in
theorem rput_ok (n m : Nat) (w : World) (_hn : n < 18446744073709551616) (h1 : 1 ≤ m) (h8 : m ≤ 8) (hfit : n < 2 ^ (8 * m)) :
    Calls Tryd.prog 27 #[.int .u64 (n : Int), .int .i64 (m : Int)] w fun e w' => ∃ v, e = .returned (.tuple #[v, .int .i64 0]) ∧ w'.ownsRow w.heap.size 5 1 v m (u8s (beBytes n m)) ∧ Below w.heap.size w w' := by
  obtain ⟨i0, hi, hz0, hz1, hz2⟩ := info_parts Tryd.info5
  have hd1 : decide ((m : Int) < 1) = false := decide_eq_false (by omega)
  have hd2 : decide (8 < (m : Int)) = false := decide_eq_false (by omega)
  have hz : n / 2 ^ (8 * m) = 0 := Nat.div_eq_of_lt hfit
  have hd4 : ((n : Int) / 2 ^ (8 * m) != 0) = false := by rw [pow_cast, hz]; rfl
  obtain ⟨bb, hbb⟩ : ∃ bb : Bool, decide ((m : Int) < 8) = bb := ⟨_, rfl⟩
  have hl := beBytes_len n m h8
  clear hz hfit
  go_enter Tryd.func27, Tryd.ntmps27
  cases bb
  all_goals
    go_wp2_with fail
    go_loopw [6, 7] (fun v i wr => ∃ k : Nat, k ≤ m ∧ i = .int .i64 ((m : Int) - 1 - k) ∧ wr.ownsRow w.heap.size 5 1 v k (u8s ((beBytes n m).take k)) ∧ Below w.heap.size w wr) (fun _ i _ => (intOf i + 1).toNat)
    case atStart => exact ⟨0, Nat.zero_le _, by go_num, World.ownsRow_nil _ _ _ _, Below.refl _ _⟩
    case round =>
      obtain ⟨k, hk, rfl, hown, hnx⟩ := hrel
      by_cases hlt : k < m
      · obtain ⟨j, hj⟩ : ∃ j : Nat, (m : Int) - 1 - k = (j : Int) := ⟨m - 1 - k, by omega⟩
        rw [hj]
        have hjm : j = m - 1 - k := by omega
        have hv := dig_val n j (by omega)
        have HS : Hid ((beBytes n m).take (k + 1) = (beBytes n m).take k ++ [dig n (7 - j)]) := by
          show _ = _
          rw [take_next _ k (by omega), be_get n m k h8 hlt, show 8 - m + k = 7 - j by omega]
        have HJ : Hid ((m : Int) - 1 - k = (j : Int)) := hj
        have hj8 : j < 8 := by omega
        have j0 : (0 : Int) ≤ (j : Int) := Int.natCast_nonneg j
        clear hj hjm
        generalize dig n (7 - j) = dg at *
        go_wp2_with (first
          | (at_builtin; refine wpList_append_lies _ rfl _ _ 41 rfl w.heap.size 5 i0 (.int .u8 0) 1 1 Tryd.underlying41 hi hz0 hz1 hz2 rfl (by decide) _ _ _ rfl (hown.alloc _) ⟨wr.heap.size, 0, none⟩ 1 1 [.int .u8 (dg.toNat : Int)] rfl rfl ?c1 ?c2 ?c3 ?c4 ?c5 ?c6 (wr.heap.size + 1) ?c7 ?_))
        case c1 =>
          intro j u hj
          match j, hj with
          | 0, hj => simp at hj; subst hj; simp [Addr.add]
        case c2 => intro u hu; simp at hu; subst hu; rfl
        case c3 => decide
        case c4 => unfold maxLen; omega
        case c5 => omega
        case c6 => have := hnx.size; simp; omega
        case c7 => simp
        intro g cap w1 hown' hgrow hat hlg
        have hb1 : Below w.heap.size w w1 := (hnx.alloc (by have := hnx.size; omega) _).grown hgrow (by have := hnx.size; simp; omega) (fun j hj => (hown.lt j hj).1)
        have hown2 : w1.ownsRow w.heap.size 5 1 (.slice (some ⟨g, 0, none⟩) (k + 1) cap) (k + 1) (u8s ((beBytes n m).take (k + 1))) := by
          rw [HS.out, u8s_append]; exact hown'
        clear hown' hgrow hown hat hlg hnx
        go_wp2
        go_roundw
        case rel => exact ⟨k + 1, by omega, by have := HJ.out; go_num, hown2, hb1⟩
        case measure => simp [intOf]
      · have hke : k = m := by omega
        subst hke
        have hown2 := hown
        rw [List.take_of_length_le (by omega)] at hown2
        clear hown
        go_wp2
        go_ret2
        exact ⟨_, rfl, hown2, hnx⟩

end Go.Proofs.YtpeobpmooledaaaDoor
