import Derived.Test.YtoedmapcnalhjaaDoorBack1
import Derived.Laws.IdiomStrings
namespace Go.Proofs.YtoedmapcnalhjaaDoor
open Go.RowKit

theorem get_rd1 (v : Value) (l : List UInt8) (w : World) (hr : Rd w v l) (h1 : 1 ≤ l.length) (h8 : l.length ≤ 8) :
    Calls Tryd.prog 13 #[v] w fun e w' => e = .returned (.tuple #[.int .u64 ((beNat l : Nat) : Int), .nilIface]) ∧ Below w.heap.size w w' := by
  rcases hr with ⟨rfl, rfl⟩ | ⟨g, cap, rfl, _, _, h3, h4⟩
  · exact absurd h1 (by simp)
  · exact get_ok g cap l w h1 h8 h3 h4
theorem get_no_rd1 (a : Addr) (v : Value) (l : List UInt8) (w : World) (c0 : w.cell? ⟨1, 0, none⟩ = some (.iface 61 (.pointer (some a)))) (hr : Rd w v l) (h : ¬ (1 ≤ l.length ∧ l.length ≤ 8)) (hm : l.length ≤ 140737488355328) :
    Calls Tryd.prog 13 #[v] w fun e w' => e = .returned (.tuple #[.int .u64 0, .iface 61 (.pointer (some a))]) ∧ Below w.heap.size w w' := by
  obtain ⟨a0, cap, rfl⟩ : ∃ a0 cap, v = .slice a0 l.length cap := by
    rcases hr with ⟨rfl, rfl⟩ | ⟨g, cap, rfl, _⟩
    · exact ⟨none, 0, rfl⟩
    · exact ⟨_, cap, rfl⟩
  exact get_no1 a a0 l.length cap w c0 (by omega) hm
theorem put_known (w : World) : Calls Tryd.prog 12 #[.int .u64 258, .int .i64 2] w fun e w' => ∃ g c2, e = .returned (.tuple #[.slice (some ⟨g, 0, none⟩) 2 c2, .nilIface]) ∧ w'.cell? ⟨g, 0, none⟩ = some (.int .u8 1) ∧ w'.cell? ⟨g, 1, none⟩ = some (.int .u8 2) ∧ Below w.heap.size w w' := by
  have h := put_ok 258 2 w (by decide) (by decide) (by decide) (by decide)
  refine Calls.mono (show Calls Tryd.prog 12 #[.int .u64 258, .int .i64 2] w _ from h) ?_
  rintro e w' ⟨g, c2, rfl, hown, hb⟩
  have hl : beBytes 258 2 = [1, 2] := by decide
  rw [hl] at hown
  exact ⟨g, c2, rfl, by rw [hown.cellAt 0 (by decide)]; rfl, by rw [hown.cellAt 1 (by decide)]; rfl, hb⟩

theorem conv_own {w : World} {base g c : Nat} {s : ByteArray} (h : w.ownsRow base 5 1 (.slice (some ⟨g, 0, none⟩) s.size c) s.size (u8s s.data.toList)) : (convert 26 9 (.slice (some ⟨g, 0, none⟩) s.size c)).run Tryd.prog w = .ok (.string s) w := by
  have hr := run_convert_bytes_back (P := Tryd.prog) w 26 9 5 ⟨g, 0, none⟩ c s.data.toList Tryd.underlying26 Tryd.underlying5 Tryd.underlying9 (fun j hj => by
    have e : (⟨g, 0, none⟩ : Addr).add j = ⟨g, j, none⟩ := by simp [Addr.add]; omega
    rw [e, h.cellAt j (by rw [bsize] at hj; omega), u8s_get _ j hj])
  rw [bsize] at hr
  have es : (⟨s.data.toList.toArray⟩ : ByteArray) = s := by simp
  rw [es] at hr
  exact hr

set_option maxHeartbeats 1000000 in
theorem back_any (a : Addr) (n : Nat) (width : Int) (s : ByteArray) (w : World) (hn : n < 18446744073709551616) (hw1 : -9223372036854775808 ≤ width) (hw2 : width ≤ 9223372036854775807) (hs : s.size ≤ 140737488351232)
    (c0 : w.cell? ⟨1, 0, none⟩ = some (.iface 61 (.pointer (some a)))) :
    Calls Tryd.prog 5 #[.agg #[.int .u64 (n : Int), .int .i64 width, .string s]] w fun e w' => e = .returned (.bool true) ∧ Below w.heap.size w w' := by
  have hlen : s.data.toList.length = s.size := by simp
  go_enter Tryd.func5, Tryd.ntmps5
  go_wp2_with fail
  have hX0 := boxed_new (w.alloc (.cells #[.int .u64 (n : Int), .int .i64 width, .string s] 37)) #[.int .u64 (n : Int), .int .i64 width] 35
  have hB0 : Below w.heap.size w ((w.alloc (.cells #[.int .u64 (n : Int), .int .i64 width, .string s] 37)).alloc (.cells #[.int .u64 (n : Int), .int .i64 width] 35)) := (below_new w _).alloc (by simp) _
  have hc0 : ((w.alloc (.cells #[.int .u64 (n : Int), .int .i64 width, .string s] 37)).alloc (.cells #[.int .u64 (n : Int), .int .i64 width] 35)).cell? ⟨1, 0, none⟩ = some (.iface 61 (.pointer (some a))) := (hB0.cell (p := ⟨1, 0, none⟩) (World.block_lt_of_cell? _ _ c0)).trans c0
  rw [show (w.alloc (.cells #[.int .u64 (n : Int), .int .i64 width, .string s] 37)).heap.size = w.heap.size + 1 by simp] at hX0
  generalize (w.alloc (.cells #[.int .u64 (n : Int), .int .i64 width, .string s] 37)).alloc (.cells #[.int .u64 (n : Int), .int .i64 width] 35) = W0 at *
  clear c0
  refine (put_known _).mono ?_
  rintro e w1 ⟨g1, cap1, rfl, k0, k1, hb1⟩
  have hX1 := hX0.below hb1
  have hc1 : w1.cell? ⟨1, 0, none⟩ = some (.iface 61 (.pointer (some a))) := (hb1.cell (p := ⟨1, 0, none⟩) (World.block_lt_of_cell? _ _ hc0)).trans hc0
  have hB1 := Below.next hB0 hb1
  clear hX0 hB0 hc0 hb1
  have x0 : w1.cell? ⟨w.heap.size + 1, 0, none⟩ = some (.int .u64 (n : Int)) := hX1.2 0 (by simp)
  have x1 : w1.cell? ⟨w.heap.size + 1, 1, none⟩ = some (.int .i64 width) := hX1.2 1 (by simp)
  go_wp2_with fail
  clear k0 k1 x0 x1
  by_cases hf : fits n width
  · obtain ⟨h1, h8, hfit⟩ := hf
    obtain ⟨m, rfl⟩ := Int.eq_ofNat_of_zero_le (show 0 ≤ width by omega)
    have hfit' : n < 2 ^ (8 * m) := by simpa using hfit
    refine (put_ok n m _ hn (by omega) (by omega) hfit').mono ?_
    rintro e w2 ⟨g2, cap2, rfl, hown2, hb2⟩
    have hl2 := beBytes_len n m (by omega)
    have r2 := rd_of_owns hown2
    have HBN : Hid (beNat (beBytes n m) = n) := back_num m n (by omega) hfit'
    have hX2 := hX1.below hb2
    have hc2 : w2.cell? ⟨1, 0, none⟩ = some (.iface 61 (.pointer (some a))) := (hb2.cell (p := ⟨1, 0, none⟩) (World.block_lt_of_cell? _ _ hc1)).trans hc1
    have hB2 := Below.next hB1 hb2
    clear hX1 hc1 hB1 hb2 hown2 hfit hfit'
    go_wp2_with fail
    refine (get_rd1 _ (beBytes n m) _ r2 (by omega) (by omega)).mono ?_
    rintro e w3 ⟨rfl, hb3⟩
    rw [HBN.out]
    have hX3 := hX2.below hb3
    have ct : w3.cell? ⟨1, 0, none⟩ = some (.iface 61 (.pointer (some a))) := (hb3.cell (p := ⟨1, 0, none⟩) (World.block_lt_of_cell? _ _ hc2)).trans hc2
    have hBt := Below.next hB2 hb3
    have x0 : w3.cell? ⟨w.heap.size + 1, 0, none⟩ = some (.int .u64 (n : Int)) := hX3.2 0 (by simp)
    have x1 : w3.cell? ⟨w.heap.size + 1, 1, none⟩ = some (.int .i64 (m : Int)) := hX3.2 1 (by simp)
    clear hX2 hc2 hB2 hb3 r2 HBN hl2 hX3
    go_wp2_with fail
    refine (bytes_any s _ (by omega)).mono ?_
    rintro e w5 ⟨v5, rfl, hown5, hb5⟩
    have r5 := rd_of_owns hown5
    have c5 : w5.cell? ⟨1, 0, none⟩ = some (.iface 61 (.pointer (some a))) := (hb5.cell (p := ⟨1, 0, none⟩) (World.block_lt_of_cell? _ _ ct)).trans ct
    have hB5 := Below.next hBt hb5
    clear hown5 hb5 ct hBt
    by_cases hl : 1 ≤ s.size ∧ s.size ≤ 8
    · have d1 : decide ((1 : Int) ≤ (s.size : Int)) = true := decide_eq_true (by omega)
      have d2 : decide ((s.size : Int) ≤ 8) = true := decide_eq_true (by omega)
      have hbn : beNat s.data.toList < 2 ^ (8 * s.size) := by
        have h := beNat_lt s.data.toList
        rw [hlen] at h
        rw [Nat.pow_mul]
        exact h
      have hb64 : beNat s.data.toList < 18446744073709551616 := Nat.lt_of_lt_of_le hbn (Nat.le_trans (Nat.pow_le_pow_right (n := 2) (i := 8 * s.size) (j := 64) (by decide) (by omega)) (by decide))
      have HBB : Hid (beBytes (beNat s.data.toList) s.size = s.data.toList) := back_bytes s.size s.data.toList hlen hl.2
      go_wp2_with fail
      refine (get_rd1 _ s.data.toList _ r5 (by omega) (by omega)).mono ?_
      rintro e w6 ⟨rfl, hb6⟩
      have hB6 := Below.next hB5 hb6
      clear r5 c5 hB5 hb6
      generalize hbe : beNat s.data.toList = bn at *
      clear hbe
      go_wp2_with fail
      refine (put_ok bn s.size _ hb64 hl.1 hl.2 hbn).mono ?_
      rintro e w7 ⟨g7, c7, rfl, hown7, hb7⟩
      have hB7 := Below.next hB6 hb7
      rw [HBB.out] at hown7
      clear hB6 hb7 hbn hb64 HBB
      have hcv := conv_own hown7
      clear hown7
      go_wp2_with fail
      go_ret
      exact ⟨rfl, hB7⟩
    · go_wp2_with fail
      refine (get_no_rd1 a _ s.data.toList _ c5 r5 (by omega) (by omega)).mono ?_
      rintro e w6 ⟨rfl, hb6⟩
      have hB6 := Below.next hB5 hb6
      clear r5 c5 hB5 hb6
      by_cases h1 : 1 ≤ s.size
      · have d1 : decide ((1 : Int) ≤ (s.size : Int)) = true := decide_eq_true (by omega)
        have d2 : decide ((s.size : Int) ≤ 8) = false := decide_eq_false (by omega)
        go_wp2_with fail
        go_ret
        exact ⟨rfl, hB6⟩
      · have d1 : decide ((1 : Int) ≤ (s.size : Int)) = false := decide_eq_false (by omega)
        go_wp2_with fail
        go_ret
        exact ⟨rfl, hB6⟩
  · refine (put_no1 a n width _ hn hw1 hw2 hc1 hf).mono ?_
    rintro e w3 ⟨rfl, hb3⟩
    have ct : w3.cell? ⟨1, 0, none⟩ = some (.iface 61 (.pointer (some a))) := (hb3.cell (p := ⟨1, 0, none⟩) (World.block_lt_of_cell? _ _ hc1)).trans hc1
    have hBt := Below.next hB1 hb3
    clear hX1 hc1 hB1 hb3 hf
    go_wp2_with fail
    refine (bytes_any s _ (by omega)).mono ?_
    rintro e w5 ⟨v5, rfl, hown5, hb5⟩
    have r5 := rd_of_owns hown5
    have c5 : w5.cell? ⟨1, 0, none⟩ = some (.iface 61 (.pointer (some a))) := (hb5.cell (p := ⟨1, 0, none⟩) (World.block_lt_of_cell? _ _ ct)).trans ct
    have hB5 := Below.next hBt hb5
    clear hown5 hb5 ct hBt
    by_cases hl : 1 ≤ s.size ∧ s.size ≤ 8
    · have d1 : decide ((1 : Int) ≤ (s.size : Int)) = true := decide_eq_true (by omega)
      have d2 : decide ((s.size : Int) ≤ 8) = true := decide_eq_true (by omega)
      have hbn : beNat s.data.toList < 2 ^ (8 * s.size) := by
        have h := beNat_lt s.data.toList
        rw [hlen] at h
        rw [Nat.pow_mul]
        exact h
      have hb64 : beNat s.data.toList < 18446744073709551616 := Nat.lt_of_lt_of_le hbn (Nat.le_trans (Nat.pow_le_pow_right (n := 2) (i := 8 * s.size) (j := 64) (by decide) (by omega)) (by decide))
      have HBB : Hid (beBytes (beNat s.data.toList) s.size = s.data.toList) := back_bytes s.size s.data.toList hlen hl.2
      go_wp2_with fail
      refine (get_rd1 _ s.data.toList _ r5 (by omega) (by omega)).mono ?_
      rintro e w6 ⟨rfl, hb6⟩
      have hB6 := Below.next hB5 hb6
      clear r5 c5 hB5 hb6
      generalize hbe : beNat s.data.toList = bn at *
      clear hbe
      go_wp2_with fail
      refine (put_ok bn s.size _ hb64 hl.1 hl.2 hbn).mono ?_
      rintro e w7 ⟨g7, c7, rfl, hown7, hb7⟩
      have hB7 := Below.next hB6 hb7
      rw [HBB.out] at hown7
      clear hB6 hb7 hbn hb64 HBB
      have hcv := conv_own hown7
      clear hown7
      go_wp2_with fail
      go_ret
      exact ⟨rfl, hB7⟩
    · go_wp2_with fail
      refine (get_no_rd1 a _ s.data.toList _ c5 r5 (by omega) (by omega)).mono ?_
      rintro e w6 ⟨rfl, hb6⟩
      have hB6 := Below.next hB5 hb6
      clear r5 c5 hB5 hb6
      by_cases h1 : 1 ≤ s.size
      · have d1 : decide ((1 : Int) ≤ (s.size : Int)) = true := decide_eq_true (by omega)
        have d2 : decide ((s.size : Int) ≤ 8) = false := decide_eq_false (by omega)
        go_wp2_with fail
        go_ret
        exact ⟨rfl, hB6⟩
      · have d1 : decide ((1 : Int) ≤ (s.size : Int)) = false := decide_eq_false (by omega)
        go_wp2_with fail
        go_ret
        exact ⟨rfl, hB6⟩

end Go.Proofs.YtoedmapcnalhjaaDoor
