import Derived.Test.YtoedmapcnalhjaaDoorRefPut
import Derived.Test.YtoedmapcnalhjaaDoorNum
namespace Go.Proofs.YtoedmapcnalhjaaDoor
open Go.RowKit

set_option maxHeartbeats 400000 in
theorem same_ne (g1 c1 g2 c2 : Nat) (l : List UInt8) (w : World) (hm : l.length ≤ 140737488355328)
    (h1 : ∀ j (h : j < l.length), w.cell? ⟨g1, j, none⟩ = some (.int .u8 (l[j].toNat : Int))) (h2 : ∀ j (h : j < l.length), w.cell? ⟨g2, j, none⟩ = some (.int .u8 (l[j].toNat : Int))) :
    Calls Tryd.prog 15 #[.slice (some ⟨g1, 0, none⟩) l.length c1, .slice (some ⟨g2, 0, none⟩) l.length c2] w fun e w' => e = .returned (.bool true) ∧ Below w.heap.size w w' := by
  go_enter Tryd.func15, Tryd.ntmps15
  go_wp2
  go_loopw [5] (fun i wr => ∃ k nq : Nat, k ≤ l.length ∧ i = .int .i64 k ∧ wr = w.drewN nq) (fun i _ => l.length - (intOf i).toNat)
  case atStart => exact ⟨0, 0, Nat.zero_le _, rfl, rfl⟩
  case round =>
    obtain ⟨k, nq, hk, rfl, rfl⟩ := hrel
    by_cases hlt : k < l.length
    · have e1 := h1 k hlt
      have e2 := h2 k hlt
      have j0 : (0 : Int) ≤ (k : Int) := Int.natCast_nonneg k
      have j1 : (k : Int) < (l.length : Int) := by omega
      clear h1 h2
      go_wp2
      go_quiet (fail)
      go_wp2
      go_roundw
      case rel => exact ⟨k + 1, _, by omega, by go_num, rfl⟩
      case measure => simp [intOf]; omega
    · clear h1 h2
      go_wp2
      go_ret
      exact ⟨rfl, below_drewN (Below.refl _ _) _⟩

set_option maxHeartbeats 400000 in
theorem same_zero (a1 a2 : Option Addr) (c1 c2 : Nat) (w : World) :
    Calls Tryd.prog 15 #[.slice a1 0 c1, .slice a2 0 c2] w fun e w' => e = .returned (.bool true) ∧ Below w.heap.size w w' := by
  go_enter Tryd.func15, Tryd.ntmps15
  go_wp2
  go_loop [5] (fun i => i = .int .i64 0) (fun _ => 0)
  case atStart => rfl
  case round =>
    obtain rfl := hrel
    go_wp2
    go_ret
    exact ⟨rfl, Below.refl _ _⟩

theorem same_rd (v1 v2 : Value) (l : List UInt8) (w : World) (hm : l.length ≤ 140737488355328) (r1 : Rd w v1 l) (r2 : Rd w v2 l) :
    Calls Tryd.prog 15 #[v1, v2] w fun e w' => e = .returned (.bool true) ∧ Below w.heap.size w w' := by
  by_cases h0 : l.length = 0
  · obtain ⟨a1, c1, rfl⟩ : ∃ a0 cap, v1 = .slice a0 l.length cap := by
      rcases r1 with ⟨rfl, rfl⟩ | ⟨g, cap, rfl, _⟩
      · exact ⟨none, 0, rfl⟩
      · exact ⟨_, cap, rfl⟩
    obtain ⟨a2, c2, rfl⟩ : ∃ a0 cap, v2 = .slice a0 l.length cap := by
      rcases r2 with ⟨rfl, rfl⟩ | ⟨g, cap, rfl, _⟩
      · exact ⟨none, 0, rfl⟩
      · exact ⟨_, cap, rfl⟩
    rw [h0]
    exact same_zero a1 a2 c1 c2 w
  · rcases r1 with ⟨rfl, rfl⟩ | ⟨g1, c1, rfl, _, _, _, h1⟩
    · simp at h0
    · rcases r2 with ⟨rfl, rfl⟩ | ⟨g2, c2, rfl, _, _, _, h2⟩
      · simp at h0
      · exact same_ne g1 c1 g2 c2 l w hm h1 h2

/-- What Put answers: the bytes and the refusal, as the document's own answer has them. -/
def PutIs (A : Nat → Addr) (n : Nat) (width : Int) (l : List UInt8) (E : Value) (F : Int) : Prop :=
  l.length ≤ 8 ∧
  (∀ w, ErrsAt A w → Calls Tryd.prog 12 #[.int .u64 (n : Int), .int .i64 width] w fun e w' => ∃ v, e = .returned (.tuple #[v, E]) ∧ w'.ownsRow w.heap.size 5 1 v l.length (u8s l) ∧ Below w.heap.size w w') ∧
  (∀ w, Calls Tryd.prog 14 #[.int .u64 (n : Int), .int .i64 width] w fun e w' => ∃ v, e = .returned (.tuple #[v, .int .i64 F]) ∧ w'.ownsRow w.heap.size 5 1 v l.length (u8s l) ∧ Below w.heap.size w w') ∧
  (∀ w, ErrsAt A w → Calls Tryd.prog 16 #[E] w fun e w' => e = .returned (.int .i64 F) ∧ w = w')

theorem put_is (A : Nat → Addr) (n : Nat) (width : Int) (hn : n < 18446744073709551616) (hw1 : -9223372036854775808 ≤ width) (hw2 : width ≤ 9223372036854775807) : ∃ l E F, PutIs A n width l E F := by
  by_cases h : fits n width
  · obtain ⟨h1, h8, hf⟩ := h
    obtain ⟨m, rfl⟩ := Int.eq_ofNat_of_zero_le (show 0 ≤ width by omega)
    have hl := beBytes_len n m (by omega)
    have hf' : n < 2 ^ (8 * m) := by simpa using hf
    refine ⟨beBytes n m, .nilIface, 0, by omega, fun w _ => ?_, fun w => ?_, fun w _ => num_nil w⟩
    · refine (put_ok n m w hn (by omega) (by omega) hf').mono ?_
      rintro e w' ⟨g, c2, rfl, hown, hb⟩
      exact ⟨_, rfl, by rw [hl]; exact hown, hb⟩
    · refine (rput_ok n m w hn (by omega) (by omega) hf').mono ?_
      rintro e w' ⟨v, rfl, hown, hb⟩
      exact ⟨_, rfl, by rw [hl]; exact hown, hb⟩
  · refine ⟨[], .iface 61 (.pointer (some (A 0))), 1, by decide, fun w hA => ?_, fun w => ?_, fun w hA => num_arg A w hA⟩
    · refine (put_no A n width w hn hw1 hw2 hA h).mono ?_
      rintro e w' ⟨rfl, hb⟩
      exact ⟨_, rfl, World.ownsRow_nil _ _ _ _, hb⟩
    · refine (rput_no n width w hn hw1 hw2 h).mono ?_
      rintro e w' ⟨rfl, rfl⟩
      exact ⟨_, rfl, World.ownsRow_nil _ _ _ _, Below.refl _ _⟩

set_option maxHeartbeats 400000 in
theorem puts_any (A : Nat → Addr) (n : Nat) (width : Int) (w : World) (hn : n < 18446744073709551616) (hw1 : -9223372036854775808 ≤ width) (hw2 : width ≤ 9223372036854775807) (hA : ErrsAt A w) :
    Calls Tryd.prog 6 #[.agg #[.int .u64 (n : Int), .int .i64 width]] w fun e w' => e = .returned (.bool true) ∧ Below w.heap.size w w' := by
  obtain ⟨l, E, F, hl, hP, hR, hN⟩ := put_is A n width hn hw1 hw2
  have HP := (show Hid _ from hP)
  have HR := (show Hid _ from hR)
  have HN := (show Hid _ from hN)
  clear hP hR hN
  have hbx := boxed_new w #[.int .u64 (n : Int), .int .i64 width] 35
  have hb0 := below_new w (.cells #[.int .u64 (n : Int), .int .i64 width] 35)
  have HX : Hid (Boxed w.heap.size [.int .u64 (n : Int), .int .i64 width] (w.alloc (.cells #[.int .u64 (n : Int), .int .i64 width] 35))) := hbx
  have HB : Hid (Below w.heap.size w (w.alloc (.cells #[.int .u64 (n : Int), .int .i64 width] 35))) := hb0
  clear hbx hb0
  go_enter Tryd.func6, Tryd.ntmps6
  go_wp2_with fail
  have hA0 := hA.below HB.out
  have hX := HX.out
  have hB := HB.out
  clear HX HB hA
  generalize w.alloc (.cells #[.int .u64 (n : Int), .int .i64 width] 35) = W0 at *
  refine (HP.out _ hA0).mono ?_
  rintro e w1 ⟨v1, rfl, hown1, hb1⟩
  have r1 := rd_of_owns hown1
  have hX1 := hX.below hb1
  have hA1 := hA0.below hb1
  have hB1 := Below.next hB hb1
  clear hown1 hX hA0 hB hb1
  have c0 : w1.cell? ⟨w.heap.size, 0, none⟩ = some (.int .u64 (n : Int)) := hX1.2 0 (by simp)
  have c1 : w1.cell? ⟨w.heap.size, 1, none⟩ = some (.int .i64 width) := hX1.2 1 (by simp)
  go_wp2_with fail
  refine (HR.out _).mono ?_
  rintro e w2 ⟨v2, rfl, hown2, hb2⟩
  have r2 := rd_of_owns hown2
  have r1' := r1.below hb2
  have hA2 := hA1.below hb2
  have hB2 := Below.next hB1 hb2
  clear hown2 r1 hX1 hA1 hB1 hb2 c0 c1
  go_wp2_with fail
  refine (same_rd _ _ l _ (by omega) r1' r2).mono ?_
  rintro e w3 ⟨rfl, hb3⟩
  have hA3 := hA2.below hb3
  have hB3 := Below.next hB2 hb3
  clear r1' r2 hA2 hB2 hb3
  go_wp2_with fail
  refine (HN.out _ hA3).mono ?_
  rintro e w4 ⟨rfl, rfl⟩
  go_wp2_with fail
  go_ret
  exact ⟨rfl, hB3⟩

end Go.Proofs.YtoedmapcnalhjaaDoor
