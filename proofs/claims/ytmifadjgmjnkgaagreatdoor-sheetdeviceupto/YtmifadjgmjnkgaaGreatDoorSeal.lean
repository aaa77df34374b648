import Derived.Test.YtmifadjgmjnkgaaGreatDoorPageOf2
namespace Go.Proofs.YtmifadjgmjnkgaaGreatDoor
open Go.RowKit

@[reducible] def shV (k i : Int) (t : Nat) (c : Int) (b : ByteArray) : Value := .agg #[.int .i64 k, .int .i64 i, .int .u64 (t : Int), .int .i64 c, .string b]

set_option maxHeartbeats 1000000 in
theorem seal_ok (s : Sh) (w : World) (hm : May s) (hx : s.txid < 18446744073709551616) (hL : Lay w) (ht : Tab w) :
    Calls Tryz.prog 30 #[.agg s.cells.toArray] w fun e w' => ∃ g, e = .returned (.tuple #[.slice (some ⟨g, 0, none⟩) 4096 4096, .nilIface]) ∧ RowB w' g (page s) ∧ w.heap.size ≤ g ∧ Below w.heap.size w w' := by
  obtain ⟨k, i, t, c, b⟩ := s
  have HM : Hid (∀ w, Calls Tryz.prog 52 #[.agg #[.int .i64 k, .int .i64 i, .int .u64 (t : Int), .int .i64 c, .string b]] w fun e w' => e = .returned (.bool true) ∧ Below w.heap.size w w') := fun w => by
    have h := mayBe_any ⟨k, i, t, c, b⟩ w (by rw [hm.2.2.2]; decide)
    rw [decide_eq_true hm] at h
    exact h
  have HP : Hid (∀ w, Lay w → Tab w → Calls Tryz.prog 53 #[.agg #[.int .i64 k, .int .i64 i, .int .u64 (t : Int), .int .i64 c, .string b]] w fun e w' => ∃ g, e = .returned (.slice (some ⟨g, 0, none⟩) 4096 4096) ∧ RowB w' g (page ⟨k, i, t, c, b⟩) ∧ w.heap.size ≤ g ∧ Below w.heap.size w w') := fun w h1 h2 => pageOf_any ⟨k, i, t, c, b⟩ w hm hx h1 h2
  have HBX : Hid (Boxed w.heap.size [.int .i64 k, .int .i64 i, .int .u64 (t : Int), .int .i64 c, .string b] (w.alloc (.cells #[.int .i64 k, .int .i64 i, .int .u64 (t : Int), .int .i64 c, .string b] 31))) := boxed_new w _ _
  have HB0 : Hid (Below w.heap.size w (w.alloc (.cells #[.int .i64 k, .int .i64 i, .int .u64 (t : Int), .int .i64 c, .string b] 31))) := below_new w _
  have HL : Hid (Lay w) := hL
  have HT : Hid (Tab w) := ht
  clear hm hx hL ht
  show Calls Tryz.prog 30 #[.agg #[.int .i64 k, .int .i64 i, .int .u64 (t : Int), .int .i64 c, .string b]] w _
  go_enter Tryz.func30, Tryz.ntmps30
  go_wp2_with fail
  refine (HM.out _).mono ?_
  rintro e w1 ⟨rfl, hb1⟩
  have hx1 := HBX.out.below hb1
  have HB1 : Hid (Below w.heap.size w w1) := Below.next HB0.out hb1
  have c0 : w1.cell? ⟨w.heap.size, 0, none⟩ = some (.int .i64 k) := hx1.2 0 (by simp)
  have c1 : w1.cell? ⟨w.heap.size, 1, none⟩ = some (.int .i64 i) := hx1.2 1 (by simp)
  have c2 : w1.cell? ⟨w.heap.size, 2, none⟩ = some (.int .u64 (t : Int)) := hx1.2 2 (by simp)
  have c3 : w1.cell? ⟨w.heap.size, 3, none⟩ = some (.int .i64 c) := hx1.2 3 (by simp)
  have c4 : w1.cell? ⟨w.heap.size, 4, none⟩ = some (.string b) := hx1.2 4 (by simp)
  clear hx1 hb1 HBX HB0
  go_wp2_with fail
  refine (HP.out _ (HL.out.below HB1.out) (HT.out.below HB1.out)).mono ?_
  rintro e w2 ⟨g, rfl, hr, hg, hb2⟩
  have HF : Hid (RowB w2 g (page ⟨k, i, t, c, b⟩) ∧ w.heap.size ≤ g ∧ Below w.heap.size w w2) := ⟨hr, Nat.le_trans HB1.out.size hg, Below.next HB1.out hb2⟩
  clear hr hg hb2 c0 c1 c2 c3 c4
  go_wp2_with fail
  go_ret2
  exact ⟨g, rfl, HF.out⟩

set_option maxHeartbeats 1000000 in
theorem seal_no (a : Addr) (s : Sh) (w : World) (hs : s.body.size ≤ 140737488355328) (hm : ¬ May s) (hc : w.cell? ⟨0, 0, none⟩ = some (.iface 158 (.pointer (some a)))) :
    Calls Tryz.prog 30 #[.agg s.cells.toArray] w fun e w' => e = .returned (.tuple #[.slice none 0 0, .iface 158 (.pointer (some a))]) ∧ Below w.heap.size w w' := by
  obtain ⟨k, i, t, c, b⟩ := s
  have HM : Hid (∀ w, Calls Tryz.prog 52 #[.agg #[.int .i64 k, .int .i64 i, .int .u64 (t : Int), .int .i64 c, .string b]] w fun e w' => e = .returned (.bool false) ∧ Below w.heap.size w w') := fun w => by
    have h := mayBe_any ⟨k, i, t, c, b⟩ w hs
    rw [decide_eq_false hm] at h
    exact h
  have HB0 : Hid (Below w.heap.size w (w.alloc (.cells #[.int .i64 k, .int .i64 i, .int .u64 (t : Int), .int .i64 c, .string b] 31))) := below_new w _
  have HC : Hid (w.cell? ⟨0, 0, none⟩ = some (.iface 158 (.pointer (some a)))) := hc
  clear hm hc
  show Calls Tryz.prog 30 #[.agg #[.int .i64 k, .int .i64 i, .int .u64 (t : Int), .int .i64 c, .string b]] w _
  go_enter Tryz.func30, Tryz.ntmps30
  go_wp2_with fail
  refine (HM.out _).mono ?_
  rintro e w1 ⟨rfl, hb1⟩
  have HB1 : Hid (Below w.heap.size w w1) := Below.next HB0.out hb1
  have c0 : w1.cell? ⟨0, 0, none⟩ = some (.iface 158 (.pointer (some a))) := (HB1.out.cell (World.block_lt_of_cell? w _ HC.out)).trans HC.out
  clear hb1 HB0
  go_wp2_with fail
  go_quiet (fail)
  go_wp2_with fail
  go_ret2
  exact ⟨rfl, below_drewN HB1.out _⟩

end Go.Proofs.YtmifadjgmjnkgaaGreatDoor
