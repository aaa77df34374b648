import Derived.Test.YtpeobpmooledaaaDoorGC
import Derived.ChangeKeysEq
namespace Go.Proofs.YtpeobpmooledaaaDoor.M
open Go.RowKit

theorem part5 (w : World) (l : List UInt8) (j : Nat) (h : j < l.length) : (part 5 (u8s l).toArray j).run Tryd.prog w = .ok (.int .u8 (l[j].toNat : Int)) w := by
  have ha : (isAgg 5).run Tryd.prog w = .ok false w := by kernel_rfl
  have hg : (u8s l).toArray[j]? = some (.int .u8 (l[j].toNat : Int)) := by simpa using u8s_get l j h
  simp [part, Sem.run_bind, ha, hg]
theorem eqItems5 (d : Nat) (w : World) (l1 l2 : List UInt8) (n : Nat) (h1 : l1.length = n) (h2 : l2.length = n) : ∀ (m k : Nat), k + m = n →
    (Op.eqItems (d + 1) 5 1 (u8s l1).toArray (u8s l2).toArray (List.range' k m)).run Tryd.prog w = .ok (decide (l1.drop k = l2.drop k)) w
  | 0, k, hk => by
    rw [List.drop_of_length_le (by omega), List.drop_of_length_le (by omega)]
    simp [Op.eqItems]
  | m + 1, k, hk => by
    have ih := eqItems5 d w l1 l2 n h1 h2 m (k + 1) (by omega)
    have p1 := part5 w l1 k (by omega)
    have p2 := part5 w l2 k (by omega)
    have pe := run_equalIn_int (P := Tryd.prog) w d 5 .u8 .u8 (l1[k].toNat : Int) (l2[k].toNat : Int) Tryd.underlying5
    rw [List.range'_succ]
    simp only [Op.eqItems, Sem.run_bind, Nat.mul_one, p1, p2, pe, Result.andThen_ok]
    rw [List.drop_eq_getElem_cons (show k < l1.length by omega), List.drop_eq_getElem_cons (show k < l2.length by omega)]
    by_cases he : l1[k] = l2[k]
    · rw [he]
      simp only [beq_self_eq_true, Bool.not_true, Bool.false_eq_true, if_false, ih, List.cons.injEq, true_and]
    · have hne : ((l1[k].toNat : Int) == (l2[k].toNat : Int)) = false := by
        rw [beq_eq_false_iff_ne]
        intro e
        exact he (UInt8.toNat_inj.1 (by omega))
      rw [hne, decide_eq_false (fun h => he (List.cons.inj h).1)]
      rfl
theorem under512 : Tryd.prog.underlying 56 = some (.array 512 5) := by kernel_rfl
theorem size512 : (Tryd.prog.info? 56).map (·.size) = some 512 := by kernel_rfl
theorem guard512 : Tryd.prog.eqGuardType Tryd.prog.depth 56 = false := by kernel_rfl
theorem cells5 : Tryd.prog.cellsOf 5 = 1 := by kernel_rfl
theorem eq512 (w : World) (l1 l2 : List UInt8) (h1 : l1.length = 512) (h2 : l2.length = 512) :
    (binOp .eql 56 (.agg (u8s l1).toArray) (.agg (u8s l2).toArray)).run Tryd.prog w = .ok (.bool (decide (l1 = l2))) w := by
  obtain ⟨i0, hi, _, _, _⟩ := info_parts Tryd.info5
  have h := run_equalIn_array (P := Tryd.prog) w 9999 (t := 56) (u8s l1).toArray (u8s l2).toArray under512 hi
  rw [cells5, List.range_eq_range', eqItems5 9998 w l1 l2 512 h1 h2 512 0 rfl] at h
  rw [run_eql_struct, h]
  simp [Result.andThen]
theorem neq512 (w : World) (l1 l2 : List UInt8) (h1 : l1.length = 512) (h2 : l2.length = 512) :
    (binOp .neq 56 (.agg (u8s l1).toArray) (.agg (u8s l2).toArray)).run Tryd.prog w = .ok (.bool (!decide (l1 = l2))) w := by
  obtain ⟨i0, hi, _, _, _⟩ := info_parts Tryd.info5
  have h := run_equalIn_array (P := Tryd.prog) w 9999 (t := 56) (u8s l1).toArray (u8s l2).toArray under512 hi
  rw [cells5, List.range_eq_range', eqItems5 9998 w l1 l2 512 h1 h2 512 0 rfl] at h
  rw [run_neq_struct, h]
  simp [Result.andThen]

end Go.Proofs.YtpeobpmooledaaaDoor.M

namespace Go.Proofs.YtpeobpmooledaaaDoor.M
open Go.RowKit

set_option maxHeartbeats 400000 in
theorem pmay_any (n : Int) (w : World) : Calls Tryd.prog 42 #[.int .i64 n] w fun e w' => e = .returned (.bool (decide (PagesOk n))) ∧ w = w' := by
  by_cases h1 : 4 ≤ n
  · by_cases h2 : n ≤ 1048576
    · have e1 : decide (PagesOk n) = true := decide_eq_true ⟨h1, h2⟩
      rw [e1]
      go_enter Tryd.func42, Tryd.ntmps42
      go_wp2
      go_ret
      exact ⟨rfl, rfl⟩
    · have e1 : decide (PagesOk n) = false := decide_eq_false (fun h => h2 h.2)
      rw [e1]
      go_enter Tryd.func42, Tryd.ntmps42
      go_wp2
      go_ret
      exact ⟨rfl, rfl⟩
  · have e1 : decide (PagesOk n) = false := decide_eq_false (fun h => h1 h.1)
    rw [e1]
    go_enter Tryd.func42, Tryd.ntmps42
    go_wp2
    go_ret
    exact ⟨rfl, rfl⟩

set_option maxHeartbeats 1000000 in
theorem mayBe_any (m : Mt) (w : World) : Calls Tryd.prog 29 #[.agg m.cells.toArray] w fun e w' => e = .returned (.bool (decide (MayM m))) ∧ Below w.heap.size w w' := by
  obtain ⟨p, r, t⟩ := m
  simp only [Mt.cells]
  have HB : Hid (Below w.heap.size w (w.alloc (.cells #[.int .i64 p, .int .i64 r, .int .u64 (t : Int)] 24))) := below_new w _
  by_cases hp : PagesOk p
  · have HP : Hid (∀ w, Calls Tryd.prog 42 #[.int .i64 p] w fun e w' => e = .returned (.bool true) ∧ w = w') := fun w => by
      have h := pmay_any p w
      rw [decide_eq_true hp] at h
      exact h
    by_cases h0 : r = 0
    · subst h0
      have e1 : decide (MayM ⟨p, 0, t⟩) = true := decide_eq_true ⟨hp, .inl rfl⟩
      rw [e1]
      clear e1 hp
      go_enter Tryd.func29, Tryd.ntmps29
      go_wp2_with (go_at_call 42; refine (HP.out _).mono ?_; rintro e w' ⟨rfl, rfl⟩)
      go_ret
      exact ⟨rfl, HB.out⟩
    · have h0b : (r == 0) = false := beq_eq_false_iff_ne.2 h0
      by_cases h1 : 2 ≤ r
      · by_cases h2 : r < p
        · have e1 : decide (MayM ⟨p, r, t⟩) = true := decide_eq_true ⟨hp, .inr ⟨h1, h2⟩⟩
          rw [e1]
          clear e1 hp
          go_enter Tryd.func29, Tryd.ntmps29
          go_wp2_with (go_at_call 42; refine (HP.out _).mono ?_; rintro e w' ⟨rfl, rfl⟩)
          go_ret
          exact ⟨rfl, HB.out⟩
        · have e1 : decide (MayM ⟨p, r, t⟩) = false := decide_eq_false (fun h => h.2.elim h0 (fun h => h2 h.2))
          rw [e1]
          clear e1 hp
          go_enter Tryd.func29, Tryd.ntmps29
          go_wp2_with (go_at_call 42; refine (HP.out _).mono ?_; rintro e w' ⟨rfl, rfl⟩)
          go_ret
          exact ⟨rfl, HB.out⟩
      · have e1 : decide (MayM ⟨p, r, t⟩) = false := decide_eq_false (fun h => h.2.elim h0 (fun h => h1 h.1))
        rw [e1]
        clear e1 hp
        go_enter Tryd.func29, Tryd.ntmps29
        go_wp2_with (go_at_call 42; refine (HP.out _).mono ?_; rintro e w' ⟨rfl, rfl⟩)
        go_ret
        exact ⟨rfl, HB.out⟩
  · have HP : Hid (∀ w, Calls Tryd.prog 42 #[.int .i64 p] w fun e w' => e = .returned (.bool false) ∧ w = w') := fun w => by
      have h := pmay_any p w
      rw [decide_eq_false hp] at h
      exact h
    have e1 : decide (MayM ⟨p, r, t⟩) = false := decide_eq_false (fun h => hp h.1)
    rw [e1]
    clear e1 hp
    by_cases h0 : r = 0
    · subst h0
      go_enter Tryd.func29, Tryd.ntmps29
      go_wp2_with (go_at_call 42; refine (HP.out _).mono ?_; rintro e w' ⟨rfl, rfl⟩)
      go_ret
      exact ⟨rfl, HB.out⟩
    · have h0b : (r == 0) = false := beq_eq_false_iff_ne.2 h0
      by_cases h1 : 2 ≤ r
      · go_enter Tryd.func29, Tryd.ntmps29
        go_wp2_with (go_at_call 42; refine (HP.out _).mono ?_; rintro e w' ⟨rfl, rfl⟩)
        go_ret
        exact ⟨rfl, HB.out⟩
      · go_enter Tryd.func29, Tryd.ntmps29
        go_wp2_with (go_at_call 42; refine (HP.out _).mono ?_; rintro e w' ⟨rfl, rfl⟩)
        go_ret
        exact ⟨rfl, HB.out⟩

set_option maxHeartbeats 400000 in
theorem putn_any (ty : TypeId) (g o m cap n : Nat) (l : List UInt8) (w : World) (hn : n < 18446744073709551616) (h1 : 1 ≤ m) (h8 : m ≤ 8) (hfit : n < 2 ^ (8 * m)) (hr : RowT ty w g l) (hpl : o + m ≤ l.length) :
    Calls Tryd.prog 43 #[.slice (some ⟨g, o, none⟩) m cap, .int .u64 (n : Int)] w fun e w' => e = .returned (.tuple #[]) ∧ RowT ty w' g (splice l o (beBytes n m)) ∧ Sole g w w' := by
  have HR := hide hr
  have HP := hide hpl
  have HF := hide hfit
  have hl := beBytes_len n m h8
  clear hr hpl hfit
  go_enter Tryd.func43, Tryd.ntmps43
  go_wp2_with (go_at_call 45; refine (put_ok n m _ hn h1 h8 HF.out).mono ?_; rintro e w1 ⟨g2, c2, rfl, hown, hb1⟩; have hr1 := HR.out.below hb1; obtain ⟨w2, hcp, hr2, hs2⟩ := copy_row (o := o) (o2 := 0) (g2 := g2) (c2 := c2) (cap := cap) (c := beBytes n m) hr1 hl (fun j hj => by rw [Nat.zero_add, hown.cellAt j (by omega), u8s_get _ j hj]) (by rw [hl]; exact HP.out); have HS : Hid (Sole g w w2) := (Sole.of_below hb1).trans hs2; have HR2 := hide hr2; clear hr1 hr2 hs2 hb1 hown)
  go_end0
  exact ⟨rfl, HR2.out, HS.out⟩

end Go.Proofs.YtpeobpmooledaaaDoor.M

namespace Go.Proofs.YtpeobpmooledaaaDoor.M
open Go.RowKit

theorem load512 {w : World} {g : Nat} {l : List UInt8} (h : RowT 56 w g l) (hl : l.length = 512) : (Instr.loadAt 56 (.pointer (some ⟨g, 0, none⟩))).run Tryd.prog w = .ok (.agg (u8s l).toArray) w := by
  simp only [Instr.loadAt, Instr.sureAddr, Sem.run_bind, Sem.run_pure, Result.andThen]
  exact run_loadVar_row w g 56 56 _ (0, 0) _ h under512 rfl (by rw [size512]; simp [u8s_length, hl])

theorem zero512 : ∀ w, (zeroValue 56).run Tryd.prog w = .ok (.agg (u8s (List.replicate 512 0)).toArray) w := (zero_of_info (P := Tryd.prog) (t := 56) (n := 512) (v := .agg (u8s (List.replicate 512 0)).toArray) (by kernel_rfl)).1
theorem sl_all (b : Nat) (w : World) : (Instr.sliceAt 56 (.pointer (some ⟨b, 0, none⟩)) none none none).run Tryd.prog w = .ok (.slice (some ⟨b, 0, none⟩) 512 512) w := by kernel_rfl
theorem sl_8 (b : Nat) (w : World) : (Instr.sliceAt 56 (.pointer (some ⟨b, 0, none⟩)) (some (.int .i64 8)) (some (.int .i64 12)) none).run Tryd.prog w = .ok (.slice (some ⟨b, 8, none⟩) 4 504) w := by kernel_rfl
theorem sl_12 (b : Nat) (w : World) : (Instr.sliceAt 56 (.pointer (some ⟨b, 0, none⟩)) (some (.int .i64 12)) (some (.int .i64 16)) none).run Tryd.prog w = .ok (.slice (some ⟨b, 12, none⟩) 4 500) w := by kernel_rfl
theorem sl_16 (b : Nat) (w : World) : (Instr.sliceAt 56 (.pointer (some ⟨b, 0, none⟩)) (some (.int .i64 16)) (some (.int .i64 24)) none).run Tryd.prog w = .ok (.slice (some ⟨b, 16, none⟩) 8 496) w := by kernel_rfl
theorem sl_24 (b : Nat) (w : World) : (Instr.sliceAt 56 (.pointer (some ⟨b, 0, none⟩)) (some (.int .i64 24)) (some (.int .i64 28)) none).run Tryd.prog w = .ok (.slice (some ⟨b, 24, none⟩) 4 488) w := by kernel_rfl

end Go.Proofs.YtpeobpmooledaaaDoor.M
