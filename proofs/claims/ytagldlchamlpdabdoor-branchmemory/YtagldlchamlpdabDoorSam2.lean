import Derived.Test.YtagldlchamlpdabDoorBas2
namespace Go.Proofs.YtagldlchamlpdabDoor
open Go.RowKit

theorem lk_under : Tryd.prog.underlying 54 = some (.struct (Tryd.prog.fieldsOf 54)) := by kernel_rfl
theorem lk_held : Tryd.prog.stoodInHeld 54 = false := by kernel_rfl
set_option maxRecDepth 100000 in
set_option maxHeartbeats 1000000 in
theorem lk_eq (w : World) (a a' : ByteArray) (b b' : Int) :
    (binOp .eql 54 (.agg #[.string a, .int .i64 b]) (.agg #[.string a', .int .i64 b'])).run Tryd.prog w = .ok (.bool (a.toList == a'.toList && b == b')) w := by
  rw [run_eql_struct, run_equalIn_agg w 9999 54 _ _ lk_under lk_held]
  simp [go_sem]
  by_cases h1 : a.toList = a'.toList
  · by_cases h2 : b = b'
    · simp [h1, h2]
    · simp [h1, h2]
  · simp [h1]
theorem lk_self (w : World) (a : ByteArray) (b : Int) : (binOp .eql 54 (.agg #[.string a, .int .i64 b]) (.agg #[.string a, .int .i64 b])).run Tryd.prog w = .ok (.bool true) w := by
  rw [lk_eq]; simp
theorem lk_neq (w : World) (x y : Array Value) (bb : Bool) (h : (binOp .eql 54 (.agg x) (.agg y)).run Tryd.prog w = .ok (.bool bb) w) : (binOp .neq 54 (.agg x) (.agg y)).run Tryd.prog w = .ok (.bool (!bb)) w := by
  rw [run_eql_struct] at h
  rw [run_neq_struct]
  revert h
  generalize (Op.equalIn 10000 54 (.agg x) (.agg y)).run Tryd.prog w = r
  cases r with
  | ok v w' => intro h; simp [Result.andThen] at h ⊢; obtain ⟨rfl, rfl⟩ := h; simp
  | halt v w' => intro h; simp [Result.andThen] at h
theorem lk_nself (w : World) (a : ByteArray) (b : Int) : (binOp .neq 54 (.agg #[.string a, .int .i64 b]) (.agg #[.string a, .int .i64 b])).run Tryd.prog w = .ok (.bool false) w := lk_neq w _ _ true (lk_self w a b)

end Go.Proofs.YtagldlchamlpdabDoor

namespace Go.Proofs.YtagldlchamlpdabDoor
open Go.RowKit

set_option maxHeartbeats 1000000 in
theorem sameb_same (f : Int) (v1 v2 : Value) (l : List Lk) (w : World) (hm : l.length ≤ 140737488355328) (r1 : LkR w v1 l) (r2 : LkR w v2 l) :
    Calls Tryd.prog 9 #[.agg #[.int .i64 f, v1], .agg #[.int .i64 f, v2]] w fun e w' => e = .returned (.bool true) ∧ Below w.heap.size w w' := by
  have hb1 := below_new w (.cells #[.int .i64 f, v1] 30)
  have hx1 := boxed_new w #[.int .i64 f, v1] 30
  have hs1 : (w.alloc (.cells #[.int .i64 f, v1] 30)).heap.size = w.heap.size + 1 := by simp
  have hb2 := below_new (w.alloc (.cells #[.int .i64 f, v1] 30)) (.cells #[.int .i64 f, v2] 30)
  have hx2 := boxed_new (w.alloc (.cells #[.int .i64 f, v1] 30)) #[.int .i64 f, v2] 30
  rw [hs1] at hx2
  have HB := hide (Below.next hb1 hb2)
  have HX1 := hide (hx1.below hb2)
  have HX2 := hide hx2
  clear hb1 hb2 hx1 hx2 hs1
  obtain ⟨a1, c1, rfl, _, _, h1⟩ := r1
  obtain ⟨a2, c2, rfl, _, _, h2⟩ := r2
  obtain ⟨n, hn⟩ : ∃ n, n = l.length := ⟨_, rfl⟩
  rw [← hn] at hm HB HX1 HX2 ⊢
  have H1 := hide h1
  have H2 := hide h2
  have HN := hide hn
  have hd0 : (f != f) = false := by simp
  have hd1 : ((n : Int) != (n : Int)) = false := by simp
  have p0 := HX1.out.2 0 (by simp)
  have p1 := HX1.out.2 1 (by simp)
  have p2 := HX2.out.2 0 (by simp)
  have p3 := HX2.out.2 1 (by simp)
  simp only [List.getElem_cons_zero, List.getElem_cons_succ] at p0 p1 p2 p3
  clear h1 h2 hn
  go_enter Tryd.func9, Tryd.ntmps9
  go_wp2
  clear p0 p1 p2 p3
  generalize (w.alloc (.cells #[.int .i64 f, .slice a1 n c1] 30)).alloc (.cells #[.int .i64 f, .slice a2 n c2] 30) = W0 at *
  go_loopw [5] (fun i wr => ∃ k : Nat, k ≤ n ∧ i = .int .i64 k ∧ Below W0.heap.size W0 wr) (fun i _ => n - (intOf i).toNat)
  case atStart => exact ⟨0, Nat.zero_le _, rfl, Below.refl _ _⟩
  case round =>
    obtain ⟨k, hk, rfl, hbw⟩ := hrel
    have p1 := (HX1.out.below hbw).2 1 (by simp)
    have p3 := (HX2.out.below hbw).2 1 (by simp)
    simp only [List.getElem_cons_zero, List.getElem_cons_succ] at p1 p3
    by_cases hlt : k < n
    · have hk1 : k < l.length := by have := HN.out; omega
      obtain ⟨g1, o1, rfl, f1, f1'⟩ := H1.out k hk1
      obtain ⟨g2, o2, rfl, f2, f2'⟩ := H2.out k hk1
      have hbb := Below.next HB.out hbw
      have q1 := (hbb.cell (p := ⟨g1, o1 + k * 2, none⟩) (World.block_lt_of_cell? w _ f1)).trans f1
      have q2 := (hbb.cell (p := ⟨g1, o1 + k * 2 + 1, none⟩) (World.block_lt_of_cell? w _ f1')).trans f1'
      have q3 := (hbb.cell (p := ⟨g2, o2 + k * 2, none⟩) (World.block_lt_of_cell? w _ f2)).trans f2
      have q4 := (hbb.cell (p := ⟨g2, o2 + k * 2 + 1, none⟩) (World.block_lt_of_cell? w _ f2')).trans f2'
      have j0 : (0 : Int) ≤ (k : Int) := Int.natCast_nonneg k
      have j1 : (k : Int) < (n : Int) := by omega
      generalize l[k].1 = x1 at *
      generalize l[k].2 = x2 at *
      have hne := fun w => lk_nself w x1 x2
      have HBW := hide hbw
      clear H1 H2 f1 f1' f2 f2' hbb hbw
      go_wp2
      go_quiet (fail)
      go_wp2
      go_roundw
      case rel => exact ⟨k + 1, by omega, by go_num, below_drewN' HBW.out _⟩
      case measure => simp [intOf]; omega
    · have j1 : ¬ (k : Int) < (n : Int) := by omega
      have HBW := hide (Below.next HB.out hbw)
      clear H1 H2 hbw
      go_wp2
      go_ret
      exact ⟨rfl, HBW.out⟩

end Go.Proofs.YtagldlchamlpdabDoor
