import Derived.Test.YtlopimdnjookeaaDoorArrEq
namespace Go.Proofs.YtlopimdnjookeaaDoor
open Go.RowKit

set_option maxHeartbeats 400000 in
theorem slot_any (t : Nat) (w : World) (ht : t < 18446744073709551616) : Calls Tryd.prog 20 #[.int .u64 (t : Int)] w fun e w' => e = .returned (.int .i64 ((t % 2 : Nat) : Int)) ∧ w = w' := by
  go_enter Tryd.func20, Tryd.ntmps20
  go_wp2
  go_ret
  exact ⟨rfl, rfl⟩

set_option maxHeartbeats 400000 in
theorem isSlot_any (s : Int) (w : World) : Calls Tryd.prog 39 #[.int .i64 s] w fun e w' => e = .returned (.bool (decide (0 ≤ s ∧ s < 2))) ∧ w = w' := by
  by_cases h1 : 0 ≤ s
  · by_cases h2 : s < 2
    · have e1 : decide (0 ≤ s ∧ s < 2) = true := by simp [h1, h2]
      rw [e1]
      go_enter Tryd.func39, Tryd.ntmps39
      go_wp2
      go_ret
      exact ⟨rfl, rfl⟩
    · have e1 : decide (0 ≤ s ∧ s < 2) = false := by simp [h2]
      rw [e1]
      go_enter Tryd.func39, Tryd.ntmps39
      go_wp2
      go_ret
      exact ⟨rfl, rfl⟩
  · have e1 : decide (0 ≤ s ∧ s < 2) = false := by simp [h1]
    rw [e1]
    go_enter Tryd.func39, Tryd.ntmps39
    go_wp2
    go_ret
    exact ⟨rfl, rfl⟩

set_option maxHeartbeats 400000 in
theorem pmay_any (n : Int) (w : World) : Calls Tryd.prog 35 #[.int .i64 n] w fun e w' => e = .returned (.bool (decide (PagesOk n))) ∧ w = w' := by
  by_cases h1 : 4 ≤ n
  · by_cases h2 : n ≤ 1048576
    · have e1 : decide (PagesOk n) = true := decide_eq_true ⟨h1, h2⟩
      rw [e1]
      go_enter Tryd.func35, Tryd.ntmps35
      go_wp2
      go_ret
      exact ⟨rfl, rfl⟩
    · have e1 : decide (PagesOk n) = false := decide_eq_false (fun h => h2 h.2)
      rw [e1]
      go_enter Tryd.func35, Tryd.ntmps35
      go_wp2
      go_ret
      exact ⟨rfl, rfl⟩
  · have e1 : decide (PagesOk n) = false := decide_eq_false (fun h => h1 h.1)
    rw [e1]
    go_enter Tryd.func35, Tryd.ntmps35
    go_wp2
    go_ret
    exact ⟨rfl, rfl⟩

set_option maxHeartbeats 1000000 in
theorem mayBe_any (m : Mt) (w : World) : Calls Tryd.prog 27 #[.agg m.cells.toArray] w fun e w' => e = .returned (.bool (decide (MayM m))) ∧ Below w.heap.size w w' := by
  obtain ⟨p, r, t⟩ := m
  simp only [Mt.cells]
  have HB : Hid (Below w.heap.size w (w.alloc (.cells #[.int .i64 p, .int .i64 r, .int .u64 (t : Int)] 31))) := below_new w _
  by_cases hp : PagesOk p
  · have HP : Hid (∀ w, Calls Tryd.prog 35 #[.int .i64 p] w fun e w' => e = .returned (.bool true) ∧ w = w') := fun w => by
      have h := pmay_any p w
      rw [decide_eq_true hp] at h
      exact h
    by_cases h0 : r = 0
    · subst h0
      have e1 : decide (MayM ⟨p, 0, t⟩) = true := decide_eq_true ⟨hp, .inl rfl⟩
      rw [e1]
      clear e1 hp
      go_enter Tryd.func27, Tryd.ntmps27
      go_wp2_with (go_at_call 35; refine (HP.out _).mono ?_; rintro e w' ⟨rfl, rfl⟩)
      go_ret
      exact ⟨rfl, HB.out⟩
    · have h0b : (r == 0) = false := beq_eq_false_iff_ne.2 h0
      by_cases h1 : 2 ≤ r
      · by_cases h2 : r < p
        · have e1 : decide (MayM ⟨p, r, t⟩) = true := decide_eq_true ⟨hp, .inr ⟨h1, h2⟩⟩
          rw [e1]
          clear e1 hp
          go_enter Tryd.func27, Tryd.ntmps27
          go_wp2_with (go_at_call 35; refine (HP.out _).mono ?_; rintro e w' ⟨rfl, rfl⟩)
          go_ret
          exact ⟨rfl, HB.out⟩
        · have e1 : decide (MayM ⟨p, r, t⟩) = false := decide_eq_false (fun h => h.2.elim h0 (fun h => h2 h.2))
          rw [e1]
          clear e1 hp
          go_enter Tryd.func27, Tryd.ntmps27
          go_wp2_with (go_at_call 35; refine (HP.out _).mono ?_; rintro e w' ⟨rfl, rfl⟩)
          go_ret
          exact ⟨rfl, HB.out⟩
      · have e1 : decide (MayM ⟨p, r, t⟩) = false := decide_eq_false (fun h => h.2.elim h0 (fun h => h1 h.1))
        rw [e1]
        clear e1 hp
        go_enter Tryd.func27, Tryd.ntmps27
        go_wp2_with (go_at_call 35; refine (HP.out _).mono ?_; rintro e w' ⟨rfl, rfl⟩)
        go_ret
        exact ⟨rfl, HB.out⟩
  · have HP : Hid (∀ w, Calls Tryd.prog 35 #[.int .i64 p] w fun e w' => e = .returned (.bool false) ∧ w = w') := fun w => by
      have h := pmay_any p w
      rw [decide_eq_false hp] at h
      exact h
    have e1 : decide (MayM ⟨p, r, t⟩) = false := decide_eq_false (fun h => hp h.1)
    rw [e1]
    clear e1 hp
    by_cases h0 : r = 0
    · subst h0
      go_enter Tryd.func27, Tryd.ntmps27
      go_wp2_with (go_at_call 35; refine (HP.out _).mono ?_; rintro e w' ⟨rfl, rfl⟩)
      go_ret
      exact ⟨rfl, HB.out⟩
    · have h0b : (r == 0) = false := beq_eq_false_iff_ne.2 h0
      by_cases h1 : 2 ≤ r
      · go_enter Tryd.func27, Tryd.ntmps27
        go_wp2_with (go_at_call 35; refine (HP.out _).mono ?_; rintro e w' ⟨rfl, rfl⟩)
        go_ret
        exact ⟨rfl, HB.out⟩
      · go_enter Tryd.func27, Tryd.ntmps27
        go_wp2_with (go_at_call 35; refine (HP.out _).mono ?_; rintro e w' ⟨rfl, rfl⟩)
        go_ret
        exact ⟨rfl, HB.out⟩

set_option maxHeartbeats 400000 in
theorem putn_any (ty : TypeId) (g o m cap n : Nat) (l : List UInt8) (w : World) (hn : n < 18446744073709551616) (h1 : 1 ≤ m) (h8 : m ≤ 8) (hfit : n < 2 ^ (8 * m)) (hr : RowT ty w g l) (hpl : o + m ≤ l.length) :
    Calls Tryd.prog 46 #[.slice (some ⟨g, o, none⟩) m cap, .int .u64 (n : Int)] w fun e w' => e = .returned (.tuple #[]) ∧ RowT ty w' g (splice l o (beBytes n m)) ∧ Sole g w w' := by
  have HR := hide hr
  have HP := hide hpl
  have HF := hide hfit
  have hl := beBytes_len n m h8
  clear hr hpl hfit
  go_enter Tryd.func46, Tryd.ntmps46
  go_wp2_with (go_at_call 55; refine (put_ok n m _ hn h1 h8 HF.out).mono ?_; rintro e w1 ⟨g2, c2, rfl, hown, hb1⟩; have hr1 := HR.out.below hb1; obtain ⟨w2, hcp, hr2, hs2⟩ := copy_row (o := o) (o2 := 0) (g2 := g2) (c2 := c2) (cap := cap) (c := beBytes n m) hr1 hl (fun j hj => by rw [Nat.zero_add, hown.cellAt j (by omega), u8s_get _ j hj]) (by rw [hl]; exact HP.out); have HS : Hid (Sole g w w2) := (Sole.of_below hb1).trans hs2; have HR2 := hide hr2; clear hr1 hr2 hs2 hb1 hown)
  go_end0
  exact ⟨rfl, HR2.out, HS.out⟩

set_option maxHeartbeats 400000 in
theorem getn_any (g o m cap : Nat) (l : List UInt8) (w : World) (hm : l.length = m) (h1 : 1 ≤ m) (h8 : m ≤ 8)
    (hc : ∀ j (h : j < l.length), w.cell? ⟨g, o + j, none⟩ = some (.int .u8 (l[j].toNat : Int))) :
    Calls Tryd.prog 58 #[.slice (some ⟨g, o, none⟩) m cap] w fun e w' => e = .returned (.int .u64 ((beNat l : Nat) : Int)) ∧ Below w.heap.size w w' := by
  subst hm
  have hg : g < w.heap.size := World.block_lt_of_cell? w _ (hc 0 (by omega))
  have HG := hide (get_ok g o cap l w h1 h8 hg hc)
  clear hc h1 h8
  generalize beNat l = n at *
  go_enter Tryd.func58, Tryd.ntmps58
  go_wp2_with (go_at_call 62; refine HG.out.mono ?_; rintro e w1 ⟨rfl, hb1⟩)
  go_ret
  exact ⟨rfl, hb1⟩

end Go.Proofs.YtlopimdnjookeaaDoor
