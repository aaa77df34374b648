import Derived.Test.YtlopimdnjookeabGreatDoorB1
import Derived.Deep.RegionHeld3
import Derived.Deep.DeepCutAuto
namespace Go.Proofs.YtlopimdnjookeabGreatDoor
open Go.RowKit

set_option maxHeartbeats 400000 in
theorem slot_any (t : Nat) (w : World) (ht : t < 18446744073709551616) : Calls Tryz.prog 47 #[.int .u64 (t : Int)] w fun e w' => e = .returned (.int .i64 ((t % 2 : Nat) : Int)) ∧ w = w' := by
  go_enter Tryz.func47, Tryz.ntmps47
  go_wp2
  go_ret
  exact ⟨rfl, rfl⟩

set_option maxHeartbeats 400000 in
theorem isSlot_any (s : Int) (w : World) : Calls Tryz.prog 50 #[.int .i64 s] w fun e w' => e = .returned (.bool (decide (0 ≤ s ∧ s < 2))) ∧ w = w' := by
  by_cases h1 : 0 ≤ s
  · by_cases h2 : s < 2
    · have e1 : decide (0 ≤ s ∧ s < 2) = true := by simp [h1, h2]
      rw [e1]
      go_enter Tryz.func50, Tryz.ntmps50
      go_wp2
      go_ret
      exact ⟨rfl, rfl⟩
    · have e1 : decide (0 ≤ s ∧ s < 2) = false := by simp [h2]
      rw [e1]
      go_enter Tryz.func50, Tryz.ntmps50
      go_wp2
      go_ret
      exact ⟨rfl, rfl⟩
  · have e1 : decide (0 ≤ s ∧ s < 2) = false := by simp [h1]
    rw [e1]
    go_enter Tryz.func50, Tryz.ntmps50
    go_wp2
    go_ret
    exact ⟨rfl, rfl⟩

set_option maxHeartbeats 400000 in
theorem pmay_any (n : Int) (w : World) : Calls Tryz.prog 36 #[.int .i64 n] w fun e w' => e = .returned (.bool (decide (PagesOk n))) ∧ w = w' := by
  by_cases h1 : 4 ≤ n
  · by_cases h2 : n ≤ 1048576
    · have e1 : decide (PagesOk n) = true := decide_eq_true ⟨h1, h2⟩
      rw [e1]
      go_enter Tryz.func36, Tryz.ntmps36
      go_wp2
      go_ret
      exact ⟨rfl, rfl⟩
    · have e1 : decide (PagesOk n) = false := decide_eq_false (fun h => h2 h.2)
      rw [e1]
      go_enter Tryz.func36, Tryz.ntmps36
      go_wp2
      go_ret
      exact ⟨rfl, rfl⟩
  · have e1 : decide (PagesOk n) = false := decide_eq_false (fun h => h1 h.1)
    rw [e1]
    go_enter Tryz.func36, Tryz.ntmps36
    go_wp2
    go_ret
    exact ⟨rfl, rfl⟩

set_option maxHeartbeats 1000000 in
theorem mayBe_any (m : Mt) (w : World) : Calls Tryz.prog 45 #[.agg m.cells.toArray] w fun e w' => e = .returned (.bool (decide (MayM m))) ∧ Below w.heap.size w w' := by
  obtain ⟨p, r, t⟩ := m
  simp only [Mt.cells]
  have HB : Hid (Below w.heap.size w (w.alloc (.cells #[.int .i64 p, .int .i64 r, .int .u64 (t : Int)] 32))) := below_new w _
  by_cases hp : PagesOk p
  · have HP : Hid (∀ w, Calls Tryz.prog 36 #[.int .i64 p] w fun e w' => e = .returned (.bool true) ∧ w = w') := fun w => by
      have h := pmay_any p w
      rw [decide_eq_true hp] at h
      exact h
    by_cases h0 : r = 0
    · subst h0
      have e1 : decide (MayM ⟨p, 0, t⟩) = true := decide_eq_true ⟨hp, .inl rfl⟩
      rw [e1]
      clear e1 hp
      go_enter Tryz.func45, Tryz.ntmps45
      go_wp2_with (go_at_call 36; refine (HP.out _).mono ?_; rintro e w' ⟨rfl, rfl⟩)
      go_ret
      exact ⟨rfl, HB.out⟩
    · have h0b : (r == 0) = false := beq_eq_false_iff_ne.2 h0
      by_cases h1 : 2 ≤ r
      · by_cases h2 : r < p
        · have e1 : decide (MayM ⟨p, r, t⟩) = true := decide_eq_true ⟨hp, .inr ⟨h1, h2⟩⟩
          rw [e1]
          clear e1 hp
          go_enter Tryz.func45, Tryz.ntmps45
          go_wp2_with (go_at_call 36; refine (HP.out _).mono ?_; rintro e w' ⟨rfl, rfl⟩)
          go_ret
          exact ⟨rfl, HB.out⟩
        · have e1 : decide (MayM ⟨p, r, t⟩) = false := decide_eq_false (fun h => h.2.elim h0 (fun h => h2 h.2))
          rw [e1]
          clear e1 hp
          go_enter Tryz.func45, Tryz.ntmps45
          go_wp2_with (go_at_call 36; refine (HP.out _).mono ?_; rintro e w' ⟨rfl, rfl⟩)
          go_ret
          exact ⟨rfl, HB.out⟩
      · have e1 : decide (MayM ⟨p, r, t⟩) = false := decide_eq_false (fun h => h.2.elim h0 (fun h => h1 h.1))
        rw [e1]
        clear e1 hp
        go_enter Tryz.func45, Tryz.ntmps45
        go_wp2_with (go_at_call 36; refine (HP.out _).mono ?_; rintro e w' ⟨rfl, rfl⟩)
        go_ret
        exact ⟨rfl, HB.out⟩
  · have HP : Hid (∀ w, Calls Tryz.prog 36 #[.int .i64 p] w fun e w' => e = .returned (.bool false) ∧ w = w') := fun w => by
      have h := pmay_any p w
      rw [decide_eq_false hp] at h
      exact h
    have e1 : decide (MayM ⟨p, r, t⟩) = false := decide_eq_false (fun h => hp h.1)
    rw [e1]
    clear e1 hp
    by_cases h0 : r = 0
    · subst h0
      go_enter Tryz.func45, Tryz.ntmps45
      go_wp2_with (go_at_call 36; refine (HP.out _).mono ?_; rintro e w' ⟨rfl, rfl⟩)
      go_ret
      exact ⟨rfl, HB.out⟩
    · have h0b : (r == 0) = false := beq_eq_false_iff_ne.2 h0
      by_cases h1 : 2 ≤ r
      · go_enter Tryz.func45, Tryz.ntmps45
        go_wp2_with (go_at_call 36; refine (HP.out _).mono ?_; rintro e w' ⟨rfl, rfl⟩)
        go_ret
        exact ⟨rfl, HB.out⟩
      · go_enter Tryz.func45, Tryz.ntmps45
        go_wp2_with (go_at_call 36; refine (HP.out _).mono ?_; rintro e w' ⟨rfl, rfl⟩)
        go_ret
        exact ⟨rfl, HB.out⟩

set_option maxHeartbeats 400000 in
theorem putn_any (ty : TypeId) (g o m cap n : Nat) (l : List UInt8) (w : World) (hn : n < 18446744073709551616) (h1 : 1 ≤ m) (h8 : m ≤ 8) (hfit : n < 2 ^ (8 * m)) (hr : RowT ty w g l) (hpl : o + m ≤ l.length) :
    Calls Tryz.prog 67 #[.slice (some ⟨g, o, none⟩) m cap, .int .u64 (n : Int)] w fun e w' => e = .returned (.tuple #[]) ∧ RowT ty w' g (splice l o (beBytes n m)) ∧ Sole g w w' := by
  have HR := hide hr
  have HP := hide hpl
  have HF := hide hfit
  have hl := beBytes_len n m h8
  clear hr hpl hfit
  go_enter Tryz.func67, Tryz.ntmps67
  go_wp2_with (go_at_call 94; refine (put_ok n m _ hn h1 h8 HF.out).mono ?_; rintro e w1 ⟨g2, c2, rfl, hown, hb1⟩; have hr1 := HR.out.below hb1; obtain ⟨w2, hcp, hr2, hs2⟩ := copy_row (o := o) (o2 := 0) (g2 := g2) (c2 := c2) (cap := cap) (c := beBytes n m) hr1 hl (fun j hj => by rw [Nat.zero_add, hown.cellAt j (by omega), u8s_get _ j hj]) (by rw [hl]; exact HP.out); have HS : Hid (Sole g w w2) := (Sole.of_below hb1).trans hs2; have HR2 := hide hr2; clear hr1 hr2 hs2 hb1 hown)
  go_end0
  exact ⟨rfl, HR2.out, HS.out⟩

set_option maxHeartbeats 400000 in
theorem getn_any (g o m cap : Nat) (l : List UInt8) (w : World) (hm : l.length = m) (h1 : 1 ≤ m) (h8 : m ≤ 8)
    (hc : ∀ j (h : j < l.length), w.cell? ⟨g, o + j, none⟩ = some (.int .u8 (l[j].toNat : Int))) :
    Calls Tryz.prog 107 #[.slice (some ⟨g, o, none⟩) m cap] w fun e w' => e = .returned (.int .u64 ((beNat l : Nat) : Int)) ∧ Below w.heap.size w w' := by
  subst hm
  have hg : g < w.heap.size := World.block_lt_of_cell? w _ (hc 0 (by omega))
  have HG := hide (get_ok g o cap l w h1 h8 hg hc)
  clear hc h1 h8
  generalize beNat l = n at *
  go_enter Tryz.func107, Tryz.ntmps107
  go_wp2_with (go_at_call 110; refine HG.out.mono ?_; rintro e w1 ⟨rfl, hb1⟩)
  go_ret
  exact ⟨rfl, hb1⟩

end Go.Proofs.YtlopimdnjookeabGreatDoor

namespace Go.Proofs.YtlopimdnjookeabGreatDoor
open Go.RowKit

theorem load512 {w : World} {g : Nat} {l : List UInt8} (h : RowT 87 w g l) (hl : l.length = 512) : (Instr.loadAt 87 (.pointer (some ⟨g, 0, none⟩))).run Tryz.prog w = .ok (.agg (u8s l).toArray) w := by
  simp only [Instr.loadAt, Instr.sureAddr, Sem.run_bind, Sem.run_pure, Result.andThen]
  exact run_loadVar_row w g 87 87 _ (0, 0) _ h under512 rfl (by rw [size512]; simp [u8s_length, hl])

theorem zero512 : ∀ w, (zeroValue 87).run Tryz.prog w = .ok (.agg (u8s (List.replicate 512 0)).toArray) w := (zero_of_info (P := Tryz.prog) (t := 87) (n := 512) (v := .agg (u8s (List.replicate 512 0)).toArray) (by kernel_rfl)).1
theorem sl_all (b : Nat) (w : World) : (Instr.sliceAt 87 (.pointer (some ⟨b, 0, none⟩)) none none none).run Tryz.prog w = .ok (.slice (some ⟨b, 0, none⟩) 512 512) w := by kernel_rfl
theorem sl_8 (b : Nat) (w : World) : (Instr.sliceAt 87 (.pointer (some ⟨b, 0, none⟩)) (some (.int .i64 8)) (some (.int .i64 12)) none).run Tryz.prog w = .ok (.slice (some ⟨b, 8, none⟩) 4 504) w := by kernel_rfl
theorem sl_12 (b : Nat) (w : World) : (Instr.sliceAt 87 (.pointer (some ⟨b, 0, none⟩)) (some (.int .i64 12)) (some (.int .i64 16)) none).run Tryz.prog w = .ok (.slice (some ⟨b, 12, none⟩) 4 500) w := by kernel_rfl
theorem sl_16 (b : Nat) (w : World) : (Instr.sliceAt 87 (.pointer (some ⟨b, 0, none⟩)) (some (.int .i64 16)) (some (.int .i64 24)) none).run Tryz.prog w = .ok (.slice (some ⟨b, 16, none⟩) 8 496) w := by kernel_rfl
theorem sl_24 (b : Nat) (w : World) : (Instr.sliceAt 87 (.pointer (some ⟨b, 0, none⟩)) (some (.int .i64 24)) (some (.int .i64 28)) none).run Tryz.prog w = .ok (.slice (some ⟨b, 24, none⟩) 4 488) w := by kernel_rfl

end Go.Proofs.YtlopimdnjookeabGreatDoor

namespace Go.Proofs.YtlopimdnjookeabGreatDoor
open Go.RowKit

def markS : ByteArray := ⟨#[67, 79, 80, 83, 69, 0, 1, 0]⟩
theorem mark_eq : markS.data.toList = markL := rfl
theorem sole_drew {g : Nat} {w w' : World} {n : Nat} (h : Sole g (w.drewN n) w') : Sole g w w' := ⟨h.os, h.tape, h.output, h.size, h.block⟩
theorem wrap_u (n : Nat) (h : n < 18446744073709551616) : IntKind.u64.wrap (n : Int) = (n : Int) := by
  rw [IntKind.wrap_u64]; omega
theorem wrap_n (n : Nat) (h : n < 9223372036854775808) : IntKind.i64.wrap (n : Int) = (n : Int) := by
  rw [IntKind.wrap_i64]; omega
theorem splice_len (l : List UInt8) (o : Nat) (c : List UInt8) (h : o + c.length ≤ l.length) : (splice l o c).length = l.length := length_splice l o c h

/-- A whole sector into a block that holds one. -/
theorem store512 {w : World} {g : Nat} {old l : List UInt8} (h : RowT 87 w g old) (ho : old.length = 512) (hl : l.length = 512) :
    ∃ w2, (storeCells ⟨g, 0, none⟩ (u8s l).toArray.toList).run Tryz.prog w = .ok () w2 ∧ RowT 87 w2 g l ∧ Sole g w w2 := by
  have h1 : (u8s l).toArray.all (·.oneCell') = true := by
    rw [Array.all_eq_true_iff_forall_mem]
    intro v hv
    exact u8s_one l v (by simpa using hv)
  have hs : (u8s l).toArray.size = 512 := by simp [u8s_length, hl]
  have h2 := run_storeVar_row (P := Tryz.prog) w g 87 87 _ (u8s l).toArray h (by rw [size512, hs]) (by rw [hs]; simp [u8s_length, ho]) h1
  refine ⟨w.setRow g (u8s l).toArray, ?_, setRow_heap w g _ _ _ _ h, Sole.setRow g w _⟩
  have hi := size512
  cases hq : Tryz.prog.info? 87 with
  | none => simp [hq] at hi
  | some i =>
    have hsz : i.size = 512 := by simpa [hq] using hi
    simpa [storeVar, sizeOf, typeInfo, hq, Value.cells, hs, hsz] using h2

set_option maxRecDepth 100000 in
set_option maxHeartbeats 4000000 in
theorem bytesOf_nat (p r t : Nat) (w : World) (hp : p < 4294967296) (hr : r < 4294967296) (ht : t < 18446744073709551616) (hT : Tab w) :
    Calls Tryz.prog 46 #[.agg #[.int .i64 (p : Int), .int .i64 (r : Int), .int .u64 (t : Int)]] w fun e w' => e = .returned (.agg (u8s (mpageN p r t)).toArray) ∧ Below w.heap.size w w' := by
  obtain ⟨zc, hzc, z512⟩ : ∃ zc, zc = (u8s (List.replicate 512 0)).toArray ∧ ∀ w, (zeroValue 87).run Tryz.prog w = .ok (.agg zc) w := ⟨_, rfl, zero512⟩
  have s0 := sl_all (w.heap.size + 1 + 1)
  have s8 := sl_8 (w.heap.size + 1 + 1)
  have s12 := sl_12 (w.heap.size + 1 + 1)
  have s16 := sl_16 (w.heap.size + 1 + 1)
  have s24 := sl_24 (w.heap.size + 1 + 1)
  have p64 := wrap_u p (by omega)
  have r64 := wrap_u r (by omega)
  obtain ⟨W1, hW1⟩ : ∃ W1, W1 = w.alloc (.cells #[.int .i64 (p : Int), .int .i64 (r : Int), .int .u64 (t : Int)] 32) := ⟨_, rfl⟩
  have hbx : Boxed w.heap.size [.int .i64 (p : Int), .int .i64 (r : Int), .int .u64 (t : Int)] W1 := by rw [hW1]; exact boxed_new w _ _
  have hb1 : Below w.heap.size w W1 := by rw [hW1]; exact below_new w _
  have e1 : W1.heap.size = w.heap.size + 1 := by rw [hW1]; simp
  obtain ⟨W2, hW2⟩ : ∃ W2, W2 = W1.alloc (.cells zc 87) := ⟨_, rfl⟩
  have hb2 : Below W1.heap.size W1 W2 := by rw [hW2]; exact below_new W1 _
  have e2 : W2.heap.size = w.heap.size + 1 + 1 := by rw [hW2]; simp [e1]
  have hres : RowT 87 W2 (w.heap.size + 1) (List.replicate 512 0) := by rw [hW2, hzc, ← e1]; exact rowT_new _ _ _
  have hrow : RowT 87 (W2.alloc (.cells zc 87)) (w.heap.size + 1 + 1) (List.replicate 512 0) := by rw [hzc, ← e2]; exact rowT_new _ _ _
  have hb3 : Below W2.heap.size W2 (W2.alloc (.cells zc 87)) := below_new W2 _
  have HRES := hide (hres.below hb3)
  have HBX := hide ((hbx.below hb2).below hb3)
  have HB := hide (Below.next (Below.next hb1 hb2) hb3)
  obtain ⟨w2, hcp, hr2, hs2⟩ := copy_mark (cap := 512) (n := 512) (m := 8) markS hrow rfl (by decide) (by rw [List.length_replicate]; decide)
  rw [mark_eq] at hr2
  have HBX2 : Hid (Boxed w.heap.size [.int .i64 (p : Int), .int .i64 (r : Int), .int .u64 (t : Int)] w2) := ⟨Nat.lt_of_lt_of_le HBX.out.1 hs2.size, fun j hj => hs2.cell (HBX.out.2 j hj) (by show w.heap.size ≠ _; omega)⟩
  have HRES2 := hide (HRES.out.sole hs2 (by omega))
  have HB2 : Hid (Below w.heap.size w w2) := hs2.below HB.out (by omega)
  have HR2 := hide hr2
  rw [hW2, hW1] at hcp
  have hcp' : (Builtin.copy_ #[33, 9] 3 #[.slice (some ⟨w.heap.size + 1 + 1, 0, none⟩) 512 512, .string ⟨#[67, 79, 80, 83, 69, 0, 1, 0]⟩]).run Tryz.prog (((w.alloc (.cells #[.int .i64 (p : Int), .int .i64 (r : Int), .int .u64 (t : Int)] 32)).alloc (.cells zc 87)).alloc (.cells zc 87)) = .ok (goInt 8) w2 := hcp
  have c0 : w2.cell? ⟨w.heap.size, 0, none⟩ = some (.int .i64 (p : Int)) := HBX2.out.2 0 (by simp)
  have HT := hide hT
  clear hT hcp hr2 hs2 HB HBX HRES hres hrow hb1 hb2 hb3 hbx hzc hW1 hW2 e1 e2 W1 W2
  go_enter Tryz.func46, Tryz.ntmps46
  go_wp2_with fail
  clear hcp' z512
  obtain ⟨g, hg⟩ : ∃ g, g = w.heap.size + 1 + 1 := ⟨_, rfl⟩
  rw [← hg] at s0 s8 s12 s16 s24 HR2 ⊢
  have HG : Hid (g ≠ w.heap.size + 1 ∧ w.heap.size ≠ g ∧ w.heap.size ≤ g) := ⟨by omega, by omega, by omega⟩
  clear hg
  -- the bytes, one place more each
  obtain ⟨L0, hL0⟩ : ∃ L0, L0 = splice (List.replicate 512 0) 0 markL := ⟨_, rfl⟩
  have l0 : L0.length = 512 := by rw [hL0, splice_len _ _ _ (by rw [List.length_replicate]; decide), List.length_replicate]
  obtain ⟨L1, hL1⟩ : ∃ L1, L1 = splice L0 8 (beBytes p 4) := ⟨_, rfl⟩
  have l1 : L1.length = 512 := by rw [hL1, splice_len _ _ _ (by rw [beBytes_len _ _ (by decide), l0]; decide), l0]
  obtain ⟨L2, hL2⟩ : ∃ L2, L2 = splice L1 12 (beBytes r 4) := ⟨_, rfl⟩
  have l2 : L2.length = 512 := by rw [hL2, splice_len _ _ _ (by rw [beBytes_len _ _ (by decide), l1]; decide), l1]
  obtain ⟨L3, hL3⟩ : ∃ L3, L3 = splice L2 16 (beBytes t 8) := ⟨_, rfl⟩
  have l3 : L3.length = 512 := by rw [hL3, splice_len _ _ _ (by rw [beBytes_len _ _ (by decide), l2]; decide), l2]
  have hb : L3 = mbare p r t 0 := by rw [hL3, hL2, hL1, hL0, splice_bare]
  obtain ⟨cv, hcv⟩ : ∃ cv, cv = crcV L3 := ⟨_, rfl⟩
  have hcb : cv < 4294967296 := by rw [hcv]; exact nt_lt _
  obtain ⟨L4, hL4⟩ : ∃ L4, L4 = splice L3 24 (beBytes cv 4) := ⟨_, rfl⟩
  have l4 : L4.length = 512 := by rw [hL4, splice_len _ _ _ (by rw [beBytes_len _ _ (by decide), l3]; decide), l3]
  have HFIN : Hid (L4 = mpageN p r t) := by
    show _ = _
    rw [hL4, hb, splice_sum, hcv, hb]; rfl
  have HP1 : Hid (∀ W, RowT 87 W g L0 → Calls Tryz.prog 67 #[.slice (some ⟨g, 8, none⟩) 4 504, .int .u64 (p : Int)] W fun e w' => e = .returned (.tuple #[]) ∧ RowT 87 w' g L1 ∧ Sole g W w') := fun W h => (putn_any 87 g 8 4 504 p L0 W (by omega) (by decide) (by decide) hp h (by omega)).mono (fun e w' ⟨he, h1, h2⟩ => ⟨he, by rw [hL1]; exact h1, h2⟩)
  have HP2 : Hid (∀ W, RowT 87 W g L1 → Calls Tryz.prog 67 #[.slice (some ⟨g, 12, none⟩) 4 500, .int .u64 (r : Int)] W fun e w' => e = .returned (.tuple #[]) ∧ RowT 87 w' g L2 ∧ Sole g W w') := fun W h => (putn_any 87 g 12 4 500 r L1 W (by omega) (by decide) (by decide) hr h (by omega)).mono (fun e w' ⟨he, h1, h2⟩ => ⟨he, by rw [hL2]; exact h1, h2⟩)
  have HP3 : Hid (∀ W, RowT 87 W g L2 → Calls Tryz.prog 67 #[.slice (some ⟨g, 16, none⟩) 8 496, .int .u64 (t : Int)] W fun e w' => e = .returned (.tuple #[]) ∧ RowT 87 w' g L3 ∧ Sole g W w') := fun W h => (putn_any 87 g 16 8 496 t L2 W (by omega) (by decide) (by decide) ht h (by omega)).mono (fun e w' ⟨he, h1, h2⟩ => ⟨he, by rw [hL3]; exact h1, h2⟩)
  have HCR : Hid (∀ W, RowT 87 W g L3 → Tab W → Calls Tryz.prog 68 #[.slice (some ⟨g, 0, none⟩) 512 512] W fun e w' => e = .returned (.int .u32 (cv : Int)) ∧ W = w') := fun W h h2 => by
    rw [hcv]
    exact crc_rd _ L3 W (by omega) (h.rd l3 (by decide)) h2
  have HP4 : Hid (∀ W, RowT 87 W g L3 → Calls Tryz.prog 67 #[.slice (some ⟨g, 24, none⟩) 4 488, .int .u64 (cv : Int)] W fun e w' => e = .returned (.tuple #[]) ∧ RowT 87 w' g L4 ∧ Sole g W w') := fun W h => (putn_any 87 g 24 4 488 cv L3 W (by omega) (by decide) (by decide) hcb h (by omega)).mono (fun e w' ⟨he, h1, h2⟩ => ⟨he, by rw [hL4]; exact h1, h2⟩)
  rw [← hL0] at HR2
  have cv64 := wrap_u cv (by omega)
  have cv65 : (cv : Int) % 18446744073709551616 = (cv : Int) := by omega
  have HL4 := hide l4
  clear hL0 hL1 hL2 hL3 hL4 hb hcv l0 l1 l2 l3 l4 hp hr ht hcb
  have HB3 : Hid (∀ W W', Sole g W W' → Below w.heap.size w W → Below w.heap.size w W') := fun W W' h hb => h.below hb HG.out.2.2
  have HX3 : Hid (∀ W W', Sole g W W' → Boxed w.heap.size [.int .i64 (p : Int), .int .i64 (r : Int), .int .u64 (t : Int)] W → Boxed w.heap.size [.int .i64 (p : Int), .int .i64 (r : Int), .int .u64 (t : Int)] W') := fun W W' h hx => ⟨Nat.lt_of_lt_of_le hx.1 h.size, fun j hj => h.cell (hx.2 j hj) HG.out.2.1⟩
  have HY3 : Hid (∀ W W', Sole g W W' → RowT 87 W (w.heap.size + 1) (List.replicate 512 0) → RowT 87 W' (w.heap.size + 1) (List.replicate 512 0)) := fun W W' h hx => hx.sole h (fun e => HG.out.1 e.symm)
  go_region_held3 (fun w' => w'.cell? ⟨w.heap.size, 0, none⟩ = some (.int .i64 (p : Int))) (go_keep)
    (first
      | (go_at_call 67; refine (HP1.out _ ?_).mono ?_; (exact HR2.out); rintro e w3 ⟨rfl, hr3, hs3d⟩; have hs3 : Sole g w2 w3 := ⟨hs3d.os, hs3d.tape, hs3d.output, hs3d.size, hs3d.block⟩; have HR3 := hide hr3; have HS3 := hide hs3; have HBX3 := hide (HX3.out _ _ hs3 HBX2.out); have k0 : w3.cell? ⟨w.heap.size, 0, none⟩ = some (.int .i64 (p : Int)) := HBX3.out.2 0 (by simp); clear hr3 hs3 hs3d))
  have HB4 := hide (HB3.out _ _ HS3.out HB2.out)
  have HRES3 := hide (HY3.out _ _ HS3.out HRES2.out)
  have c1 : w3.cell? ⟨w.heap.size, 1, none⟩ = some (.int .i64 (r : Int)) := HBX3.out.2 1 (by simp)
  clear HBX2 HRES2 HB2 HS3 HR2 c0 k0 s8
  go_wp2_with fail
  go_region_held3 (fun w' => w'.cell? ⟨w.heap.size, 1, none⟩ = some (.int .i64 (r : Int))) (go_keep)
    (first
      | (go_at_call 67; refine (HP2.out _ ?_).mono ?_; (exact HR3.out); rintro e w4 ⟨rfl, hr3, hs3d⟩; have hs3 : Sole g w3 w4 := ⟨hs3d.os, hs3d.tape, hs3d.output, hs3d.size, hs3d.block⟩; have HR4 := hide hr3; have HS4 := hide hs3; have HBX4 := hide (HX3.out _ _ hs3 HBX3.out); have k0 : w4.cell? ⟨w.heap.size, 1, none⟩ = some (.int .i64 (r : Int)) := HBX4.out.2 1 (by simp); clear hr3 hs3 hs3d))
  have HB5 := hide (HB3.out _ _ HS4.out HB4.out)
  have HRES4 := hide (HY3.out _ _ HS4.out HRES3.out)
  have c2 : w4.cell? ⟨w.heap.size, 2, none⟩ = some (.int .u64 (t : Int)) := HBX4.out.2 2 (by simp)
  clear HBX3 HRES3 HB4 HS4 HR3 c1 k0 s12
  go_wp2_with fail
  go_region_held3 (fun w' => w'.cell? ⟨w.heap.size, 2, none⟩ = some (.int .u64 (t : Int))) (go_keep)
    (first
      | (go_at_call 67; refine (HP3.out _ ?_).mono ?_; (exact HR4.out); rintro e w5 ⟨rfl, hr3, hs3d⟩; have hs3 : Sole g w4 w5 := ⟨hs3d.os, hs3d.tape, hs3d.output, hs3d.size, hs3d.block⟩; have HR5 := hide hr3; have HS5 := hide hs3; have HBX5 := hide (HX3.out _ _ hs3 HBX4.out); have k0 : w5.cell? ⟨w.heap.size, 2, none⟩ = some (.int .u64 (t : Int)) := HBX5.out.2 2 (by simp); clear hr3 hs3 hs3d))
  have HB6 := hide (HB3.out _ _ HS5.out HB5.out)
  have HRES5 := hide (HY3.out _ _ HS5.out HRES4.out)
  clear HBX4 HRES4 HB5 HS5 HR4 c2 k0 s16 HBX5
  go_wp2_with fail
  refine (HCR.out _ HR5.out (HT.out.below HB6.out)).mono ?_
  rintro e w5' ⟨rfl, rfl⟩
  go_wp2_with fail
  refine (HP4.out _ HR5.out).mono ?_
  rintro e w6 ⟨rfl, hr6, hs6⟩
  have HB7 := hide (HB3.out _ _ hs6 HB6.out)
  have hres6 := HY3.out _ _ hs6 HRES5.out
  have hld := load512 hr6 HL4.out
  clear HRES5 HB6 HR5 s0 s24
  go_wp2_with fail
  refine wp_load_row 87 (.tmp 3) rfl g rfl 87 _ (0, 0) _ hr6 under512 rfl (by rw [size512]; simp [u8s_length, HL4.out]) ?_
  obtain ⟨w7, hst, hr7, hs7⟩ := store512 hres6 (List.length_replicate ..) HL4.out
  have HB8 : Hid (Below w.heap.size w w7) := hs7.below HB7.out (by omega)
  rw [HFIN.out] at hr7 hst
  have hLA : (u8s (mpageN p r t)).toArray.size = 512 := by rw [← HFIN.out]; simp [u8s_length, HL4.out]
  rw [HFIN.out]
  have HR7 := hide hr7
  have HL7 := hide hLA
  clear hr6 hld hr7 hs7 hres6
  generalize (u8s (mpageN p r t)).toArray = CS at *
  go_wp2_with fail
  refine bodyPost_ret (results_cell_row rfl _ _ (w.heap.size + 1) 87 _ (0, 0) _ rfl HR7.out under512 rfl (by rw [size512, ← HFIN.out]; simp [u8s_length, HL4.out])) rfl ⟨rfl, HB8.out⟩

/-- The bytes of a meta that may be. -/
theorem bytesOf_any (m : Mt) (w : World) (hm : MayM m) (hx : m.txid < 18446744073709551616) (hT : Tab w) :
    Calls Tryz.prog 46 #[.agg m.cells.toArray] w fun e w' => e = .returned (.agg (u8s (mpage m)).toArray) ∧ Below w.heap.size w w' := by
  obtain ⟨p, r, t⟩ := m
  obtain ⟨⟨hp1, hp2⟩, hr⟩ := hm
  simp only at hp1 hp2 hr hx
  obtain ⟨p, rfl⟩ := Int.eq_ofNat_of_zero_le (show 0 ≤ p by omega)
  obtain ⟨r, rfl⟩ := Int.eq_ofNat_of_zero_le (show 0 ≤ r by omega)
  exact bytesOf_nat p r t w (by omega) (by omega) hx hT

end Go.Proofs.YtlopimdnjookeabGreatDoor

namespace Go.Proofs.YtlopimdnjookeabGreatDoor
open Go.RowKit

theorem set_three {w : World} {b : Nat} {t : TypeId} {v0 v1 v2 u0 u1 u2 : Value} (h : w.heap[b]? = some (.cells #[v0, v1, v2] t (0, 0))) :
    (((w.setCell ⟨b, 0, none⟩ u0).setCell ⟨b, 1, none⟩ u1).setCell ⟨b, 2, none⟩ u2).heap[b]? = some (.cells #[u0, u1, u2] t (0, 0)) := by
  rw [heap_setCell_same _ b 2 _ t _ (heap_setCell_same _ b 1 _ t _ (heap_setCell_same w b 0 _ t _ h))]; rfl
theorem below_three {w0 w : World} {b : Nat} {u0 u1 u2 : Value} (h : Below w0.heap.size w0 w) (hb : w0.heap.size ≤ b) : Below w0.heap.size w0 (((w.setCell ⟨b, 0, none⟩ u0).setCell ⟨b, 1, none⟩ u1).setCell ⟨b, 2, none⟩ u2) :=
  ((h.setCell hb _).setCell hb _).setCell hb _
theorem box512 (w : World) (l : List UInt8) : RowT 87 (w.alloc (.cells (u8s l).toArray 87)) w.heap.size l := rowT_new _ _ _

set_option maxRecDepth 100000 in
set_option maxHeartbeats 4000000 in
theorem numbersOf_any (l : List UInt8) (w : World) (hl : l.length = 512) :
    Calls Tryz.prog 91 #[.agg (u8s l).toArray] w fun e w' => e = .returned (.agg (parseM l).cells.toArray) ∧ Below w.heap.size w w' := by
  obtain ⟨n1, h1⟩ : ∃ n, n = beNat (sub l 8 4) := ⟨_, rfl⟩
  obtain ⟨n2, h2⟩ : ∃ n, n = beNat (sub l 12 4) := ⟨_, rfl⟩
  obtain ⟨n3, h3⟩ : ∃ n, n = beNat (sub l 16 8) := ⟨_, rfl⟩
  have b1 : n1 < 4294967296 := by have := beNat_lt (sub l 8 4); rw [sub_len _ _ _ (by omega)] at this; rw [h1]; exact this
  have b2 : n2 < 4294967296 := by have := beNat_lt (sub l 12 4); rw [sub_len _ _ _ (by omega)] at this; rw [h2]; exact this
  have HPV : Hid ((parseM l).cells.toArray = #[.int .i64 (n1 : Int), .int .i64 (n2 : Int), .int .u64 (n3 : Int)]) := by show _ = _; rw [h1, h2, h3]; rfl
  have HG : Hid (∀ W o m cap, RowT 87 W w.heap.size l → o + m ≤ 512 → 1 ≤ m → m ≤ 8 → Calls Tryz.prog 107 #[.slice (some ⟨w.heap.size, o, none⟩) m cap] W fun e w' => e = .returned (.int .u64 ((beNat (sub l o m) : Nat) : Int)) ∧ Below W.heap.size W w') := fun W o m cap h hom m1 m8 =>
    getn_any w.heap.size o m cap (sub l o m) W (sub_len _ _ _ (by omega)) m1 m8 (fun j hj => by rw [sub_get l o m j (by omega) hj]; exact h.cell _ _)
  have HG1 : Hid (∀ W, RowT 87 W w.heap.size l → Calls Tryz.prog 107 #[.slice (some ⟨w.heap.size, 8, none⟩) 4 504] W fun e w' => e = .returned (.int .u64 (n1 : Int)) ∧ Below W.heap.size W w') := fun W h => by rw [h1]; exact HG.out W 8 4 504 h (by decide) (by decide) (by decide)
  have HG2 : Hid (∀ W, RowT 87 W w.heap.size l → Calls Tryz.prog 107 #[.slice (some ⟨w.heap.size, 12, none⟩) 4 500] W fun e w' => e = .returned (.int .u64 (n2 : Int)) ∧ Below W.heap.size W w') := fun W h => by rw [h2]; exact HG.out W 12 4 500 h (by decide) (by decide) (by decide)
  have HG3 : Hid (∀ W, RowT 87 W w.heap.size l → Calls Tryz.prog 107 #[.slice (some ⟨w.heap.size, 16, none⟩) 8 496] W fun e w' => e = .returned (.int .u64 (n3 : Int)) ∧ Below W.heap.size W w') := fun W h => by rw [h3]; exact HG.out W 16 8 496 h (by decide) (by decide) (by decide)
  have w1 := wrap_n n1 (by omega)
  have w2 := wrap_n n2 (by omega)
  have s8 := sl_8 w.heap.size
  have s12 := sl_12 w.heap.size
  have s16 := sl_16 w.heap.size
  obtain ⟨CS, hCS⟩ : ∃ CS, CS = (u8s l).toArray := ⟨_, rfl⟩
  have hrow := box512 w l
  rw [← hCS] at hrow ⊢
  have HB0 := hide (below_new w (.cells CS 87))
  have HR0 := hide hrow
  rw [HPV.out]
  clear hCS h1 h2 h3 HG hl b1 b2 hrow HPV
  have HZ : Hid (((w.alloc (.cells CS 87)).alloc (.cells #[.int .i64 0, .int .i64 0, .int .u64 0] 32)).heap[w.heap.size + 1]? = some (.cells #[.int .i64 0, .int .i64 0, .int .u64 0] 32 (0, 0))) := by
    have h := heap_alloc_new (w.alloc (.cells CS 87)) (.cells #[.int .i64 0, .int .i64 0, .int .u64 0] 32)
    rw [show (w.alloc (.cells CS 87)).heap.size = w.heap.size + 1 by simp] at h
    exact h
  have hb1 := below_new (w.alloc (.cells CS 87)) (.cells #[.int .i64 0, .int .i64 0, .int .u64 0] 32)
  have HR1 := hide (HR0.out.below hb1)
  have HB1 := hide (Below.next HB0.out hb1)
  clear HR0 HB0 hb1
  go_enter Tryz.func91, Tryz.ntmps91
  go_wp2_with fail
  generalize (w.alloc (.cells CS 87)).alloc (.cells #[.int .i64 0, .int .i64 0, .int .u64 0] 32) = W1 at *
  have HLT : Hid (w.heap.size + 1 < W1.heap.size) := by
    rcases Nat.lt_or_ge (w.heap.size + 1) W1.heap.size with h' | h'
    · exact h'
    · have h2 := HZ.out; rw [Array.getElem?_eq_none h'] at h2; cases h2
  go_region_held3 (fun _ => True) (trivial)
    (first
      | (go_at_call_of 107 (Value.slice (some ⟨w.heap.size, 8, none⟩) 4 504); refine (HG1.out _ ?_).mono ?_; (exact HR1.out); rintro e w3 ⟨rfl, hb3d⟩; have hb3 : Below W1.heap.size W1 w3 := ⟨hb3d.os, hb3d.tape, hb3d.output, hb3d.size, hb3d.block⟩; have HR2 := hide (HR1.out.below hb3); have HB2 := hide hb3; clear hb3 hb3d)
      | (go_at_call_of 107 (Value.slice (some ⟨w.heap.size, 12, none⟩) 4 500); refine (HG2.out _ ?_).mono ?_; (exact HR2.out); rintro e w4 ⟨rfl, hb3d⟩; have hb3 : Below w3.heap.size w3 w4 := ⟨hb3d.os, hb3d.tape, hb3d.output, hb3d.size, hb3d.block⟩; have HR3 := hide (HR2.out.below hb3); have HB3 := hide (Below.next HB2.out hb3); clear hb3 hb3d)
      | (go_at_call_of 107 (Value.slice (some ⟨w.heap.size, 16, none⟩) 8 496); refine (HG3.out _ ?_).mono ?_; (exact HR3.out); rintro e w5 ⟨rfl, hb3d⟩; have hb3 : Below w4.heap.size w4 w5 := ⟨hb3d.os, hb3d.tape, hb3d.output, hb3d.size, hb3d.block⟩; have hb5 := Below.next HB3.out hb3; have HB5 := hide (Below.next HB1.out hb5); have hz5 : w5.heap[w.heap.size + 1]? = some (.cells #[.int .i64 0, .int .i64 0, .int .u64 0] 32 (0, 0)) := (hb5.block _ HLT.out).trans HZ.out; have HZ5 := hide hz5; have z0 : w5.cell? ⟨w.heap.size + 1, 0, none⟩ = some (.int .i64 0) := by { rw [cell_of_row _ _ _ _ _ _ hz5]; rfl }; have z1 : w5.cell? ⟨w.heap.size + 1, 1, none⟩ = some (.int .i64 0) := by { rw [cell_of_row _ _ _ _ _ _ hz5]; rfl }; have z2 : w5.cell? ⟨w.heap.size + 1, 2, none⟩ = some (.int .u64 0) := by { rw [cell_of_row _ _ _ _ _ _ hz5]; rfl }; have y0 : w5.frozen? ⟨w.heap.size + 1, 0, none⟩ = false := frozen_of_row _ _ _ _ _ hz5; have y1 : w5.frozen? ⟨w.heap.size + 1, 1, none⟩ = false := frozen_of_row _ _ _ _ _ hz5; have y2 : w5.frozen? ⟨w.heap.size + 1, 2, none⟩ = false := frozen_of_row _ _ _ _ _ hz5; clear hb3 hb3d hb5 hz5))
  go_wp2_with fail
  refine bodyPost_ret (results_cell_row rfl _ _ (w.heap.size + 1) 32 #[.int .i64 (n1 : Int), .int .i64 (n2 : Int), .int .u64 (n3 : Int)] (0, 0) _ rfl (set_three HZ5.out) Tryz.underlying32 rfl (by kernel_rfl)) rfl ⟨rfl, below_three HB5.out (by omega)⟩

end Go.Proofs.YtlopimdnjookeabGreatDoor
