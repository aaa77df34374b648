import Derived.Test.YtpeobpmooledaaaDoorGJ
import Derived.Deep.RegionHeld3
import Derived.Deep.DeepCutAuto
namespace Go.Proofs.YtpeobpmooledaaaDoor.M
open Go.RowKit

def markS : ByteArray := ⟨#[67, 79, 80, 83, 69, 0, 1, 0]⟩
theorem mark_eq : markS.data.toList = markL := rfl
theorem sole_drew {g : Nat} {w w' : World} {n : Nat} (h : Sole g (w.drewN n) w') : Sole g w w' := ⟨h.os, h.tape, h.output, h.size, h.block⟩
theorem wrap_u (n : Nat) (h : n < 18446744073709551616) : IntKind.u64.wrap (n : Int) = (n : Int) := by
  rw [IntKind.wrap_u64]; omega
theorem wrap_n (n : Nat) (h : n < 9223372036854775808) : IntKind.i64.wrap (n : Int) = (n : Int) := by
  rw [IntKind.wrap_i64]; omega
theorem splice_len (l : List UInt8) (o : Nat) (c : List UInt8) (h : o + c.length ≤ l.length) : (splice l o c).length = l.length := length_splice l o c h

/-- A whole sector into a block that holds one. -/
theorem store512 {w : World} {g : Nat} {old l : List UInt8} (h : RowT 56 w g old) (ho : old.length = 512) (hl : l.length = 512) :
    ∃ w2, (storeCells ⟨g, 0, none⟩ (u8s l).toArray.toList).run Tryd.prog w = .ok () w2 ∧ RowT 56 w2 g l ∧ Sole g w w2 := by
  have h1 : (u8s l).toArray.all (·.oneCell') = true := by
    rw [Array.all_eq_true_iff_forall_mem]
    intro v hv
    exact u8s_one l v (by simpa using hv)
  have hs : (u8s l).toArray.size = 512 := by simp [u8s_length, hl]
  have h2 := run_storeVar_row (P := Tryd.prog) w g 56 56 _ (u8s l).toArray h (by rw [size512, hs]) (by rw [hs]; simp [u8s_length, ho]) h1
  refine ⟨w.setRow g (u8s l).toArray, ?_, setRow_heap w g _ _ _ _ h, Sole.setRow g w _⟩
  have hi := size512
  cases hq : Tryd.prog.info? 56 with
  | none => simp [hq] at hi
  | some i =>
    have hsz : i.size = 512 := by simpa [hq] using hi
    simpa [storeVar, sizeOf, typeInfo, hq, Value.cells, hs, hsz] using h2

set_option maxRecDepth 100000 in
set_option maxHeartbeats 4000000 in
theorem bytesOf_nat (p r t : Nat) (w : World) (hp : p < 4294967296) (hr : r < 4294967296) (ht : t < 18446744073709551616) (hT : Tab w) :
    Calls Tryd.prog 30 #[.agg #[.int .i64 (p : Int), .int .i64 (r : Int), .int .u64 (t : Int)]] w fun e w' => e = .returned (.agg (u8s (mpageN p r t)).toArray) ∧ Below w.heap.size w w' := by
  obtain ⟨zc, hzc, z512⟩ : ∃ zc, zc = (u8s (List.replicate 512 0)).toArray ∧ ∀ w, (zeroValue 56).run Tryd.prog w = .ok (.agg zc) w := ⟨_, rfl, zero512⟩
  have s0 := sl_all (w.heap.size + 1 + 1)
  have s8 := sl_8 (w.heap.size + 1 + 1)
  have s12 := sl_12 (w.heap.size + 1 + 1)
  have s16 := sl_16 (w.heap.size + 1 + 1)
  have s24 := sl_24 (w.heap.size + 1 + 1)
  have p64 := wrap_u p (by omega)
  have r64 := wrap_u r (by omega)
  obtain ⟨W1, hW1⟩ : ∃ W1, W1 = w.alloc (.cells #[.int .i64 (p : Int), .int .i64 (r : Int), .int .u64 (t : Int)] 24) := ⟨_, rfl⟩
  have hbx : Boxed w.heap.size [.int .i64 (p : Int), .int .i64 (r : Int), .int .u64 (t : Int)] W1 := by rw [hW1]; exact boxed_new w _ _
  have hb1 : Below w.heap.size w W1 := by rw [hW1]; exact below_new w _
  have e1 : W1.heap.size = w.heap.size + 1 := by rw [hW1]; simp
  obtain ⟨W2, hW2⟩ : ∃ W2, W2 = W1.alloc (.cells zc 56) := ⟨_, rfl⟩
  have hb2 : Below W1.heap.size W1 W2 := by rw [hW2]; exact below_new W1 _
  have e2 : W2.heap.size = w.heap.size + 1 + 1 := by rw [hW2]; simp [e1]
  have hres : RowT 56 W2 (w.heap.size + 1) (List.replicate 512 0) := by rw [hW2, hzc, ← e1]; exact rowT_new _ _ _
  have hrow : RowT 56 (W2.alloc (.cells zc 56)) (w.heap.size + 1 + 1) (List.replicate 512 0) := by rw [hzc, ← e2]; exact rowT_new _ _ _
  have hb3 : Below W2.heap.size W2 (W2.alloc (.cells zc 56)) := below_new W2 _
  have HRES := hide (hres.below hb3)
  have HBX := hide ((hbx.below hb2).below hb3)
  have HB := hide (Below.next (Below.next hb1 hb2) hb3)
  obtain ⟨w2, hcp, hr2, hs2⟩ := copy_mark (cap := 512) (n := 512) (m := 8) markS hrow rfl (by decide) (by rw [List.length_replicate]; decide)
  rw [mark_eq] at hr2
  have HBX2 : Hid (Boxed w.heap.size [.int .i64 (p : Int), .int .i64 (r : Int), .int .u64 (t : Int)] w2) := ⟨Nat.lt_of_lt_of_le HBX.out.1 hs2.size, fun j hj => hs2.cell (HBX.out.2 j hj) (by show w.heap.size ≠ _; omega)⟩
  have HRES2 := hide (HRES.out.sole hs2 (by omega))
  have HB2 : Hid (Below w.heap.size w w2) := hs2.below HB.out (by omega)
  have HR2 := hide hr2
  rw [hW2, hW1] at hcp
  have hcp' : (Builtin.copy_ #[41, 9] 3 #[.slice (some ⟨w.heap.size + 1 + 1, 0, none⟩) 512 512, .string ⟨#[67, 79, 80, 83, 69, 0, 1, 0]⟩]).run Tryd.prog (((w.alloc (.cells #[.int .i64 (p : Int), .int .i64 (r : Int), .int .u64 (t : Int)] 24)).alloc (.cells zc 56)).alloc (.cells zc 56)) = .ok (goInt 8) w2 := hcp
  have c0 : w2.cell? ⟨w.heap.size, 0, none⟩ = some (.int .i64 (p : Int)) := HBX2.out.2 0 (by simp)
  have HT := hide hT
  clear hT hcp hr2 hs2 HB HBX HRES hres hrow hb1 hb2 hb3 hbx hzc hW1 hW2 e1 e2 W1 W2
  go_enter Tryd.func30, Tryd.ntmps30
  go_wp2_with fail
  clear hcp' z512
  obtain ⟨g, hg⟩ : ∃ g, g = w.heap.size + 1 + 1 := ⟨_, rfl⟩
  rw [← hg] at s0 s8 s12 s16 s24 HR2 ⊢
  have HG : Hid (g ≠ w.heap.size + 1 ∧ w.heap.size ≠ g ∧ w.heap.size ≤ g) := ⟨by omega, by omega, by omega⟩
  clear hg
  -- the bytes, one place more each
  obtain ⟨L0, hL0⟩ : ∃ L0, L0 = splice (List.replicate 512 0) 0 markL := ⟨_, rfl⟩
  have l0 : L0.length = 512 := by rw [hL0, splice_len _ _ _ (by rw [List.length_replicate]; decide), List.length_replicate]
  obtain ⟨L1, hL1⟩ : ∃ L1, L1 = splice L0 8 (beBytes p 4) := ⟨_, rfl⟩
  have l1 : L1.length = 512 := by rw [hL1, splice_len _ _ _ (by rw [beBytes_len _ _ (by decide), l0]; decide), l0]
  obtain ⟨L2, hL2⟩ : ∃ L2, L2 = splice L1 12 (beBytes r 4) := ⟨_, rfl⟩
  have l2 : L2.length = 512 := by rw [hL2, splice_len _ _ _ (by rw [beBytes_len _ _ (by decide), l1]; decide), l1]
  obtain ⟨L3, hL3⟩ : ∃ L3, L3 = splice L2 16 (beBytes t 8) := ⟨_, rfl⟩
  have l3 : L3.length = 512 := by rw [hL3, splice_len _ _ _ (by rw [beBytes_len _ _ (by decide), l2]; decide), l2]
  have hb : L3 = mbare p r t 0 := by rw [hL3, hL2, hL1, hL0, splice_bare]
  obtain ⟨cv, hcv⟩ : ∃ cv, cv = crcV L3 := ⟨_, rfl⟩
  have hcb : cv < 4294967296 := by rw [hcv]; exact nt_lt _
  obtain ⟨L4, hL4⟩ : ∃ L4, L4 = splice L3 24 (beBytes cv 4) := ⟨_, rfl⟩
  have l4 : L4.length = 512 := by rw [hL4, splice_len _ _ _ (by rw [beBytes_len _ _ (by decide), l3]; decide), l3]
  have HFIN : Hid (L4 = mpageN p r t) := by
    show _ = _
    rw [hL4, hb, splice_sum, hcv, hb]; rfl
  have HP1 : Hid (∀ W, RowT 56 W g L0 → Calls Tryd.prog 43 #[.slice (some ⟨g, 8, none⟩) 4 504, .int .u64 (p : Int)] W fun e w' => e = .returned (.tuple #[]) ∧ RowT 56 w' g L1 ∧ Sole g W w') := fun W h => (putn_any 56 g 8 4 504 p L0 W (by omega) (by decide) (by decide) hp h (by omega)).mono (fun e w' ⟨he, h1, h2⟩ => ⟨he, by rw [hL1]; exact h1, h2⟩)
  have HP2 : Hid (∀ W, RowT 56 W g L1 → Calls Tryd.prog 43 #[.slice (some ⟨g, 12, none⟩) 4 500, .int .u64 (r : Int)] W fun e w' => e = .returned (.tuple #[]) ∧ RowT 56 w' g L2 ∧ Sole g W w') := fun W h => (putn_any 56 g 12 4 500 r L1 W (by omega) (by decide) (by decide) hr h (by omega)).mono (fun e w' ⟨he, h1, h2⟩ => ⟨he, by rw [hL2]; exact h1, h2⟩)
  have HP3 : Hid (∀ W, RowT 56 W g L2 → Calls Tryd.prog 43 #[.slice (some ⟨g, 16, none⟩) 8 496, .int .u64 (t : Int)] W fun e w' => e = .returned (.tuple #[]) ∧ RowT 56 w' g L3 ∧ Sole g W w') := fun W h => (putn_any 56 g 16 8 496 t L2 W (by omega) (by decide) (by decide) ht h (by omega)).mono (fun e w' ⟨he, h1, h2⟩ => ⟨he, by rw [hL3]; exact h1, h2⟩)
  have HCR : Hid (∀ W, RowT 56 W g L3 → Tab W → Calls Tryd.prog 19 #[.slice (some ⟨g, 0, none⟩) 512 512] W fun e w' => e = .returned (.int .u32 (cv : Int)) ∧ W = w') := fun W h h2 => by
    rw [hcv]
    exact crc_rd _ L3 W (by omega) (h.rd l3 (by decide)) h2
  have HP4 : Hid (∀ W, RowT 56 W g L3 → Calls Tryd.prog 43 #[.slice (some ⟨g, 24, none⟩) 4 488, .int .u64 (cv : Int)] W fun e w' => e = .returned (.tuple #[]) ∧ RowT 56 w' g L4 ∧ Sole g W w') := fun W h => (putn_any 56 g 24 4 488 cv L3 W (by omega) (by decide) (by decide) hcb h (by omega)).mono (fun e w' ⟨he, h1, h2⟩ => ⟨he, by rw [hL4]; exact h1, h2⟩)
  rw [← hL0] at HR2
  have cv64 := wrap_u cv (by omega)
  have cv65 : (cv : Int) % 18446744073709551616 = (cv : Int) := by omega
  have HL4 := hide l4
  clear hL0 hL1 hL2 hL3 hL4 hb hcv l0 l1 l2 l3 l4 hp hr ht hcb
  have HB3 : Hid (∀ W W', Sole g W W' → Below w.heap.size w W → Below w.heap.size w W') := fun W W' h hb => h.below hb HG.out.2.2
  have HX3 : Hid (∀ W W', Sole g W W' → Boxed w.heap.size [.int .i64 (p : Int), .int .i64 (r : Int), .int .u64 (t : Int)] W → Boxed w.heap.size [.int .i64 (p : Int), .int .i64 (r : Int), .int .u64 (t : Int)] W') := fun W W' h hx => ⟨Nat.lt_of_lt_of_le hx.1 h.size, fun j hj => h.cell (hx.2 j hj) HG.out.2.1⟩
  have HY3 : Hid (∀ W W', Sole g W W' → RowT 56 W (w.heap.size + 1) (List.replicate 512 0) → RowT 56 W' (w.heap.size + 1) (List.replicate 512 0)) := fun W W' h hx => hx.sole h (fun e => HG.out.1 e.symm)
  go_region_held3 (fun w' => w'.cell? ⟨w.heap.size, 0, none⟩ = some (.int .i64 (p : Int))) (go_keep)
    (first
      | (go_at_call 43; refine (HP1.out _ ?_).mono ?_; (exact HR2.out); rintro e w3 ⟨rfl, hr3, hs3d⟩; have hs3 : Sole g w2 w3 := ⟨hs3d.os, hs3d.tape, hs3d.output, hs3d.size, hs3d.block⟩; have HR3 := hide hr3; have HS3 := hide hs3; have HBX3 := hide (HX3.out _ _ hs3 HBX2.out); have k0 : w3.cell? ⟨w.heap.size, 0, none⟩ = some (.int .i64 (p : Int)) := HBX3.out.2 0 (by simp); clear hr3 hs3 hs3d))
  have HB4 := hide (HB3.out _ _ HS3.out HB2.out)
  have HRES3 := hide (HY3.out _ _ HS3.out HRES2.out)
  have c1 : w3.cell? ⟨w.heap.size, 1, none⟩ = some (.int .i64 (r : Int)) := HBX3.out.2 1 (by simp)
  clear HBX2 HRES2 HB2 HS3 HR2 c0 k0 s8
  go_wp2_with fail
  go_region_held3 (fun w' => w'.cell? ⟨w.heap.size, 1, none⟩ = some (.int .i64 (r : Int))) (go_keep)
    (first
      | (go_at_call 43; refine (HP2.out _ ?_).mono ?_; (exact HR3.out); rintro e w4 ⟨rfl, hr3, hs3d⟩; have hs3 : Sole g w3 w4 := ⟨hs3d.os, hs3d.tape, hs3d.output, hs3d.size, hs3d.block⟩; have HR4 := hide hr3; have HS4 := hide hs3; have HBX4 := hide (HX3.out _ _ hs3 HBX3.out); have k0 : w4.cell? ⟨w.heap.size, 1, none⟩ = some (.int .i64 (r : Int)) := HBX4.out.2 1 (by simp); clear hr3 hs3 hs3d))
  have HB5 := hide (HB3.out _ _ HS4.out HB4.out)
  have HRES4 := hide (HY3.out _ _ HS4.out HRES3.out)
  have c2 : w4.cell? ⟨w.heap.size, 2, none⟩ = some (.int .u64 (t : Int)) := HBX4.out.2 2 (by simp)
  clear HBX3 HRES3 HB4 HS4 HR3 c1 k0 s12
  go_wp2_with fail
  go_region_held3 (fun w' => w'.cell? ⟨w.heap.size, 2, none⟩ = some (.int .u64 (t : Int))) (go_keep)
    (first
      | (go_at_call 43; refine (HP3.out _ ?_).mono ?_; (exact HR4.out); rintro e w5 ⟨rfl, hr3, hs3d⟩; have hs3 : Sole g w4 w5 := ⟨hs3d.os, hs3d.tape, hs3d.output, hs3d.size, hs3d.block⟩; have HR5 := hide hr3; have HS5 := hide hs3; have HBX5 := hide (HX3.out _ _ hs3 HBX4.out); have k0 : w5.cell? ⟨w.heap.size, 2, none⟩ = some (.int .u64 (t : Int)) := HBX5.out.2 2 (by simp); clear hr3 hs3 hs3d))
  have HB6 := hide (HB3.out _ _ HS5.out HB5.out)
  have HRES5 := hide (HY3.out _ _ HS5.out HRES4.out)
  clear HBX4 HRES4 HB5 HS5 HR4 c2 k0 s16 HBX5
  go_wp2_with fail
  refine (HCR.out _ HR5.out (HT.out.below HB6.out)).mono ?_
  rintro e w5' ⟨rfl, rfl⟩
  go_wp2_with fail
  refine (HP4.out _ HR5.out).mono ?_
  rintro e w6 ⟨rfl, hr6, hs6⟩
  have HB7 := hide (HB3.out _ _ hs6 HB6.out)
  have hres6 := HY3.out _ _ hs6 HRES5.out
  have hld := load512 hr6 HL4.out
  clear HRES5 HB6 HR5 s0 s24
  go_wp2_with fail
  refine wp_load_row 56 (.tmp 3) rfl g rfl 56 _ (0, 0) _ hr6 under512 rfl (by rw [size512]; simp [u8s_length, HL4.out]) ?_
  obtain ⟨w7, hst, hr7, hs7⟩ := store512 hres6 (List.length_replicate ..) HL4.out
  have HB8 : Hid (Below w.heap.size w w7) := hs7.below HB7.out (by omega)
  rw [HFIN.out] at hr7 hst
  have hLA : (u8s (mpageN p r t)).toArray.size = 512 := by rw [← HFIN.out]; simp [u8s_length, HL4.out]
  rw [HFIN.out]
  have HR7 := hide hr7
  have HL7 := hide hLA
  clear hr6 hld hr7 hs7 hres6
  generalize (u8s (mpageN p r t)).toArray = CS at *
  go_wp2_with fail
  refine bodyPost_ret (results_cell_row rfl _ _ (w.heap.size + 1) 56 _ (0, 0) _ rfl HR7.out under512 rfl (by rw [size512, ← HFIN.out]; simp [u8s_length, HL4.out])) rfl ⟨rfl, HB8.out⟩

/-- The bytes of a meta that may be. -/
theorem bytesOf_any (m : Mt) (w : World) (hm : MayM m) (hx : m.txid < 18446744073709551616) (hT : Tab w) :
    Calls Tryd.prog 30 #[.agg m.cells.toArray] w fun e w' => e = .returned (.agg (u8s (mpage m)).toArray) ∧ Below w.heap.size w w' := by
  obtain ⟨p, r, t⟩ := m
  obtain ⟨⟨hp1, hp2⟩, hr⟩ := hm
  simp only at hp1 hp2 hr hx
  obtain ⟨p, rfl⟩ := Int.eq_ofNat_of_zero_le (show 0 ≤ p by omega)
  obtain ⟨r, rfl⟩ := Int.eq_ofNat_of_zero_le (show 0 ≤ r by omega)
  exact bytesOf_nat p r t w (by omega) (by omega) hx hT

end Go.Proofs.YtpeobpmooledaaaDoor.M

namespace Go.Proofs.YtpeobpmooledaaaDoor.M
open Go.RowKit

theorem set_three {w : World} {b : Nat} {t : TypeId} {v0 v1 v2 u0 u1 u2 : Value} (h : w.heap[b]? = some (.cells #[v0, v1, v2] t (0, 0))) :
    (((w.setCell ⟨b, 0, none⟩ u0).setCell ⟨b, 1, none⟩ u1).setCell ⟨b, 2, none⟩ u2).heap[b]? = some (.cells #[u0, u1, u2] t (0, 0)) := by
  rw [heap_setCell_same _ b 2 _ t _ (heap_setCell_same _ b 1 _ t _ (heap_setCell_same w b 0 _ t _ h))]; rfl
theorem below_three {w0 w : World} {b : Nat} {u0 u1 u2 : Value} (h : Below w0.heap.size w0 w) (hb : w0.heap.size ≤ b) : Below w0.heap.size w0 (((w.setCell ⟨b, 0, none⟩ u0).setCell ⟨b, 1, none⟩ u1).setCell ⟨b, 2, none⟩ u2) :=
  ((h.setCell hb _).setCell hb _).setCell hb _
theorem box512 (w : World) (l : List UInt8) : RowT 56 (w.alloc (.cells (u8s l).toArray 56)) w.heap.size l := rowT_new _ _ _

end Go.Proofs.YtpeobpmooledaaaDoor.M
