import Derived.Test.YtoedmapcnalhjaaDoorBox
import Derived.Deep.RegionHeld3
namespace Go.Proofs.YtoedmapcnalhjaaDoor
open Go.RowKit

theorem crc_a' : crcV [97] = 3251651376 := by decide
theorem pow_mul_xor' (n a b : Nat) : 2 ^ n * (a ^^^ b) = (2 ^ n * a) ^^^ (2 ^ n * b) := by
  have := Nat.shiftLeft_xor_distrib (a := a) (b := b) (i := n)
  simpa [Nat.shiftLeft_eq, Nat.mul_comm] using this
def x2 (a b : List UInt8) : List UInt8 := List.zipWith (fun p q => p ^^^ q) a b
theorem x2_len (a b : List UInt8) (h : a.length = b.length) : (x2 a b).length = a.length := by simp [x2]; omega
theorem x2_get (a b : List UInt8) (k : Nat) (ha : k < a.length) (hb : k < b.length) (h : k < (x2 a b).length) : (x2 a b)[k] = a[k] ^^^ b[k] := by simp [x2]
theorem leNat_x2 (a : List UInt8) : ∀ b : List UInt8, a.length = b.length → leNat (x2 a b) = leNat a ^^^ leNat b := by
  induction a with
  | nil => intro b h; cases b with
    | nil => rfl
    | cons c r => simp at h
  | cons c r ih => intro b h; cases b with
    | nil => simp at h
    | cons d q =>
      have hr := ih q (by simpa using h)
      show (c ^^^ d).toNat ^^^ 2 ^ 8 * leNat (x2 r q) = (c.toNat ^^^ 2 ^ 8 * leNat r) ^^^ (d.toNat ^^^ 2 ^ 8 * leNat q)
      rw [hr, UInt8.toNat_xor, pow_mul_xor', Nat.xor_assoc, Nat.xor_assoc]
      congr 1
      rw [← Nat.xor_assoc, ← Nat.xor_assoc, Nat.xor_comm d.toNat]
theorem nt_eq (x : Nat) (h : x < 4294967296) : nt x = 4294967295 ^^^ x := (nt_xor x h).symm
theorem xor3 (M a b c : Nat) : M ^^^ ((a ^^^ b) ^^^ c) = ((M ^^^ a) ^^^ (M ^^^ b)) ^^^ (M ^^^ c) := by
  apply Nat.eq_of_testBit_eq
  intro i
  simp only [Nat.testBit_xor]
  cases M.testBit i <;> cases a.testBit i <;> cases b.testBit i <;> cases c.testBit i <;> rfl
theorem like_sums (a b c : List UInt8) (hb : a.length = b.length) (hc : a.length = c.length) : crcV (x2 (x2 a b) c) = (crcV a ^^^ crcV b) ^^^ crcV c := by
  have hl : (x2 a b).length = a.length := x2_len a b hb
  have hl2 : (x2 (x2 a b) c).length = a.length := by rw [x2_len _ _ (by omega), hl]
  have hreg : crcReg (nt 0) (x2 (x2 a b) c) = (crcReg (nt 0) a ^^^ crcReg (nt 0) b) ^^^ crcReg (nt 0) c := by
    rw [crcReg_le, crcReg_le, crcReg_le, crcReg_le, hl2, ← hb, ← hc, leNat_x2 _ _ (by omega), leNat_x2 _ _ hb, xor3, bsteps_xor, bsteps_xor]
  unfold crcV
  have ha' := crcReg_lt a _ (nt_lt 0)
  have hb' := crcReg_lt b _ (nt_lt 0)
  have hc' := crcReg_lt c _ (nt_lt 0)
  have hx' := crcReg_lt (x2 (x2 a b) c) _ (nt_lt 0)
  rw [nt_eq _ hx', nt_eq _ ha', nt_eq _ hb', nt_eq _ hc', hreg, xor3]
theorem crcV_lt (l : List UInt8) : crcV l < 4294967296 := nt_lt _
theorem xor_u8c (a b : UInt8) : bits BinOp.xor IntKind.u8 (a.toNat : Int) (b.toNat : Int) = ((a ^^^ b).toNat : Int) := by
  rw [u8_xor_nat a.toNat b.toNat (UInt8.toNat_lt a) (UInt8.toNat_lt b), UInt8.toNat_xor]
theorem ext_data (s : ByteArray) (n : Nat) : (s.extract 0 n).data.toList = s.data.toList.take n := by
  simp [ByteArray.data_extract]
theorem ext_size (s : ByteArray) (n : Nat) (h : n ≤ s.size) : (s.extract 0 n).size = n := by
  simp [ByteArray.size_extract, Nat.min_eq_left h]

set_option maxHeartbeats 1000000 in
theorem like_any (A B C : ByteArray) (w : World) (ha : A.size ≤ 140737488351232) (_hb : B.size ≤ 140737488351232) (_hc : C.size ≤ 140737488351232) (ht : Tab w) :
    Calls Tryd.prog 4 #[.agg #[.string A, .string B, .string C]] w fun e w' => e = .returned (.bool true) ∧ Below w.heap.size w w' := by
  obtain ⟨n, hn⟩ : ∃ n : Nat, n = min A.size (min B.size C.size) := ⟨_, rfl⟩
  have hnA : n ≤ A.size := by omega
  have hnB : n ≤ B.size := by omega
  have hnC : n ≤ C.size := by omega
  have hmin : ∀ (ts : Array TypeId) (t : TypeId) (w : World), (Builtin.min_ ts t #[.int .i64 (A.size : Int), .int .i64 (B.size : Int), .int .i64 (C.size : Int)]).run Tryd.prog w = .ok (.int .i64 (n : Int)) w := by
    intro ts t w
    rw [run_min_int3]
    have : (if (C.size : Int) < (if (B.size : Int) < (A.size : Int) then (B.size : Int) else (A.size : Int)) then (C.size : Int) else (if (B.size : Int) < (A.size : Int) then (B.size : Int) else (A.size : Int))) = (n : Int) := by
      split <;> split <;> omega
    rw [this]
  clear hn
  obtain ⟨i0, hi, hz0, hz1, hz2⟩ := info_parts Tryd.info5
  go_enter Tryd.func4, Tryd.ntmps4
  go_wp2_with fail
  have hbx := boxed_new w #[.string A, .string B, .string C] 31
  have hb0 := below_new w (.cells #[.string A, .string B, .string C] 31)
  generalize w.alloc (.cells #[.string A, .string B, .string C] 31) = W0 at *
  have ht0 : Tab W0 := ht.below hb0
  clear ht
  refine (bytes_any _ _ (by decide)).mono ?_
  rintro e w1 ⟨v1, rfl, hown1, hb1⟩
  have r1 := rd_of_owns hown1
  have ht1 := ht0.below hb1
  have hx1 := hbx.below hb1
  have hb01 := Below.next hb0 hb1
  clear hown1 ht0 hbx hb0 hb1
  go_wp2_with fail
  refine (crc_rd _ _ _ (by decide) r1 ht1).mono ?_
  rintro e w1' ⟨rfl, rfl⟩
  have e1 : ((crcV (⟨#[97]⟩ : ByteArray).data.toList : Nat) : Int) = 3251651376 := congrArg Nat.cast crc_a'
  rw [e1]
  clear e1 r1
  have c0 : w1.cell? ⟨w.heap.size, 0, none⟩ = some (.string A) := hx1.2 0 (by simp)
  have c1 : w1.cell? ⟨w.heap.size, 1, none⟩ = some (.string B) := hx1.2 1 (by simp)
  have c2 : w1.cell? ⟨w.heap.size, 2, none⟩ = some (.string C) := hx1.2 2 (by simp)
  go_wp2_with fail
  obtain ⟨X, hX⟩ : ∃ X : List UInt8, X = x2 (x2 (A.data.toList.take n) (B.data.toList.take n)) (C.data.toList.take n) := ⟨_, rfl⟩
  have lA : (A.data.toList.take n).length = n := by simp; omega
  have lB : (B.data.toList.take n).length = n := by simp; omega
  have lC : (C.data.toList.take n).length = n := by simp; omega
  have lX : X.length = n := by rw [hX, x2_len _ _ (by rw [x2_len _ _ (by omega)]; omega), x2_len _ _ (by omega)]; exact lA
  have HX : Hid (X = x2 (x2 (A.data.toList.take n) (B.data.toList.take n)) (C.data.toList.take n)) := hX
  clear hX c0 c1 c2
  go_loopw [5, 6] (fun v i wr => ∃ k : Nat, k ≤ n ∧ i = .int .i64 k ∧ wr.ownsRow w1.heap.size 5 1 v k (u8s (X.take k)) ∧ Below w1.heap.size w1 wr) (fun _ i _ => n - (intOf i).toNat)
  case atStart => exact ⟨0, Nat.zero_le _, rfl, World.ownsRow_nil _ _ _ _, Below.refl _ _⟩
  case round =>
    obtain ⟨k, hk, rfl, hown, hnx⟩ := hrel
    by_cases hlt : k < n
    · have d0 : wr.cell? ⟨w.heap.size, 0, none⟩ = some (.string A) := (hx1.below hnx).2 0 (by simp)
      have d1 : wr.cell? ⟨w.heap.size, 1, none⟩ = some (.string B) := (hx1.below hnx).2 1 (by simp)
      have d2 : wr.cell? ⟨w.heap.size, 2, none⟩ = some (.string C) := (hx1.below hnx).2 2 (by simp)
      have j0 : (0 : Int) ≤ (k : Int) := Int.natCast_nonneg _
      have j1 : (k : Int) < (A.size : Int) := by omega
      have j2 : (k : Int) < (B.size : Int) := by omega
      have j3 : (k : Int) < (C.size : Int) := by omega
      have kA : k < A.size := by omega
      have kB : k < B.size := by omega
      have kC : k < C.size := by omega
      obtain ⟨y, hy⟩ : ∃ y : UInt8, y = A[k] ^^^ B[k] := ⟨_, rfl⟩
      obtain ⟨x, hx⟩ : ∃ x : UInt8, x = y ^^^ C[k] := ⟨_, rfl⟩
      have e1 : bits BinOp.xor IntKind.u8 (A[k].toNat : Int) (B[k].toNat : Int) = (y.toNat : Int) := by rw [hy]; exact xor_u8c A[k] B[k]
      have e2 : bits BinOp.xor IntKind.u8 (y.toNat : Int) (C[k].toNat : Int) = (x.toNat : Int) := by rw [hx]; exact xor_u8c y C[k]
      have HS : Hid (X.take (k + 1) = X.take k ++ [x]) := by
        show X.take (k + 1) = _
        have hkX : k < X.length := by omega
        rw [take_next X k hkX]
        congr 2
        have h1 : ∀ h, X[k]'h = (A[k] ^^^ B[k]) ^^^ C[k] := by
          rw [HX.out]
          intro h
          rw [x2_get _ _ k (by rw [x2_len _ _ (by omega)]; omega) (by omega), x2_get _ _ k (by omega) (by omega)]
          simp only [List.getElem_take]
          rfl
        rw [h1 hkX, hx, hy]
      clear hx hy
      go_wp2_with fail
      go_region_held3 (fun w' => w'.cell? ⟨w.heap.size, 0, none⟩ = some (.string A) ∧ w'.cell? ⟨w.heap.size, 1, none⟩ = some (.string B) ∧ w'.cell? ⟨w.heap.size, 2, none⟩ = some (.string C)) (go_keep)
        ((refine step_append_lies _ (by rfl) _ _ _ (by rfl) w1.heap.size 5 i0 _ 1 1 Tryd.underlying26 hi hz0 hz1 hz2 rfl (by omega) _ k _ (by rfl) ((hown.alloc _).drew) ⟨wr.heap.size, 0, none⟩ 1 1 [.int .u8 (x.toNat : Int)] (by rfl) (by rfl) (World.news_of_block (cs := #[.int .u8 (x.toNat : Int)]) (t := 5) (fr := (0, 0)) (heap_alloc_new wr _)) (by simp [Value.oneCell']) (by omega) (by unfold maxLen; omega) (by omega) (by have := hnx.size; simp; omega) (wr.heap.size + 1) (by simp) ?_; intro g cap w2 hown1 hgrow hat hlg; have hb2 : Below w1.heap.size w1 w2 := ((hnx.alloc (by have := hnx.size; omega) _).drew).grown hgrow (by have := hnx.size; simp; omega) (fun j hj => (hown.lt j hj).1); have k0 : w2.cell? ⟨w.heap.size, 0, none⟩ = some (.string A) := (hx1.below hb2).2 0 (by simp); have k1 : w2.cell? ⟨w.heap.size, 1, none⟩ = some (.string B) := (hx1.below hb2).2 1 (by simp); have k2 : w2.cell? ⟨w.heap.size, 2, none⟩ = some (.string C) := (hx1.below hb2).2 2 (by simp)))
      all_goals
        have hown2 : w2.ownsRow w1.heap.size 5 1 (.slice (some ⟨g, 0, none⟩) (k + 1) cap) (k + 1) (u8s (X.take (k + 1))) := by
          rw [HS.out, u8s_append]; exact hown1
        clear hown1 hgrow hown hat hlg hnx
        go_wp2
        go_roundw
        case rel => exact ⟨k + 1, by omega, by go_num, hown2, hb2⟩
        case measure => simp [intOf]; omega
    · have hke : k = n := by omega
      subst hke
      have hownX := hown
      rw [List.take_of_length_le (by omega)] at hownX
      have rX := rd_of_owns hownX
      have hxr := hx1.below hnx
      have htr := ht1.below hnx
      have hbr := Below.next hb01 hnx
      clear hown hownX hnx hx1 ht1 hb01
      have HL : Hid (crcV X = (crcV (A.data.toList.take k) ^^^ crcV (B.data.toList.take k)) ^^^ crcV (C.data.toList.take k)) := by
        show crcV X = _
        rw [HX.out]; exact like_sums _ _ _ (by omega) (by omega)
      have d0 : wr.cell? ⟨w.heap.size, 0, none⟩ = some (.string A) := hxr.2 0 (by simp)
      have HA : Hid (crcV (A.extract 0 k).data.toList = crcV (A.data.toList.take k)) := by show crcV _ = _; rw [ext_data]
      have HB : Hid (crcV (B.extract 0 k).data.toList = crcV (B.data.toList.take k)) := by show crcV _ = _; rw [ext_data]
      have HC : Hid (crcV (C.extract 0 k).data.toList = crcV (C.data.toList.take k)) := by show crcV _ = _; rw [ext_data]
      have zA := ext_size A k hnA
      have zB := ext_size B k hnB
      have zC := ext_size C k hnC
      have HZ : Hid ((A.extract 0 k).size ≤ 140737488355328 ∧ (B.extract 0 k).size ≤ 140737488355328 ∧ (C.extract 0 k).size ≤ 140737488355328) := ⟨by omega, by omega, by omega⟩
      have HZL : Hid ((A.extract 0 k).data.toList.length ≤ 140737488355328 ∧ (B.extract 0 k).data.toList.length ≤ 140737488355328 ∧ (C.extract 0 k).data.toList.length ≤ 140737488355328) := by
        refine ⟨?_, ?_, ?_⟩ <;> rw [bsize] <;> omega
      have hlX : X.length ≤ 140737488355328 := by omega
      clear zA zB zC lA lB lC lX hmin
      go_wp2_with fail
      refine (bytes_any (A.extract 0 k) _ HZ.out.1).mono ?_
      rintro e w2 ⟨v2, rfl, hown2, hb2⟩
      have r2 := rd_of_owns hown2
      have ht2 := htr.below hb2
      have hx2 := hxr.below hb2
      have rX2 := rX.below hb2
      have hb02 := Below.next hbr hb2
      clear hown2 hb2 htr hxr rX hbr d0
      go_wp2_with fail
      refine (crc_rd _ _ _ HZL.out.1 r2 ht2).mono ?_
      rintro e w2' ⟨rfl, rfl⟩
      rw [HA.out]
      clear r2
      have d1 : w2.cell? ⟨w.heap.size, 1, none⟩ = some (.string B) := hx2.2 1 (by simp)
      go_wp2_with fail
      refine (bytes_any (B.extract 0 k) _ HZ.out.2.1).mono ?_
      rintro e w3 ⟨v3, rfl, hown3, hb3⟩
      have r3 := rd_of_owns hown3
      have ht3 := ht2.below hb3
      have hx3 := hx2.below hb3
      have rX3 := rX2.below hb3
      have hb03 := Below.next hb02 hb3
      clear hown3 hb3 ht2 hx2 rX2 hb02 d1
      go_wp2_with fail
      refine (crc_rd _ _ _ HZL.out.2.1 r3 ht3).mono ?_
      rintro e w3' ⟨rfl, rfl⟩
      rw [HB.out]
      clear r3
      have d2 : w3.cell? ⟨w.heap.size, 2, none⟩ = some (.string C) := hx3.2 2 (by simp)
      go_wp2_with fail
      refine (bytes_any (C.extract 0 k) _ HZ.out.2.2).mono ?_
      rintro e w4 ⟨v4, rfl, hown4, hb4⟩
      have r4 := rd_of_owns hown4
      have ht4 := ht3.below hb4
      have rX4 := rX3.below hb4
      have hb04 := Below.next hb03 hb4
      clear hown4 hb4 ht3 hx3 rX3 hb03 d2
      go_wp2_with fail
      refine (crc_rd _ _ _ HZL.out.2.2 r4 ht4).mono ?_
      rintro e w4' ⟨rfl, rfl⟩
      rw [HC.out]
      clear r4
      have lt1 := crcV_lt (A.data.toList.take k)
      have lt2 := crcV_lt (B.data.toList.take k)
      have lt3 := crcV_lt (C.data.toList.take k)
      generalize crcV (A.data.toList.take k) = xa at *
      generalize crcV (B.data.toList.take k) = xb at *
      generalize crcV (C.data.toList.take k) = xc at *
      obtain ⟨xab, hxab⟩ : ∃ xab : Nat, xab = xa ^^^ xb := ⟨_, rfl⟩
      obtain ⟨xabc, hxabc⟩ : ∃ xabc : Nat, xabc = xab ^^^ xc := ⟨_, rfl⟩
      have hxab' : xab < 4294967296 := by rw [hxab]; exact Nat.xor_lt_two_pow (n := 32) lt1 lt2
      have e1 : bits BinOp.xor IntKind.u32 (xa : Int) (xb : Int) = (xab : Int) := by rw [hxab]; exact u32_xor_nat xa xb lt1 lt2
      have e2 : bits BinOp.xor IntKind.u32 (xab : Int) (xc : Int) = (xabc : Int) := by rw [hxabc]; exact u32_xor_nat xab xc hxab' lt3
      have HF : Hid (crcV X = xabc) := by show crcV X = _; rw [HL.out, hxabc, hxab]
      clear hxab hxabc HL
      go_wp2_with fail
      refine (crc_rd _ X _ hlX rX4 ht4).mono ?_
      rintro e w5 ⟨rfl, rfl⟩
      rw [HF.out]
      go_wp2_with fail
      go_ret
      exact ⟨rfl, hb04⟩

end Go.Proofs.YtoedmapcnalhjaaDoor
