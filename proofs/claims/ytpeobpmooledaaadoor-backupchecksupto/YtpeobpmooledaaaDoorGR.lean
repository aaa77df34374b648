import Derived.Test.YtpeobpmooledaaaDoorSEachW
import Derived.Test.YtpeobpmooledaaaDoorSMay
import Derived.Deep.RegionLaw
namespace Go.Proofs.YtpeobpmooledaaaDoor.S
open Go.RowKit

set_option maxHeartbeats 400000 in
theorem writeHead_any (g : Nat) (a b c d e : Nat) (l : List UInt8) (w : World) (hl : l.length = 4096) (hL : Lay w) (hr : RowB w g l) (hf : HeadFits (hd5 a b c d e)) :
    Calls Tryd.prog 64 #[.slice (some ⟨g, 0, none⟩) 4096 4096, .agg #[.int .u64 (a : Int), .int .u64 (b : Int), .int .u64 (c : Int), .int .u64 (d : Int), .int .u64 (e : Int)]] w fun x w' => x = .returned (.tuple #[]) ∧ RowB w' g (headTo l (hd5 a b c d e) 5) ∧ Sole g w w' := by
  have hlt := hr.lt
  have hbx := boxed_new w #[.int .u64 (a : Int), .int .u64 (b : Int), .int .u64 (c : Int), .int .u64 (d : Int), .int .u64 (e : Int)] 83
  have hbn := below_new w (.cells #[.int .u64 (a : Int), .int .u64 (b : Int), .int .u64 (c : Int), .int .u64 (d : Int), .int .u64 (e : Int)] 83)
  have C := eachW_any g w.heap.size (hd5 a b c d e) l (w.alloc (.cells #[.int .u64 (a : Int), .int .u64 (b : Int), .int .u64 (c : Int), .int .u64 (d : Int), .int .u64 (e : Int)] 83)) hl (by omega) (hL.below hbn) (hr.below hbn) hf (fun k hk => by
    obtain rfl | rfl | rfl | rfl | rfl : k = 0 ∨ k = 1 ∨ k = 2 ∨ k = 3 ∨ k = 4 := by omega
    · exact hbx.2 0 (by simp)
    · exact hbx.2 1 (by simp)
    · exact hbx.2 2 (by simp)
    · exact hbx.2 3 (by simp)
    · exact hbx.2 4 (by simp))
  have HS0 : Hid (Sole g w (w.alloc (.cells #[.int .u64 (a : Int), .int .u64 (b : Int), .int .u64 (c : Int), .int .u64 (d : Int), .int .u64 (e : Int)] 83))) := Sole.of_below hbn
  have HC : Hid (Calls Tryd.prog 60 #[.slice (some ⟨g, 0, none⟩) 4096 4096, .func (.func 65) #[] #[.pointer (some ⟨w.heap.size, 0, none⟩)]] (w.alloc (.cells #[.int .u64 (a : Int), .int .u64 (b : Int), .int .u64 (c : Int), .int .u64 (d : Int), .int .u64 (e : Int)] 83)) fun x w' => x = .returned (.tuple #[]) ∧ RowB w' g (headTo l (hd5 a b c d e) 5) ∧ Sole g (w.alloc (.cells #[.int .u64 (a : Int), .int .u64 (b : Int), .int .u64 (c : Int), .int .u64 (d : Int), .int .u64 (e : Int)] 83)) w') := C
  clear C hbx hbn hL hr hf hl hlt
  go_enter Tryd.func64, Tryd.ntmps64
  go_wp2_with (go_at_call 60; refine HC.out.mono ?_; rintro x w1 ⟨rfl, hr1, hs1⟩; have HR1 : Hid (RowB w1 g (headTo l (hd5 a b c d e) 5)) := hr1; have HS1 : Hid (Sole g w w1) := HS0.out.trans hs1; clear hr1 hs1)
  go_end0
  exact ⟨rfl, HR1.out, HS1.out⟩

end Go.Proofs.YtpeobpmooledaaaDoor.S

namespace Go.Proofs.YtpeobpmooledaaaDoor.S
open Go.RowKit

theorem step_copy_body {ops : Array Oper} {o : Oper} {a : Act} {w : World} {K : Act → World → Prop} {Q : Exit → Act → World → Prop} {E : Prop} (hgd : o.guard = none) (d x : Operand)
    (ho : o.op = .call { callee := .builtin .copy, args := #[d, x], argTypes := #[41, 9] }) (hty : o.type = 3) (g off n cap : Nat) (l : List UInt8) (s : ByteArray)
    (hd : a.eval d = .slice (some ⟨g, off, none⟩) n cap) (hx : a.eval x = .string s) (hr : RowB w g l) (hn : n = s.size) (hfit : off + s.size ≤ l.length)
    (h : ∀ w2, Hid (RowB w2 g (splice l off s.data.toList)) → Hid (Sole g w w2) → K (a.put o.dst (goInt s.size)) w2) :
    if Region.wanted o (yielded ops a.tmps) = true then Oper.wp Tryd.prog o a w K Q else E := by
  have hw : Region.wanted o (yielded ops a.tmps) = true := by simp [Region.wanted, hgd]
  rw [if_pos hw]
  obtain ⟨w2, hrun, h1, h2⟩ := copy_body (cap := cap) s hr hn hfit
  unfold Oper.wp
  simp [execOp, ho, resolve, invoke, builtin, hd, hx, hty, hrun, Result.andThen]
  exact h w2 h1 h2
theorem rd_row {w : World} {g n : Nat} {l : List UInt8} (h : RowB w g l) (hn : l.length = n) (hm : n ≤ maxLen) : Rd w (.slice (some ⟨g, 0, none⟩) n n) l := by
  subst hn
  exact .inr ⟨g, l.length, rfl, Nat.le_refl _, hm, h.lt, h.cell⟩
theorem made_u8 (n : Nat) : (madeCells #[Value.int .u8 0] n).toList = u8s (List.replicate n 0) := by
  rw [u8s, List.map_replicate]
  simp [madeCells, Nat.mod_one, List.map_const']
theorem rowB_of {w : World} {base g n : Nat} {l : List UInt8} (h : w.ownsRow base 5 1 (.slice (some ⟨g, 0, none⟩) n n) n (u8s l)) : RowB w g l := by
  rcases h.2 with ⟨h', _⟩ | ⟨g', cap', cur, h', hb, hg, hn, hc, hs, ht⟩
  · cases h'
  · cases h'
    unfold RowB
    rw [hg, ← ht, List.take_of_length_le (by simpa using Nat.le_of_eq hs)]
theorem body_in (b : List UInt8) (hb : b.length = 4072) : splice (List.replicate 4096 0) 24 b = List.replicate 24 0 ++ b := by
  unfold splice
  rw [List.take_replicate, List.drop_replicate, hb, show 4096 - (24 + 4072) = 0 from rfl, List.replicate_zero, List.append_nil, show min 24 4096 = 24 from rfl]
theorem fits_page {k c i t e : Nat} (hk : k < 256) (hc : c ≤ 65535) (hi : i < 1048576) (ht : t < 18446744073709551616) (he : e < 4294967296) : HeadFits (hd5 k c i t e) := by
  intro j hj
  obtain rfl | rfl | rfl | rfl | rfl : j = 0 ∨ j = 1 ∨ j = 2 ∨ j = 3 ∨ j = 4 := by omega
  · show k < 2 ^ 8; omega
  · show c < 2 ^ 16; omega
  · show i < 2 ^ 32; omega
  · show t < 2 ^ 64; omega
  · show e < 2 ^ 32; omega

set_option maxHeartbeats 2000000 in
theorem pageOf_nat (k i t c : Nat) (b : ByteArray) (w : World) (hk : k < 256) (hc : c ≤ 65535) (hi : i < 1048576) (htx : t < 18446744073709551616) (hb : b.size = 4072) (hL : Lay w) (ht : Tab w) :
    Calls Tryd.prog 54 #[.agg #[.int .i64 (k : Int), .int .i64 (i : Int), .int .u64 (t : Int), .int .i64 (c : Int), .string b]] w fun e w' => ∃ g, e = .returned (.slice (some ⟨g, 0, none⟩) 4096 4096) ∧
      RowB w' g (bare k c i t (crcV (bare k c i t 0 b.data.toList)) b.data.toList) ∧ w.heap.size ≤ g ∧ Below w.heap.size w w' := by
  obtain ⟨i0, hinf, hz0, hz1, hz2⟩ := info_parts Tryd.info5
  have HB : Hid (b.size = 4072) := hb
  have HL : Hid (Lay w) := hL
  have HT : Hid (Tab w) := ht
  have k64 : (k : Int) % 18446744073709551616 = (k : Int) := by omega
  have c64 : (c : Int) % 18446744073709551616 = (c : Int) := by omega
  have i64 : (i : Int) % 18446744073709551616 = (i : Int) := by omega
  have HBX : Hid (Boxed w.heap.size [.int .i64 (k : Int), .int .i64 (i : Int), .int .u64 (t : Int), .int .i64 (c : Int), .string b] (w.alloc (.cells #[.int .i64 (k : Int), .int .i64 (i : Int), .int .u64 (t : Int), .int .i64 (c : Int), .string b] 70))) := boxed_new w _ _
  have HB0 : Hid (Below w.heap.size w (w.alloc (.cells #[.int .i64 (k : Int), .int .i64 (i : Int), .int .u64 (t : Int), .int .i64 (c : Int), .string b] 70))) := below_new w _
  clear hb hL ht
  go_enter Tryd.func54, Tryd.ntmps54
  go_wp2_with (at_make; refine wpList_make_full _ rfl _ _ 41 rfl 0 5 i0 (.int .u8 0) 1 Tryd.underlying41 hinf hz0 hz1 .i64 .i64 _ _ 4096 rfl rfl rfl rfl ?c1 ?c2 (Nat.zero_le _) ?_)
  case c1 => rw [hz2]; decide
  case c2 => decide
  intro w1 hrow1 hg1
  rw [made_u8] at hrow1
  have hr1 := rowB_of hrow1
  have hb1 : Below (w.alloc (.cells #[.int .i64 (k : Int), .int .i64 (i : Int), .int .u64 (t : Int), .int .i64 (c : Int), .string b] 70)).heap.size (w.alloc (.cells #[.int .i64 (k : Int), .int .i64 (i : Int), .int .u64 (t : Int), .int .i64 (c : Int), .string b] 70)) w1 := ⟨hg1.os, hg1.tape, hg1.output, hg1.size, fun k hk => hg1.block k hk (by simp)⟩
  have HBX1 := HBX.out.below hb1
  have HB1 : Hid (Below w.heap.size w w1) := Below.next HB0.out hb1
  clear hrow1 hb1 hg1 HBX HB0
  obtain ⟨g, hg⟩ : ∃ g, g = w.heap.size + 1 := ⟨_, rfl⟩
  have hr1' : RowB w1 g (List.replicate 4096 0) := by rw [hg]; exact hr1
  rw [← hg]
  have HG : Hid (g = w.heap.size + 1) := hg
  clear hr1 hg
  have x4 : w1.cell? ⟨w.heap.size, 4, none⟩ = some (.string b) := HBX1.2 4 (by simp)
  have HR1 : Hid (RowB w1 g (List.replicate 4096 0)) := hr1'
  have HBX2 : Hid (Boxed w.heap.size [.int .i64 (k : Int), .int .i64 (i : Int), .int .u64 (t : Int), .int .i64 (c : Int), .string b] w1) := HBX1
  clear hr1' HBX1
  go_wp2_with fail
  go_region_law (refine step_copy_body rfl (.tmp 7) (.tmp 9) rfl rfl g 24 4072 4072 (List.replicate 4096 0) b rfl rfl ?_ HB.out.symm ?_ ?_; (exact HR1.out); (rw [List.length_replicate, HB.out]; exact Nat.le_refl _); intro w2 HR2 HS2)
  all_goals
    have hs2 : Sole g w1 w2 := ⟨HS2.out.os, HS2.out.tape, HS2.out.output, HS2.out.size, HS2.out.block⟩
    have hr2 := HR2.out
    rw [body_in _ (by rw [bsize]; exact HB.out)] at hr2
    have HR2' : Hid (RowB w2 g (List.replicate 24 0 ++ b.data.toList)) := hr2
    have hb2 : Below w.heap.size w w2 := hs2.below HB1.out (by have := HG.out; omega)
    have HB2 : Hid (Below w.heap.size w w2) := hb2
    have hgl : w.heap.size < g := by have := HG.out; omega
    have y0 : w2.cell? ⟨w.heap.size, 0, none⟩ = some (.int .i64 (k : Int)) := hs2.cell (HBX2.out.2 0 (by simp)) (by show w.heap.size ≠ g; omega)
    have y1 : w2.cell? ⟨w.heap.size, 1, none⟩ = some (.int .i64 (i : Int)) := hs2.cell (HBX2.out.2 1 (by simp)) (by show w.heap.size ≠ g; omega)
    have y2 : w2.cell? ⟨w.heap.size, 2, none⟩ = some (.int .u64 (t : Int)) := hs2.cell (HBX2.out.2 2 (by simp)) (by show w.heap.size ≠ g; omega)
    have y3 : w2.cell? ⟨w.heap.size, 3, none⟩ = some (.int .i64 (c : Int)) := hs2.cell (HBX2.out.2 3 (by simp)) (by show w.heap.size ≠ g; omega)
    have HGW : Hid (g < w2.heap.size) := hr2.lt
    have HN : Hid (Below w2.heap.size w2 (w2.alloc (.cells #[.int .u64 (k : Int), .int .u64 (c : Int), .int .u64 (i : Int), .int .u64 (t : Int), .int .u64 0] 83))) := below_new w2 _
    have HX : Hid ((w2.alloc (.cells #[.int .u64 (k : Int), .int .u64 (c : Int), .int .u64 (i : Int), .int .u64 (t : Int), .int .u64 0] 83)).heap[w2.heap.size]? = some (.cells #[.int .u64 (k : Int), .int .u64 (c : Int), .int .u64 (i : Int), .int .u64 (t : Int), .int .u64 0] 83 (0, 0))) := heap_alloc_new w2 _
    clear HS2 HR2 hs2 hr2 hb2 x4 HR1 HBX2 HB1
    go_wp2_with fail
    generalize (w2.alloc (.cells #[.int .u64 (k : Int), .int .u64 (c : Int), .int .u64 (i : Int), .int .u64 (t : Int), .int .u64 0] 83)) = w3 at *
    have HB3 : Hid (Below w.heap.size w w3) := HB2.out.trans (HN.out.mono HB2.out.size)
    have hl24 : (List.replicate 24 (0 : UInt8) ++ b.data.toList).length = 4096 := by rw [List.length_append, List.length_replicate, bsize, HB.out]
    have C := writeHead_any g k c i t 0 _ w3 hl24 (HL.out.below HB3.out) (HR2'.out.below HN.out) (fits_page hk hc hi htx (by decide))
    rw [head_first] at C
    have hn23 : w2.heap.size ≠ g := by have := HGW.out; omega
    refine C.mono ?_
    rintro x w4 ⟨rfl, hr4, hs4⟩
    have hx4 : w4.heap[w2.heap.size]? = some (.cells #[.int .u64 (k : Int), .int .u64 (c : Int), .int .u64 (i : Int), .int .u64 (t : Int), .int .u64 0] 83 (0, 0)) := by
      rw [hs4.block _ (by
        rcases Nat.lt_or_ge w2.heap.size w3.heap.size with h' | h'
        · exact h'
        · have := HX.out; rw [Array.getElem?_eq_none h'] at this; cases this) hn23]
      exact HX.out
    have HB4 : Hid (Below w.heap.size w w4) := hs4.below HB3.out (by omega)
    have HR4 : Hid (RowB w4 g (bare k c i t 0 b.data.toList)) := hr4
    have hbl : (bare k c i t 0 b.data.toList).length = 4096 := by rw [bare_len, bsize, HB.out]
    have HCR : Hid (Calls Tryd.prog 19 #[.slice (some ⟨g, 0, none⟩) 4096 4096] w4 fun e w' => e = .returned (.int .u32 ((crcV (bare k c i t 0 b.data.toList) : Nat) : Int)) ∧ w4 = w') :=
      crc_rd _ _ w4 (by rw [hbl]; decide) (rd_row hr4 hbl (by decide)) (HT.out.below HB4.out)
    have hcv : crcV (bare k c i t 0 b.data.toList) < 4294967296 := nt_lt _
    obtain ⟨cv, hcvd⟩ : ∃ cv, cv = crcV (bare k c i t 0 b.data.toList) := ⟨_, rfl⟩
    rw [← hcvd] at hcv
    have HCV : Hid (cv = crcV (bare k c i t 0 b.data.toList)) := hcvd
    have HCR2 : Hid (Calls Tryd.prog 19 #[.slice (some ⟨g, 0, none⟩) 4096 4096] w4 fun e w' => e = .returned (.int .u32 (cv : Int)) ∧ w4 = w') := by
      show Calls _ _ _ _ _
      rw [hcvd]; exact HCR.out
    have cv64 : (cv : Int) % 18446744073709551616 = (cv : Int) := by omega
    have z0 : w4.cell? ⟨w2.heap.size, 0, none⟩ = some (.int .u64 (k : Int)) := by rw [cell_of_row _ _ _ _ _ _ hx4]; rfl
    have z1 : w4.cell? ⟨w2.heap.size, 1, none⟩ = some (.int .u64 (c : Int)) := by rw [cell_of_row _ _ _ _ _ _ hx4]; rfl
    have z2 : w4.cell? ⟨w2.heap.size, 2, none⟩ = some (.int .u64 (i : Int)) := by rw [cell_of_row _ _ _ _ _ _ hx4]; rfl
    have z3 : w4.cell? ⟨w2.heap.size, 3, none⟩ = some (.int .u64 (t : Int)) := by rw [cell_of_row _ _ _ _ _ _ hx4]; rfl
    have z4 : w4.cell? ⟨w2.heap.size, 4, none⟩ = some (.int .u64 0) := by rw [cell_of_row _ _ _ _ _ _ hx4]; rfl
    have fz : w4.frozen? ⟨w2.heap.size, 4, none⟩ = false := frozen_of_row _ _ _ _ _ hx4
    have HW2 : Hid (w.heap.size ≤ w2.heap.size) := HB2.out.size
    clear C HX HN y0 y1 y2 y3 hs4 hr4 hx4 HCR hcvd hl24 HB3 HB2 HR2' HGW
    go_wp2_with (go_at_call 19; refine HCR2.out.mono ?_; rintro e w' ⟨rfl, rfl⟩)
    have HS5 : Hid (Below w.heap.size w (w4.setCell ⟨w2.heap.size, 4, none⟩ (.int .u64 (cv : Int)))) := HB4.out.setCell HW2.out _
    have HR5 : Hid (RowB (w4.setCell ⟨w2.heap.size, 4, none⟩ (.int .u64 (cv : Int))) g (bare k c i t 0 b.data.toList)) := HR4.out.sole (Sole.set w2.heap.size 4 w4 _) (fun e => hn23 e.symm)
    have C := writeHead_any g k c i t cv _ (w4.setCell ⟨w2.heap.size, 4, none⟩ (.int .u64 (cv : Int))) hbl (HL.out.below HS5.out) HR5.out (fits_page hk hc hi htx hcv)
    rw [head_then] at C
    refine C.mono ?_
    rintro x w6 ⟨rfl, hr6, hs6⟩
    have HR6 : Hid (RowB w6 g (bare k c i t cv b.data.toList)) := hr6
    have HB6 : Hid (Below w.heap.size w w6) := hs6.below HS5.out (by omega)
    clear C hr6 hs6 HS5 HR5
    go_wp2_with fail
    go_ret
    refine ⟨g, rfl, ?_, by omega, HB6.out⟩
    rw [← HCV.out]
    exact HR6.out

/-- The page of a sheet that may be. -/
theorem pageOf_any (s : Sh) (w : World) (hm : May s) (hx : s.txid < 18446744073709551616) (hL : Lay w) (ht : Tab w) :
    Calls Tryd.prog 54 #[.agg s.cells.toArray] w fun e w' => ∃ g, e = .returned (.slice (some ⟨g, 0, none⟩) 4096 4096) ∧ RowB w' g (page s) ∧ w.heap.size ≤ g ∧ Below w.heap.size w w' := by
  obtain ⟨k, i, t, c, b⟩ := s
  obtain ⟨hk, ⟨hc1, hc2⟩, ⟨hi1, hi2⟩, hb⟩ := hm
  simp only at hk hc1 hc2 hi1 hi2 hb hx
  obtain ⟨k, rfl⟩ := Int.eq_ofNat_of_zero_le (show 0 ≤ k by omega)
  obtain ⟨c, rfl⟩ := Int.eq_ofNat_of_zero_le hc1
  obtain ⟨i, rfl⟩ := Int.eq_ofNat_of_zero_le (show 0 ≤ i by omega)
  exact pageOf_nat k i t c b w (by omega) (by omega) (by omega) hx hb hL ht

end Go.Proofs.YtpeobpmooledaaaDoor.S
