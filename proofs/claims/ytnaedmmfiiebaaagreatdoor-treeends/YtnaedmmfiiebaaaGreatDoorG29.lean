import Derived.Test.YtnaedmmfiiebaaaGreatDoorG28
import Derived.Deep.RegionLaw
import Derived.Test.YtnaedmmfiiebaaaGreatDoorG26
namespace Go.Proofs.YtnaedmmfiiebaaaGreatDoor.S
open Go.RowKit

set_option maxHeartbeats 400000 in
theorem isID_any (i : Int) (w : World) : Calls Tryz.prog 150 #[.int .i64 i] w fun e w' => e = .returned (.bool (decide (2 ≤ i ∧ i < 1048576))) ∧ w = w' := by
  by_cases h1 : 2 ≤ i
  · by_cases h2 : i < 1048576
    · have e1 : decide (2 ≤ i ∧ i < 1048576) = true := by simp [h1, h2]
      rw [e1]
      go_enter Tryz.func150, Tryz.ntmps150
      go_wp2
      go_ret
      exact ⟨rfl, rfl⟩
    · have e1 : decide (2 ≤ i ∧ i < 1048576) = false := by simp [h2]
      rw [e1]
      go_enter Tryz.func150, Tryz.ntmps150
      go_wp2
      go_ret
      exact ⟨rfl, rfl⟩
  · have e1 : decide (2 ≤ i ∧ i < 1048576) = false := by simp [h1]
    rw [e1]
    go_enter Tryz.func150, Tryz.ntmps150
    go_wp2
    go_ret
    exact ⟨rfl, rfl⟩

set_option maxHeartbeats 1000000 in
theorem mayBe_any (s : Sh) (w : World) (hs : s.body.size ≤ 140737488355328) : Calls Tryz.prog 131 #[.agg s.cells.toArray] w fun e w' => e = .returned (.bool (decide (May s))) ∧ Below w.heap.size w w' := by
  obtain ⟨k, i, t, c, b⟩ := s
  simp only [Sh.cells] at hs ⊢
  have hsz : (b.size : Int) ≤ 140737488355328 := by omega
  have hbel := below_new w (.cells #[.int .i64 k, .int .i64 i, .int .u64 (t : Int), .int .i64 c, .string b] 87)
  have HB : Hid (Below w.heap.size w (w.alloc (.cells #[.int .i64 k, .int .i64 i, .int .u64 (t : Int), .int .i64 c, .string b] 87))) := hbel
  clear hbel
  by_cases hk : k = 66 ∨ k = 76
  · by_cases hc : 0 ≤ c ∧ c ≤ 65535
    · by_cases hi : 2 ≤ i ∧ i < 1048576
      · obtain ⟨hc1, hc2⟩ := hc
        by_cases hb : b.size = 4072
        · have e1 : decide (May ⟨k, i, t, c, b⟩) = true := decide_eq_true ⟨hk, ⟨hc1, hc2⟩, hi, hb⟩
          have hb2 : (b.size : Int) = 4072 := by omega
          have HI := isID_any i
          rw [decide_eq_true hi] at HI
          have HI2 : Hid (∀ w, Calls Tryz.prog 150 #[.int .i64 i] w fun e w' => e = .returned (.bool true) ∧ w = w') := HI
          rw [e1]
          clear e1 hi HI hb
          rcases hk with rfl | rfl
          all_goals
            go_enter Tryz.func131, Tryz.ntmps131
            go_wp2_with (go_at_call 150; refine (HI2.out _).mono ?_; rintro e w' ⟨rfl, rfl⟩)
            go_ret
            exact ⟨rfl, HB.out⟩
        · have e1 : decide (May ⟨k, i, t, c, b⟩) = false := decide_eq_false fun h => hb h.2.2.2
          have hb2 : ((b.size : Int) == 4072) = false := beq_eq_false_iff_ne.2 (by omega)
          have HI := isID_any i
          rw [decide_eq_true hi] at HI
          have HI2 : Hid (∀ w, Calls Tryz.prog 150 #[.int .i64 i] w fun e w' => e = .returned (.bool true) ∧ w = w') := HI
          rw [e1]
          clear e1 hi HI hb
          rcases hk with rfl | rfl
          all_goals
            go_enter Tryz.func131, Tryz.ntmps131
            go_wp2_with (go_at_call 150; refine (HI2.out _).mono ?_; rintro e w' ⟨rfl, rfl⟩)
            go_ret
            exact ⟨rfl, HB.out⟩
      · obtain ⟨hc1, hc2⟩ := hc
        have e1 : decide (May ⟨k, i, t, c, b⟩) = false := decide_eq_false fun h => hi h.2.2.1
        have HI := isID_any i
        rw [decide_eq_false hi] at HI
        have HI2 : Hid (∀ w, Calls Tryz.prog 150 #[.int .i64 i] w fun e w' => e = .returned (.bool false) ∧ w = w') := HI
        rw [e1]
        clear e1 hi HI
        rcases hk with rfl | rfl
        all_goals
          go_enter Tryz.func131, Tryz.ntmps131
          go_wp2_with (go_at_call 150; refine (HI2.out _).mono ?_; rintro e w' ⟨rfl, rfl⟩)
          go_ret
          exact ⟨rfl, HB.out⟩
    · have e1 : decide (May ⟨k, i, t, c, b⟩) = false := decide_eq_false fun h => hc h.2.1
      rw [e1]
      clear e1
      by_cases hc1 : 0 ≤ c
      · have hc2 : ¬ c ≤ 65535 := fun h => hc ⟨hc1, h⟩
        clear hc
        rcases hk with rfl | rfl
        all_goals
          go_enter Tryz.func131, Tryz.ntmps131
          go_wp2_with fail
          go_ret
          exact ⟨rfl, HB.out⟩
      · clear hc
        rcases hk with rfl | rfl
        all_goals
          go_enter Tryz.func131, Tryz.ntmps131
          go_wp2_with fail
          go_ret
          exact ⟨rfl, HB.out⟩
  · have e1 : decide (May ⟨k, i, t, c, b⟩) = false := decide_eq_false fun h => hk h.1
    rw [e1]
    clear e1
    have hk1 : ¬ k = 66 := fun h => hk (.inl h)
    have hk2 : ¬ k = 76 := fun h => hk (.inr h)
    clear hk
    by_cases hc1 : 0 ≤ c
    · by_cases hc2 : c ≤ 65535
      · go_enter Tryz.func131, Tryz.ntmps131
        go_wp2_with fail
        go_ret
        exact ⟨rfl, HB.out⟩
      · go_enter Tryz.func131, Tryz.ntmps131
        go_wp2_with fail
        go_ret
        exact ⟨rfl, HB.out⟩
    · go_enter Tryz.func131, Tryz.ntmps131
      go_wp2_with fail
      go_ret
      exact ⟨rfl, HB.out⟩

end Go.Proofs.YtnaedmmfiiebaaaGreatDoor.S

namespace Go.Proofs.YtnaedmmfiiebaaaGreatDoor.S
open Go.RowKit

set_option maxHeartbeats 400000 in
theorem writeHead_any (g : Nat) (a b c d e : Nat) (l : List UInt8) (w : World) (hl : l.length = 4096) (hL : Lay w) (hr : RowB w g l) (hf : HeadFits (hd5 a b c d e)) :
    Calls Tryz.prog 171 #[.slice (some ⟨g, 0, none⟩) 4096 4096, .agg #[.int .u64 (a : Int), .int .u64 (b : Int), .int .u64 (c : Int), .int .u64 (d : Int), .int .u64 (e : Int)]] w fun x w' => x = .returned (.tuple #[]) ∧ RowB w' g (headTo l (hd5 a b c d e) 5) ∧ Sole g w w' := by
  have hlt := hr.lt
  have hbx := boxed_new w #[.int .u64 (a : Int), .int .u64 (b : Int), .int .u64 (c : Int), .int .u64 (d : Int), .int .u64 (e : Int)] 256
  have hbn := below_new w (.cells #[.int .u64 (a : Int), .int .u64 (b : Int), .int .u64 (c : Int), .int .u64 (d : Int), .int .u64 (e : Int)] 256)
  have C := eachW_any g w.heap.size (hd5 a b c d e) l (w.alloc (.cells #[.int .u64 (a : Int), .int .u64 (b : Int), .int .u64 (c : Int), .int .u64 (d : Int), .int .u64 (e : Int)] 256)) hl (by omega) (hL.below hbn) (hr.below hbn) hf (fun k hk => by
    obtain rfl | rfl | rfl | rfl | rfl : k = 0 ∨ k = 1 ∨ k = 2 ∨ k = 3 ∨ k = 4 := by omega
    · exact hbx.2 0 (by simp)
    · exact hbx.2 1 (by simp)
    · exact hbx.2 2 (by simp)
    · exact hbx.2 3 (by simp)
    · exact hbx.2 4 (by simp))
  have HS0 : Hid (Sole g w (w.alloc (.cells #[.int .u64 (a : Int), .int .u64 (b : Int), .int .u64 (c : Int), .int .u64 (d : Int), .int .u64 (e : Int)] 256))) := Sole.of_below hbn
  have HC : Hid (Calls Tryz.prog 215 #[.slice (some ⟨g, 0, none⟩) 4096 4096, .func (.func 216) #[] #[.pointer (some ⟨w.heap.size, 0, none⟩)]] (w.alloc (.cells #[.int .u64 (a : Int), .int .u64 (b : Int), .int .u64 (c : Int), .int .u64 (d : Int), .int .u64 (e : Int)] 256)) fun x w' => x = .returned (.tuple #[]) ∧ RowB w' g (headTo l (hd5 a b c d e) 5) ∧ Sole g (w.alloc (.cells #[.int .u64 (a : Int), .int .u64 (b : Int), .int .u64 (c : Int), .int .u64 (d : Int), .int .u64 (e : Int)] 256)) w') := C
  clear C hbx hbn hL hr hf hl hlt
  go_enter Tryz.func171, Tryz.ntmps171
  go_wp2_with (go_at_call 215; refine HC.out.mono ?_; rintro x w1 ⟨rfl, hr1, hs1⟩; have HR1 : Hid (RowB w1 g (headTo l (hd5 a b c d e) 5)) := hr1; have HS1 : Hid (Sole g w w1) := HS0.out.trans hs1; clear hr1 hs1)
  go_end0
  exact ⟨rfl, HR1.out, HS1.out⟩

end Go.Proofs.YtnaedmmfiiebaaaGreatDoor.S

namespace Go.Proofs.YtnaedmmfiiebaaaGreatDoor.S
open Go.RowKit

theorem step_copy_body {ops : Array Oper} {o : Oper} {a : Act} {w : World} {K : Act → World → Prop} {Q : Exit → Act → World → Prop} {E : Prop} (hgd : o.guard = none) (d x : Operand)
    (ho : o.op = .call { callee := .builtin .copy, args := #[d, x], argTypes := #[145, 9] }) (hty : o.type = 3) (g off n cap : Nat) (l : List UInt8) (s : ByteArray)
    (hd : a.eval d = .slice (some ⟨g, off, none⟩) n cap) (hx : a.eval x = .string s) (hr : RowB w g l) (hn : n = s.size) (hfit : off + s.size ≤ l.length)
    (h : ∀ w2, Hid (RowB w2 g (splice l off s.data.toList)) → Hid (Sole g w w2) → K (a.put o.dst (goInt s.size)) w2) :
    if Region.wanted o (yielded ops a.tmps) = true then Oper.wp Tryz.prog o a w K Q else E := by
  have hw : Region.wanted o (yielded ops a.tmps) = true := by simp [Region.wanted, hgd]
  rw [if_pos hw]
  obtain ⟨w2, hrun, h1, h2⟩ := copy_body (cap := cap) s hr hn hfit
  unfold Oper.wp
  simp [execOp, ho, resolve, invoke, builtin, hd, hx, hty, hrun, Result.andThen]
  exact h w2 h1 h2
theorem rd_row {w : World} {g n : Nat} {l : List UInt8} (h : RowB w g l) (hn : l.length = n) (hm : n ≤ maxLen) : Rd w (.slice (some ⟨g, 0, none⟩) n n) l := by
  subst hn
  exact .inr ⟨g, l.length, rfl, Nat.le_refl _, hm, h.lt, h.cell⟩
theorem made_u8 (n : Nat) : (madeCells #[Value.int .u8 0] n).toList = u8s (List.replicate n 0) := by
  rw [u8s, List.map_replicate]
  simp [madeCells, Nat.mod_one, List.map_const']
theorem rowB_of {w : World} {base g n : Nat} {l : List UInt8} (h : w.ownsRow base 5 1 (.slice (some ⟨g, 0, none⟩) n n) n (u8s l)) : RowB w g l := by
  rcases h.2 with ⟨h', _⟩ | ⟨g', cap', cur, h', hb, hg, hn, hc, hs, ht⟩
  · cases h'
  · cases h'
    unfold RowB
    rw [hg, ← ht, List.take_of_length_le (by simpa using Nat.le_of_eq hs)]
theorem body_in (b : List UInt8) (hb : b.length = 4072) : splice (List.replicate 4096 0) 24 b = List.replicate 24 0 ++ b := by
  unfold splice
  rw [List.take_replicate, List.drop_replicate, hb, show 4096 - (24 + 4072) = 0 from rfl, List.replicate_zero, List.append_nil, show min 24 4096 = 24 from rfl]
theorem fits_page {k c i t e : Nat} (hk : k < 256) (hc : c ≤ 65535) (hi : i < 1048576) (ht : t < 18446744073709551616) (he : e < 4294967296) : HeadFits (hd5 k c i t e) := by
  intro j hj
  obtain rfl | rfl | rfl | rfl | rfl : j = 0 ∨ j = 1 ∨ j = 2 ∨ j = 3 ∨ j = 4 := by omega
  · show k < 2 ^ 8; omega
  · show c < 2 ^ 16; omega
  · show i < 2 ^ 32; omega
  · show t < 2 ^ 64; omega
  · show e < 2 ^ 32; omega

set_option maxHeartbeats 2000000 in
theorem pageOf_nat (k i t c : Nat) (b : ByteArray) (w : World) (hk : k < 256) (hc : c ≤ 65535) (hi : i < 1048576) (htx : t < 18446744073709551616) (hb : b.size = 4072) (hL : Lay w) (ht : Tab w) :
    Calls Tryz.prog 132 #[.agg #[.int .i64 (k : Int), .int .i64 (i : Int), .int .u64 (t : Int), .int .i64 (c : Int), .string b]] w fun e w' => ∃ g, e = .returned (.slice (some ⟨g, 0, none⟩) 4096 4096) ∧
      RowB w' g (bare k c i t (crcV (bare k c i t 0 b.data.toList)) b.data.toList) ∧ w.heap.size ≤ g ∧ Below w.heap.size w w' := by
  obtain ⟨i0, hinf, hz0, hz1, hz2⟩ := info_parts Tryz.info5
  have HB : Hid (b.size = 4072) := hb
  have HL : Hid (Lay w) := hL
  have HT : Hid (Tab w) := ht
  have k64 : (k : Int) % 18446744073709551616 = (k : Int) := by omega
  have c64 : (c : Int) % 18446744073709551616 = (c : Int) := by omega
  have i64 : (i : Int) % 18446744073709551616 = (i : Int) := by omega
  have HBX : Hid (Boxed w.heap.size [.int .i64 (k : Int), .int .i64 (i : Int), .int .u64 (t : Int), .int .i64 (c : Int), .string b] (w.alloc (.cells #[.int .i64 (k : Int), .int .i64 (i : Int), .int .u64 (t : Int), .int .i64 (c : Int), .string b] 87))) := boxed_new w _ _
  have HB0 : Hid (Below w.heap.size w (w.alloc (.cells #[.int .i64 (k : Int), .int .i64 (i : Int), .int .u64 (t : Int), .int .i64 (c : Int), .string b] 87))) := below_new w _
  clear hb hL ht
  go_enter Tryz.func132, Tryz.ntmps132
  go_wp2_with (at_make; refine wpList_make_full _ rfl _ _ 145 rfl 0 5 i0 (.int .u8 0) 1 Tryz.underlying145 hinf hz0 hz1 .i64 .i64 _ _ 4096 rfl rfl rfl rfl ?c1 ?c2 (Nat.zero_le _) ?_)
  case c1 => rw [hz2]; decide
  case c2 => decide
  intro w1 hrow1 hg1
  rw [made_u8] at hrow1
  have hr1 := rowB_of hrow1
  have hb1 : Below (w.alloc (.cells #[.int .i64 (k : Int), .int .i64 (i : Int), .int .u64 (t : Int), .int .i64 (c : Int), .string b] 87)).heap.size (w.alloc (.cells #[.int .i64 (k : Int), .int .i64 (i : Int), .int .u64 (t : Int), .int .i64 (c : Int), .string b] 87)) w1 := ⟨hg1.os, hg1.tape, hg1.output, hg1.size, fun k hk => hg1.block k hk (by simp)⟩
  have HBX1 := HBX.out.below hb1
  have HB1 : Hid (Below w.heap.size w w1) := Below.next HB0.out hb1
  clear hrow1 hb1 hg1 HBX HB0
  obtain ⟨g, hg⟩ : ∃ g, g = w.heap.size + 1 := ⟨_, rfl⟩
  have hr1' : RowB w1 g (List.replicate 4096 0) := by rw [hg]; exact hr1
  rw [← hg]
  have HG : Hid (g = w.heap.size + 1) := hg
  clear hr1 hg
  have x4 : w1.cell? ⟨w.heap.size, 4, none⟩ = some (.string b) := HBX1.2 4 (by simp)
  have HR1 : Hid (RowB w1 g (List.replicate 4096 0)) := hr1'
  have HBX2 : Hid (Boxed w.heap.size [.int .i64 (k : Int), .int .i64 (i : Int), .int .u64 (t : Int), .int .i64 (c : Int), .string b] w1) := HBX1
  clear hr1' HBX1
  go_wp2_with fail
  go_region_law (refine step_copy_body rfl (.tmp 7) (.tmp 9) rfl rfl g 24 4072 4072 (List.replicate 4096 0) b rfl rfl ?_ HB.out.symm ?_ ?_; (exact HR1.out); (rw [List.length_replicate, HB.out]; exact Nat.le_refl _); intro w2 HR2 HS2)
  all_goals
    have hs2 : Sole g w1 w2 := ⟨HS2.out.os, HS2.out.tape, HS2.out.output, HS2.out.size, HS2.out.block⟩
    have hr2 := HR2.out
    rw [body_in _ (by rw [bsize]; exact HB.out)] at hr2
    have HR2' : Hid (RowB w2 g (List.replicate 24 0 ++ b.data.toList)) := hr2
    have hb2 : Below w.heap.size w w2 := hs2.below HB1.out (by have := HG.out; omega)
    have HB2 : Hid (Below w.heap.size w w2) := hb2
    have hgl : w.heap.size < g := by have := HG.out; omega
    have y0 : w2.cell? ⟨w.heap.size, 0, none⟩ = some (.int .i64 (k : Int)) := hs2.cell (HBX2.out.2 0 (by simp)) (by show w.heap.size ≠ g; omega)
    have y1 : w2.cell? ⟨w.heap.size, 1, none⟩ = some (.int .i64 (i : Int)) := hs2.cell (HBX2.out.2 1 (by simp)) (by show w.heap.size ≠ g; omega)
    have y2 : w2.cell? ⟨w.heap.size, 2, none⟩ = some (.int .u64 (t : Int)) := hs2.cell (HBX2.out.2 2 (by simp)) (by show w.heap.size ≠ g; omega)
    have y3 : w2.cell? ⟨w.heap.size, 3, none⟩ = some (.int .i64 (c : Int)) := hs2.cell (HBX2.out.2 3 (by simp)) (by show w.heap.size ≠ g; omega)
    have HGW : Hid (g < w2.heap.size) := hr2.lt
    have HN : Hid (Below w2.heap.size w2 (w2.alloc (.cells #[.int .u64 (k : Int), .int .u64 (c : Int), .int .u64 (i : Int), .int .u64 (t : Int), .int .u64 0] 256))) := below_new w2 _
    have HX : Hid ((w2.alloc (.cells #[.int .u64 (k : Int), .int .u64 (c : Int), .int .u64 (i : Int), .int .u64 (t : Int), .int .u64 0] 256)).heap[w2.heap.size]? = some (.cells #[.int .u64 (k : Int), .int .u64 (c : Int), .int .u64 (i : Int), .int .u64 (t : Int), .int .u64 0] 256 (0, 0))) := heap_alloc_new w2 _
    clear HS2 HR2 hs2 hr2 hb2 x4 HR1 HBX2 HB1
    go_wp2_with fail
    generalize (w2.alloc (.cells #[.int .u64 (k : Int), .int .u64 (c : Int), .int .u64 (i : Int), .int .u64 (t : Int), .int .u64 0] 256)) = w3 at *
    have HB3 : Hid (Below w.heap.size w w3) := HB2.out.trans (HN.out.mono HB2.out.size)
    have hl24 : (List.replicate 24 (0 : UInt8) ++ b.data.toList).length = 4096 := by rw [List.length_append, List.length_replicate, bsize, HB.out]
    have C := writeHead_any g k c i t 0 _ w3 hl24 (HL.out.below HB3.out) (HR2'.out.below HN.out) (fits_page hk hc hi htx (by decide))
    rw [head_first] at C
    have hn23 : w2.heap.size ≠ g := by have := HGW.out; omega
    refine C.mono ?_
    rintro x w4 ⟨rfl, hr4, hs4⟩
    have hx4 : w4.heap[w2.heap.size]? = some (.cells #[.int .u64 (k : Int), .int .u64 (c : Int), .int .u64 (i : Int), .int .u64 (t : Int), .int .u64 0] 256 (0, 0)) := by
      rw [hs4.block _ (by
        rcases Nat.lt_or_ge w2.heap.size w3.heap.size with h' | h'
        · exact h'
        · have := HX.out; rw [Array.getElem?_eq_none h'] at this; cases this) hn23]
      exact HX.out
    have HB4 : Hid (Below w.heap.size w w4) := hs4.below HB3.out (by omega)
    have HR4 : Hid (RowB w4 g (bare k c i t 0 b.data.toList)) := hr4
    have hbl : (bare k c i t 0 b.data.toList).length = 4096 := by rw [bare_len, bsize, HB.out]
    have HCR : Hid (Calls Tryz.prog 172 #[.slice (some ⟨g, 0, none⟩) 4096 4096] w4 fun e w' => e = .returned (.int .u32 ((crcV (bare k c i t 0 b.data.toList) : Nat) : Int)) ∧ w4 = w') :=
      crc_rd _ _ w4 (by rw [hbl]; decide) (rd_row hr4 hbl (by decide)) (HT.out.below HB4.out)
    have hcv : crcV (bare k c i t 0 b.data.toList) < 4294967296 := nt_lt _
    obtain ⟨cv, hcvd⟩ : ∃ cv, cv = crcV (bare k c i t 0 b.data.toList) := ⟨_, rfl⟩
    rw [← hcvd] at hcv
    have HCV : Hid (cv = crcV (bare k c i t 0 b.data.toList)) := hcvd
    have HCR2 : Hid (Calls Tryz.prog 172 #[.slice (some ⟨g, 0, none⟩) 4096 4096] w4 fun e w' => e = .returned (.int .u32 (cv : Int)) ∧ w4 = w') := by
      show Calls _ _ _ _ _
      rw [hcvd]; exact HCR.out
    have cv64 : (cv : Int) % 18446744073709551616 = (cv : Int) := by omega
    have z0 : w4.cell? ⟨w2.heap.size, 0, none⟩ = some (.int .u64 (k : Int)) := by rw [cell_of_row _ _ _ _ _ _ hx4]; rfl
    have z1 : w4.cell? ⟨w2.heap.size, 1, none⟩ = some (.int .u64 (c : Int)) := by rw [cell_of_row _ _ _ _ _ _ hx4]; rfl
    have z2 : w4.cell? ⟨w2.heap.size, 2, none⟩ = some (.int .u64 (i : Int)) := by rw [cell_of_row _ _ _ _ _ _ hx4]; rfl
    have z3 : w4.cell? ⟨w2.heap.size, 3, none⟩ = some (.int .u64 (t : Int)) := by rw [cell_of_row _ _ _ _ _ _ hx4]; rfl
    have z4 : w4.cell? ⟨w2.heap.size, 4, none⟩ = some (.int .u64 0) := by rw [cell_of_row _ _ _ _ _ _ hx4]; rfl
    have fz : w4.frozen? ⟨w2.heap.size, 4, none⟩ = false := frozen_of_row _ _ _ _ _ hx4
    have HW2 : Hid (w.heap.size ≤ w2.heap.size) := HB2.out.size
    clear C HX HN y0 y1 y2 y3 hs4 hr4 hx4 HCR hcvd hl24 HB3 HB2 HR2' HGW
    go_wp2_with (go_at_call 172; refine HCR2.out.mono ?_; rintro e w' ⟨rfl, rfl⟩)
    have HS5 : Hid (Below w.heap.size w (w4.setCell ⟨w2.heap.size, 4, none⟩ (.int .u64 (cv : Int)))) := HB4.out.setCell HW2.out _
    have HR5 : Hid (RowB (w4.setCell ⟨w2.heap.size, 4, none⟩ (.int .u64 (cv : Int))) g (bare k c i t 0 b.data.toList)) := HR4.out.sole (Sole.set w2.heap.size 4 w4 _) (fun e => hn23 e.symm)
    have C := writeHead_any g k c i t cv _ (w4.setCell ⟨w2.heap.size, 4, none⟩ (.int .u64 (cv : Int))) hbl (HL.out.below HS5.out) HR5.out (fits_page hk hc hi htx hcv)
    rw [head_then] at C
    refine C.mono ?_
    rintro x w6 ⟨rfl, hr6, hs6⟩
    have HR6 : Hid (RowB w6 g (bare k c i t cv b.data.toList)) := hr6
    have HB6 : Hid (Below w.heap.size w w6) := hs6.below HS5.out (by omega)
    clear C hr6 hs6 HS5 HR5
    go_wp2_with fail
    go_ret
    refine ⟨g, rfl, ?_, by omega, HB6.out⟩
    rw [← HCV.out]
    exact HR6.out

/-- The page of a sheet that may be. -/
theorem pageOf_any (s : Sh) (w : World) (hm : May s) (hx : s.txid < 18446744073709551616) (hL : Lay w) (ht : Tab w) :
    Calls Tryz.prog 132 #[.agg s.cells.toArray] w fun e w' => ∃ g, e = .returned (.slice (some ⟨g, 0, none⟩) 4096 4096) ∧ RowB w' g (page s) ∧ w.heap.size ≤ g ∧ Below w.heap.size w w' := by
  obtain ⟨k, i, t, c, b⟩ := s
  obtain ⟨hk, ⟨hc1, hc2⟩, ⟨hi1, hi2⟩, hb⟩ := hm
  simp only at hk hc1 hc2 hi1 hi2 hb hx
  obtain ⟨k, rfl⟩ := Int.eq_ofNat_of_zero_le (show 0 ≤ k by omega)
  obtain ⟨c, rfl⟩ := Int.eq_ofNat_of_zero_le hc1
  obtain ⟨i, rfl⟩ := Int.eq_ofNat_of_zero_le (show 0 ≤ i by omega)
  exact pageOf_nat k i t c b w (by omega) (by omega) (by omega) hx hb hL ht

end Go.Proofs.YtnaedmmfiiebaaaGreatDoor.S

namespace Go.Proofs.YtnaedmmfiiebaaaGreatDoor.S
open Go.RowKit

@[reducible] def shV (k i : Int) (t : Nat) (c : Int) (b : ByteArray) : Value := .agg #[.int .i64 k, .int .i64 i, .int .u64 (t : Int), .int .i64 c, .string b]

set_option maxHeartbeats 1000000 in
theorem seal_ok (s : Sh) (w : World) (hm : May s) (hx : s.txid < 18446744073709551616) (hL : Lay w) (ht : Tab w) :
    Calls Tryz.prog 95 #[.agg s.cells.toArray] w fun e w' => ∃ g, e = .returned (.tuple #[.slice (some ⟨g, 0, none⟩) 4096 4096, .nilIface]) ∧ RowB w' g (page s) ∧ w.heap.size ≤ g ∧ Below w.heap.size w w' := by
  obtain ⟨k, i, t, c, b⟩ := s
  have HM : Hid (∀ w, Calls Tryz.prog 131 #[.agg #[.int .i64 k, .int .i64 i, .int .u64 (t : Int), .int .i64 c, .string b]] w fun e w' => e = .returned (.bool true) ∧ Below w.heap.size w w') := fun w => by
    have h := mayBe_any ⟨k, i, t, c, b⟩ w (by rw [hm.2.2.2]; decide)
    rw [decide_eq_true hm] at h
    exact h
  have HP : Hid (∀ w, Lay w → Tab w → Calls Tryz.prog 132 #[.agg #[.int .i64 k, .int .i64 i, .int .u64 (t : Int), .int .i64 c, .string b]] w fun e w' => ∃ g, e = .returned (.slice (some ⟨g, 0, none⟩) 4096 4096) ∧ RowB w' g (page ⟨k, i, t, c, b⟩) ∧ w.heap.size ≤ g ∧ Below w.heap.size w w') := fun w h1 h2 => pageOf_any ⟨k, i, t, c, b⟩ w hm hx h1 h2
  have HBX : Hid (Boxed w.heap.size [.int .i64 k, .int .i64 i, .int .u64 (t : Int), .int .i64 c, .string b] (w.alloc (.cells #[.int .i64 k, .int .i64 i, .int .u64 (t : Int), .int .i64 c, .string b] 87))) := boxed_new w _ _
  have HB0 : Hid (Below w.heap.size w (w.alloc (.cells #[.int .i64 k, .int .i64 i, .int .u64 (t : Int), .int .i64 c, .string b] 87))) := below_new w _
  have HL : Hid (Lay w) := hL
  have HT : Hid (Tab w) := ht
  clear hm hx hL ht
  show Calls Tryz.prog 95 #[.agg #[.int .i64 k, .int .i64 i, .int .u64 (t : Int), .int .i64 c, .string b]] w _
  go_enter Tryz.func95, Tryz.ntmps95
  go_wp2_with fail
  refine (HM.out _).mono ?_
  rintro e w1 ⟨rfl, hb1⟩
  have hx1 := HBX.out.below hb1
  have HB1 : Hid (Below w.heap.size w w1) := Below.next HB0.out hb1
  have c0 : w1.cell? ⟨w.heap.size, 0, none⟩ = some (.int .i64 k) := hx1.2 0 (by simp)
  have c1 : w1.cell? ⟨w.heap.size, 1, none⟩ = some (.int .i64 i) := hx1.2 1 (by simp)
  have c2 : w1.cell? ⟨w.heap.size, 2, none⟩ = some (.int .u64 (t : Int)) := hx1.2 2 (by simp)
  have c3 : w1.cell? ⟨w.heap.size, 3, none⟩ = some (.int .i64 c) := hx1.2 3 (by simp)
  have c4 : w1.cell? ⟨w.heap.size, 4, none⟩ = some (.string b) := hx1.2 4 (by simp)
  clear hx1 hb1 HBX HB0
  go_wp2_with fail
  refine (HP.out _ (HL.out.below HB1.out) (HT.out.below HB1.out)).mono ?_
  rintro e w2 ⟨g, rfl, hr, hg, hb2⟩
  have HF : Hid (RowB w2 g (page ⟨k, i, t, c, b⟩) ∧ w.heap.size ≤ g ∧ Below w.heap.size w w2) := ⟨hr, Nat.le_trans HB1.out.size hg, Below.next HB1.out hb2⟩
  clear hr hg hb2 c0 c1 c2 c3 c4
  go_wp2_with fail
  go_ret2
  exact ⟨g, rfl, HF.out⟩

end Go.Proofs.YtnaedmmfiiebaaaGreatDoor.S

namespace Go.Proofs.YtnaedmmfiiebaaaGreatDoor.S
open Go.RowKit

theorem hide {p : Prop} (h : p) : Hid p := h

end Go.Proofs.YtnaedmmfiiebaaaGreatDoor.S

namespace Go.Proofs.YtnaedmmfiiebaaaGreatDoor.S
open Go.RowKit

def sub (l : List UInt8) (o m : Nat) : List UInt8 := (l.drop o).take m
theorem sub_len (l : List UInt8) (o m : Nat) (h : o + m ≤ l.length) : (sub l o m).length = m := by
  simp [sub]; omega
theorem sub_get (l : List UInt8) (o m j : Nat) (h : o + m ≤ l.length) (hj : j < (sub l o m).length) : (sub l o m)[j] = l[o + j]'(by rw [sub_len l o m h] at hj; omega) := by
  simp [sub]
/-- The numbers of a head: as they are read. -/
def nums (l : List UInt8) (k : Nat) : Nat := beNat (sub l (place k) (width k))
/-- The first so many numbers, the others zero. -/
def numsTo (l : List UInt8) (n k : Nat) : Nat := if k < n then nums l k else 0
/-- A block that holds a head. -/
def HeadAt (w : World) (hb : Nat) (f : Nat → Nat) : Prop := w.heap[hb]? = some (.cells #[.int .u64 (f 0 : Int), .int .u64 (f 1 : Int), .int .u64 (f 2 : Int), .int .u64 (f 3 : Int), .int .u64 (f 4 : Int)] 256 (0, 0))

set_option maxHeartbeats 400000 in
theorem rh1_any (g o m cap hb k : Nat) (old : Value) (l : List UInt8) (w : World) (hk : k < 5) (hm : l.length = m) (h1 : 1 ≤ m) (h8 : m ≤ 8)
    (hc : ∀ j (h : j < l.length), w.cell? ⟨g, o + j, none⟩ = some (.int .u8 (l[j].toNat : Int))) (hold : w.cell? ⟨hb, k, none⟩ = some old) (hfz : w.frozen? ⟨hb, k, none⟩ = false) :
    Calls Tryz.prog 226 #[.int .i64 (k : Int), .slice (some ⟨g, o, none⟩) m cap, .pointer (some ⟨hb, 0, none⟩)] w fun e w' => e = .returned (.tuple #[]) ∧ ∃ w1, Below w.heap.size w w1 ∧ w' = w1.setCell ⟨hb, k, none⟩ (.int .u64 ((beNat l : Nat) : Int)) := by
  subst hm
  have hg : g < w.heap.size := World.block_lt_of_cell? w _ (hc 0 (by omega))
  have hbl : hb < w.heap.size := World.block_lt_of_cell? w _ hold
  have HG : Hid (∀ w, g < w.heap.size → (∀ j (h : j < l.length), w.cell? ⟨g, o + j, none⟩ = some (.int .u8 (l[j].toNat : Int))) → Calls Tryz.prog 227 #[.slice (some ⟨g, o, none⟩) l.length cap] w fun e w' => e = .returned (.tuple #[.int .u64 ((beNat l : Nat) : Int), .nilIface]) ∧ Below w.heap.size w w') := fun w hg hc => get_ok g o cap l w h1 h8 hg hc
  have HC := hide hc
  have HO := hide hold
  have HF := hide hfz
  have k0 : (0 : Int) ≤ (k : Int) := by omega
  have k5 : (k : Int) < 5 := by omega
  clear hc hold hfz h1 h8
  generalize beNat l = n at *
  go_enter Tryz.func226, Tryz.ntmps226
  go_wp2_with (go_at_call 227; refine (HG.out _ hg HC.out).mono ?_; rintro e w1 ⟨rfl, hb1⟩; have HB1 := hide hb1; have ho1 : w1.cell? ⟨hb, k, none⟩ = some old := (hb1.cell (p := ⟨hb, k, none⟩) hbl).trans HO.out; have hf1 : w1.frozen? ⟨hb, k, none⟩ = false := (hb1.frozen (p := ⟨hb, k, none⟩) hbl).trans HF.out; clear hb1)
  go_end0
  exact ⟨rfl, w1, HB1.out, rfl⟩

theorem numsTo_five (l : List UInt8) (k : Nat) (h : k < 5) : numsTo l 5 k = nums l k := by simp [numsTo, h]

/-- One number more. -/
theorem head_step {w wr w0 : World} {o : Obj} {g hb : Nat} {l : List UInt8} (k : Nat) (hk : k < 5) (hh : HeadAt wr hb (numsTo l k)) (hs : Sole hb w wr) (_hg : g ≠ hb) (hb0 : Below (wr.alloc o).heap.size (wr.alloc o) w0) :
    HeadAt (w0.setCell ⟨hb, k, none⟩ (.int .u64 ((beNat (sub l (place k) (width k)) : Nat) : Int))) hb (numsTo l (k + 1)) ∧ Sole hb w (w0.setCell ⟨hb, k, none⟩ (.int .u64 ((beNat (sub l (place k) (width k)) : Nat) : Int))) := by
  have hlt : hb < wr.heap.size := by
    rcases Nat.lt_or_ge hb wr.heap.size with h' | h'
    · exact h'
    · unfold HeadAt at hh; rw [Array.getElem?_eq_none h'] at hh; cases hh
  have h0 : w0.heap[hb]? = some (.cells #[.int .u64 (numsTo l k 0 : Int), .int .u64 (numsTo l k 1 : Int), .int .u64 (numsTo l k 2 : Int), .int .u64 (numsTo l k 3 : Int), .int .u64 (numsTo l k 4 : Int)] 256 (0, 0)) := by
    rw [(Below.next (below_new wr o) hb0).block hb hlt]; exact hh
  refine ⟨?_, (hs.trans (Sole.of_below (Below.next (below_new wr o) hb0))).trans (Sole.set hb k w0 _)⟩
  unfold HeadAt
  rw [heap_setCell_same w0 hb k _ _ _ h0]
  obtain rfl | rfl | rfl | rfl | rfl : k = 0 ∨ k = 1 ∨ k = 2 ∨ k = 3 ∨ k = 4 := by omega
  all_goals rfl

theorem HeadAt.cell {w : World} {hb : Nat} {f : Nat → Nat} (h : HeadAt w hb f) (k : Nat) (hk : k < 5) : w.cell? ⟨hb, k, none⟩ = some (.int .u64 (f k : Int)) := by
  rw [cell_of_row _ _ _ _ _ _ h]
  obtain rfl | rfl | rfl | rfl | rfl : k = 0 ∨ k = 1 ∨ k = 2 ∨ k = 3 ∨ k = 4 := by omega
  all_goals rfl
theorem HeadAt.lt {w : World} {hb : Nat} {f : Nat → Nat} (h : HeadAt w hb f) : hb < w.heap.size := World.block_lt_of_cell? w _ (h.cell 0 (by decide))
theorem HeadAt.below {w w' : World} {hb : Nat} {f : Nat → Nat} (h : HeadAt w hb f) (hb' : Below w.heap.size w w') : HeadAt w' hb f := by
  unfold HeadAt; rw [hb'.block hb h.lt]; exact h

set_option maxHeartbeats 1000000 in
theorem eachR_any (g hb cap : Nat) (l : List UInt8) (w : World) (hl : l.length = 4096) (hcap : 4096 ≤ cap) (hcm : cap ≤ 9223372036854775807) (hgb : g ≠ hb) (hL : Lay w) (hh : HeadAt w hb (numsTo l 0))
    (hc : ∀ j (h : j < l.length), w.cell? ⟨g, j, none⟩ = some (.int .u8 (l[j].toNat : Int))) :
    Calls Tryz.prog 215 #[.slice (some ⟨g, 0, none⟩) 4096 cap, .func (.func 226) #[] #[.pointer (some ⟨hb, 0, none⟩)]] w fun e w' => e = .returned (.tuple #[]) ∧ HeadAt w' hb (numsTo l 5) ∧ Sole hb w w' := by
  obtain ⟨hL0, c0, c1, c2, c3, c4, c5, c6, c7, c8, c9⟩ := hL
  have HC := hide hc
  have HH0 := hide hh
  have HL := hide hl
  have hcapI : (4096 : Int) ≤ (cap : Int) := by omega
  clear hc hh hl hL0
  go_enter Tryz.func215, Tryz.ntmps215
  go_wp2_with fail
  go_loopw [7] (fun i wr => ∃ k : Nat, k ≤ 5 ∧ i = .int .i64 (k : Int) ∧ HeadAt wr hb (numsTo l k) ∧ Sole hb w wr) (fun i _ => 5 - (intOf i).toNat)
  case atStart => exact ⟨0, by omega, rfl, HH0.out, Sole.refl _ _⟩
  case round =>
    obtain ⟨k, hk, rfl, hrow, hs⟩ := hrel
    clear c0 c1 c2 c3 c4 c5 c6 c7 c8 c9
    have HS : Hid (Sole hb w wr) := hs
    have HH : Hid (HeadAt wr hb (numsTo l k)) := hrow
    clear hs hrow HH0
    by_cases hlt : k < 5
    · have HCK : Hid (∀ obj o m, o + m ≤ 20 → ∀ j (h : j < (sub l o m).length), (wr.alloc obj).cell? ⟨g, o + j, none⟩ = some (.int .u8 ((sub l o m)[j].toNat : Int))) := fun obj o m hom j hj => by
        have hsl := sub_len l o m (by rw [HL.out]; omega)
        have hoj : o + j < l.length := by rw [HL.out]; omega
        rw [sub_get l o m j (by rw [HL.out]; omega) hj, (below_new wr obj).cell (p := ⟨g, o + j, none⟩) (Nat.lt_of_lt_of_le (World.block_lt_of_cell? w _ (HC.out _ hoj)) HS.out.size)]
        exact HS.out.cell (HC.out _ hoj) hgb
      have HOLD : Hid (∀ obj, (wr.alloc obj).cell? ⟨hb, k, none⟩ = some (.int .u64 (numsTo l k k : Int))) := fun obj => (HH.out.below (below_new wr obj)).cell k hlt
      have HFZ : Hid (∀ obj, (wr.alloc obj).frozen? ⟨hb, k, none⟩ = false) := fun obj => frozen_of_row _ _ _ _ _ (HH.out.below (below_new wr obj))
      obtain rfl | rfl | rfl | rfl | rfl : k = 0 ∨ k = 1 ∨ k = 2 ∨ k = 3 ∨ k = 4 := by omega
      · have li := fun w => lay_index w 0 (by decide)
        rw [show ((0 : Nat) : Int) = 0 from rfl] at li ⊢
        simp only [place, width, Int.cast_ofNat_Int] at li
        go_wp2_with (go_at_call 226; refine (rh1_any g 0 1 _ hb 0 _ (sub l 0 1) _ (by decide) (sub_len _ _ _ (by rw [HL.out]; decide)) (by decide) (by decide) (HCK.out _ 0 1 (by decide)) (HOLD.out _) (HFZ.out _)).mono ?_; rintro e w1 ⟨rfl, w0, hb0, rfl⟩; have HN := hide (head_step 0 (by decide) HH.out HS.out hgb hb0); clear hb0)
        go_roundw
        case rel => exact ⟨1, by omega, by go_num, HN.out.1, HN.out.2⟩
        case measure => simp [intOf]
      · have li := fun w => lay_index w 1 (by decide)
        rw [show ((1 : Nat) : Int) = 1 from rfl] at li ⊢
        simp only [place, width, Int.cast_ofNat_Int] at li
        go_wp2_with (go_at_call 226; refine (rh1_any g 2 2 _ hb 1 _ (sub l 2 2) _ (by decide) (sub_len _ _ _ (by rw [HL.out]; decide)) (by decide) (by decide) (HCK.out _ 2 2 (by decide)) (HOLD.out _) (HFZ.out _)).mono ?_; rintro e w1 ⟨rfl, w0, hb0, rfl⟩; have HN := hide (head_step 1 (by decide) HH.out HS.out hgb hb0); clear hb0)
        go_roundw
        case rel => exact ⟨2, by omega, by go_num, HN.out.1, HN.out.2⟩
        case measure => simp [intOf]
      · have li := fun w => lay_index w 2 (by decide)
        rw [show ((2 : Nat) : Int) = 2 from rfl] at li ⊢
        simp only [place, width, Int.cast_ofNat_Int] at li
        go_wp2_with (go_at_call 226; refine (rh1_any g 4 4 _ hb 2 _ (sub l 4 4) _ (by decide) (sub_len _ _ _ (by rw [HL.out]; decide)) (by decide) (by decide) (HCK.out _ 4 4 (by decide)) (HOLD.out _) (HFZ.out _)).mono ?_; rintro e w1 ⟨rfl, w0, hb0, rfl⟩; have HN := hide (head_step 2 (by decide) HH.out HS.out hgb hb0); clear hb0)
        go_roundw
        case rel => exact ⟨3, by omega, by go_num, HN.out.1, HN.out.2⟩
        case measure => simp [intOf]
      · have li := fun w => lay_index w 3 (by decide)
        rw [show ((3 : Nat) : Int) = 3 from rfl] at li ⊢
        simp only [place, width, Int.cast_ofNat_Int] at li
        go_wp2_with (go_at_call 226; refine (rh1_any g 8 8 _ hb 3 _ (sub l 8 8) _ (by decide) (sub_len _ _ _ (by rw [HL.out]; decide)) (by decide) (by decide) (HCK.out _ 8 8 (by decide)) (HOLD.out _) (HFZ.out _)).mono ?_; rintro e w1 ⟨rfl, w0, hb0, rfl⟩; have HN := hide (head_step 3 (by decide) HH.out HS.out hgb hb0); clear hb0)
        go_roundw
        case rel => exact ⟨4, by omega, by go_num, HN.out.1, HN.out.2⟩
        case measure => simp [intOf]
      · have li := fun w => lay_index w 4 (by decide)
        rw [show ((4 : Nat) : Int) = 4 from rfl] at li ⊢
        simp only [place, width, Int.cast_ofNat_Int] at li
        go_wp2_with (go_at_call 226; refine (rh1_any g 16 4 _ hb 4 _ (sub l 16 4) _ (by decide) (sub_len _ _ _ (by rw [HL.out]; decide)) (by decide) (by decide) (HCK.out _ 16 4 (by decide)) (HOLD.out _) (HFZ.out _)).mono ?_; rintro e w1 ⟨rfl, w0, hb0, rfl⟩; have HN := hide (head_step 4 (by decide) HH.out HS.out hgb hb0); clear hb0)
        go_roundw
        case rel => exact ⟨5, by omega, by go_num, HN.out.1, HN.out.2⟩
        case measure => simp [intOf]
    · obtain rfl : k = 5 := by omega
      rw [show ((5 : Nat) : Int) = 5 from rfl]
      go_wp2_with fail
      go_end0
      exact ⟨rfl, HH.out, HS.out⟩

end Go.Proofs.YtnaedmmfiiebaaaGreatDoor.S
