import Derived.Test.YtmifadjgmjnkgaaDoorKnown
import Derived.Test.YtmifadjgmjnkgaaDoorNum2
import Derived.Test.YtmifadjgmjnkgaaDoorBit
import Derived.Test.YtmifadjgmjnkgaaDoorRefCrc
namespace Go.Proofs.YtmifadjgmjnkgaaDoor
open Go.RowKit

theorem bit_test (turn k : Nat) (h : turn < 4294967296) : (bits BinOp.and IntKind.u32 ((turn : Int) / 2 ^ k) 1 == 1) = decide (turn / 2 ^ k % 2 = 1) := by
  have e : (turn : Int) / 2 ^ k = ((turn / 2 ^ k : Nat) : Int) := by rw [Int.natCast_ediv]; simp
  rw [e, and1 (turn / 2 ^ k) (Nat.lt_of_le_of_lt (Nat.div_le_self _ _) h)]
  by_cases hx : turn / 2 ^ k % 2 = 1
  · rw [hx, decide_eq_true rfl]; rfl
  · rw [decide_eq_false hx]
    have : turn / 2 ^ k % 2 = 0 := by omega
    rw [this]; rfl
theorem RowB.set {w : World} {g : Nat} {l : List UInt8} (h : RowB w g l) (j : Nat) (d : UInt8) : RowB (w.setCell ⟨g, j, none⟩ (.int .u8 (d.toNat : Int))) g (l.set j d) := by
  unfold RowB
  rw [heap_setCell_same w g j _ _ _ h]
  simp [u8s, List.map_set]
theorem RowB.frozen {w : World} {g : Nat} {l : List UInt8} (h : RowB w g l) (j : Nat) : w.frozen? ⟨g, j, none⟩ = false := frozen_of_row _ _ _ _ _ h

set_option maxRecDepth 100000 in
set_option maxHeartbeats 4000000 in
theorem bursts_any (A : Nat → Addr) (s : Sh) (id at' : Int) (turn : Nat) (w : World) (hs : s.body.size ≤ 140737488355328) (hn : s.num) (_h1 : -9223372036854775808 ≤ id) (_h2 : id ≤ 9223372036854775807)
    (h3 : -9223372036854775808 ≤ at') (h4 : at' ≤ 9223372036854775807) (hturn : turn < 4294967296) (hL : Lay w) (hT : Tab w) (hA : ErrsAt A w) :
    Calls Tryd.prog 5 #[.agg #[.int .i64 s.kind, .int .i64 s.id, .int .u64 (s.txid : Int), .int .i64 s.count, .string s.body, .int .i64 id, .int .i64 at', .int .u32 (turn : Int)]] w fun e w' => e = .returned (.bool true) ∧ Below w.heap.size w w' := by
  have hx : s.txid < 18446744073709551616 := hn.2.2.2.2.1
  obtain ⟨k, i, t, c, b⟩ := s
  simp only at hs hx ⊢
  have HL := hide hL
  have HT := hide hT
  have HA := hide hA
  have HX : Hid (Boxed w.heap.size [.int .i64 k, .int .i64 i, .int .u64 (t : Int), .int .i64 c, .string b, .int .i64 id, .int .i64 at', .int .u32 (turn : Int)] (w.alloc (.cells #[.int .i64 k, .int .i64 i, .int .u64 (t : Int), .int .i64 c, .string b, .int .i64 id, .int .i64 at', .int .u32 (turn : Int)] 46))) := boxed_new w _ _
  have HB := hide (below_new w (.cells #[.int .i64 k, .int .i64 i, .int .u64 (t : Int), .int .i64 c, .string b, .int .i64 id, .int .i64 at', .int .u32 (turn : Int)] 46))
  have HTX := hide hx
  have HTU := hide hturn
  have HBIT : Hid (∀ w, Calls Tryd.prog 19 #[.int .i64 at'] w fun e w' => ∃ r : Nat, e = .returned (.int .i64 (r : Int)) ∧ BitOk r ∧ w = w') := fun w => bit_any at' w h3 h4
  clear hL hT hA hn hx h3 h4 _h1 _h2 hturn
  go_enter Tryd.func5, Tryd.ntmps5
  go_wp2_with fail
  generalize w.alloc (.cells #[.int .i64 k, .int .i64 i, .int .u64 (t : Int), .int .i64 c, .string b, .int .i64 id, .int .i64 at', .int .u32 (turn : Int)] 46) = W0 at *
  refine (known_any (A 1) W0 (HL.out.below HB.out) (HT.out.below HB.out) ((HA.out.below HB.out).1 1 (by decide)).1).mono ?_
  rintro e w1 ⟨rfl, hb1⟩
  have HX1 := hide (HX.out.below hb1)
  have HB1 := hide (Below.next HB.out hb1)
  clear hb1 HB
  have HW0 : Hid (w.heap.size < w1.heap.size) := HX1.out.1
  clear HX
  have c0 : w1.cell? ⟨w.heap.size, 0, none⟩ = some (.int .i64 k) := HX1.out.2 0 (by simp)
  have c1 : w1.cell? ⟨w.heap.size, 1, none⟩ = some (.int .i64 i) := HX1.out.2 1 (by simp)
  have c2 : w1.cell? ⟨w.heap.size, 2, none⟩ = some (.int .u64 (t : Int)) := HX1.out.2 2 (by simp)
  have c3 : w1.cell? ⟨w.heap.size, 3, none⟩ = some (.int .i64 c) := HX1.out.2 3 (by simp)
  have c4 : w1.cell? ⟨w.heap.size, 4, none⟩ = some (.string b) := HX1.out.2 4 (by simp)
  by_cases hm : May ⟨k, i, t, c, b⟩
  · have HS : Hid (∀ w, Lay w → Tab w → Calls Tryd.prog 16 #[.agg #[.int .i64 k, .int .i64 i, .int .u64 (t : Int), .int .i64 c, .string b]] w fun e w' => ∃ g, e = .returned (.tuple #[.slice (some ⟨g, 0, none⟩) 4096 4096, .nilIface]) ∧ RowB w' g (page ⟨k, i, t, c, b⟩) ∧ w.heap.size ≤ g ∧ Below w.heap.size w w') := fun w h1 h2 => seal_ok ⟨k, i, t, c, b⟩ w hm HTX.out h1 h2
    have HPL : Hid ((page ⟨k, i, t, c, b⟩).length = 4096) := page_len _ hm
    have HOK : Hid (∀ id, okRead (page ⟨k, i, t, c, b⟩) id ↔ id = i) := okRead_page ⟨k, i, t, c, b⟩ hm HTX.out
    have HPP : Hid (parse (page ⟨k, i, t, c, b⟩) = ⟨k, i, t, c, b⟩) := parse_page ⟨k, i, t, c, b⟩ hm HTX.out
    have HBU : Hid (∀ (q : List UInt8) (at' T : Nat) (id : Int), q.length = 4096 → leNat q = leNat (page ⟨k, i, t, c, b⟩) ^^^ (2 ^ at' * T) → T < 2 ^ 32 → T ≠ 0 → (at' + 32 ≤ 128 ∨ (160 ≤ at' ∧ at' ≤ 8 * 4096)) → ¬ okRead q id) := fun q at' T id h1 h2 h3 h4 h5 => burst_page ⟨k, i, t, c, b⟩ q at' T id hm h1 h2 h3 h4 h5
    clear hm
    generalize page ⟨k, i, t, c, b⟩ = pg at *
    go_wp2_with fail
    refine (HS.out _ (HL.out.below HB1.out) (HT.out.below HB1.out)).mono ?_
    rintro e w2 ⟨gp, rfl, hrow, hgp, hb2⟩
    have HX2 := hide (HX1.out.below hb2)
    have HB2 := hide (Below.next HB1.out hb2)
    have HROW := hide hrow
    have HGP : Hid (w.heap.size < gp) := by have := HW0.out; show _ < _; omega
    clear c0 c1 c2 c3 c4 hrow hgp hb2 HX1 HB1
    have c6 : w2.cell? ⟨w.heap.size, 6, none⟩ = some (.int .i64 at') := HX2.out.2 6 (by simp)
    go_wp2_with fail
    refine (HBIT.out _).mono ?_
    rintro e w2' ⟨at0, rfl, hbit, rfl⟩
    have HBT := hide hbit
    have hat0 : (at0 : Int) ≤ 32736 := by rcases hbit with h | h <;> omega
    clear c6 hbit
    go_wp2_with fail
    go_loopw [7] (fun u7 wr => ∃ (j : Nat) (q : List UInt8), j ≤ 32 ∧ u7 = .int .i64 j ∧ RowB wr gp q ∧ q.length = 4096 ∧ leNat q = leNat pg ^^^ (2 ^ at0 * (turn % 2 ^ j)) ∧ Sole gp w2 wr) (fun u7 _ => 32 - (intOf u7).toNat)
    case atStart => exact ⟨0, pg, by omega, rfl, HROW.out, HPL.out, by simp [Nat.mod_one], Sole.refl _ _⟩
    case round =>
      obtain ⟨j, q, hj, rfl, hq, hql, hle, hso⟩ := hrel
      have HQ := hide hq
      have HQL := hide hql
      have HLE := hide hle
      have HSO := hide hso
      clear hq hql hle hso HROW
      have hxr : ∀ n v, n < 8 → w2.cell? ⟨w.heap.size, n, none⟩ = some v → wr.cell? ⟨w.heap.size, n, none⟩ = some v := fun n v _ h => HSO.out.cell h (by have := HGP.out; show w.heap.size ≠ gp; omega)
      have c7 : wr.cell? ⟨w.heap.size, 7, none⟩ = some (.int .u32 (turn : Int)) := hxr 7 _ (by decide) (HX2.out.2 7 (by simp))
      by_cases hlt : j < 32
      · have hbt := bit_test turn j HTU.out
        by_cases hb : turn / 2 ^ j % 2 = 1
        · rw [decide_eq_true hb] at hbt
          have HST : Hid (turn % 2 ^ (j + 1) = (turn % 2 ^ j) ^^^ 2 ^ j) := by show _ = _; rw [turn_step, if_pos hb]
          have hin : (at0 + j) / 8 < q.length := by
            rw [HQL.out]
            have h := HBT.out
            unfold BitOk at h
            omega
          have hcell : wr.cell? ⟨gp, (at0 + j) / 8, none⟩ = some (.int .u8 (q[(at0 + j) / 8].toNat : Int)) := HQ.out.cell _ hin
          have hfr : wr.frozen? ⟨gp, (at0 + j) / 8, none⟩ = false := HQ.out.frozen _
          obtain ⟨d0, hd0⟩ : ∃ c : Nat, c = q[(at0 + j) / 8].toNat := ⟨_, rfl⟩
          rw [← hd0] at hcell
          have HD := hide hd0
          have hd256 : d0 < 256 := by rw [hd0]; exact UInt8.toNat_lt _
          clear hd0
          have hs2 : 2 ^ ((at0 + j) % 8) < 256 := pow_lt_256 _ (by omega)
          have e1 : bits BinOp.xor IntKind.u8 (d0 : Int) (2 ^ ((at0 + j) % 8) % 256) = ((UInt8.ofNat (d0 ^^^ 2 ^ ((at0 + j) % 8))).toNat : Int) := xor_u8 d0 _ hd256 hs2
          have hd : (UInt8.ofNat (d0 ^^^ 2 ^ ((at0 + j) % 8))).toNat = d0 ^^^ 2 ^ ((at0 + j) % 8) := xor_u8_toNat d0 _ hd256 hs2
          obtain ⟨d, HDD⟩ : ∃ d : UInt8, d = UInt8.ofNat (d0 ^^^ 2 ^ ((at0 + j) % 8)) := ⟨_, rfl⟩
          rw [← HDD] at e1 hd
          have HR : Hid (RowB (wr.setCell ⟨gp, (at0 + j) / 8, none⟩ (.int .u8 (d.toNat : Int))) gp (q.set ((at0 + j) / 8) d)) := HQ.out.set _ d
          have HLE2 : Hid (leNat (q.set ((at0 + j) / 8) d) = leNat pg ^^^ (2 ^ at0 * (turn % 2 ^ (j + 1)))) := by
            show leNat _ = _
            rw [leNat_set q ((at0 + j) / 8) ((at0 + j) % 8) hin (by omega) d (by rw [hd, HD.out]), HLE.out, show 8 * ((at0 + j) / 8) + (at0 + j) % 8 = at0 + j by omega, HST.out, pow_mul_xor, Nat.xor_assoc, Nat.pow_add]
          have HSO2 : Hid (Sole gp w2 (wr.setCell ⟨gp, (at0 + j) / 8, none⟩ (.int .u8 (d.toNat : Int)))) := HSO.out.trans (Sole.set gp _ wr _)
          clear hd HDD hs2 hb HD hin hxr
          go_wp2
          go_roundw
          case rel => exact ⟨j + 1, q.set ((at0 + j) / 8) d, by omega, by go_num, HR.out, by rw [List.length_set]; exact HQL.out, HLE2.out, HSO2.out⟩
          case measure => simp [intOf]; omega
        · rw [decide_eq_false hb] at hbt
          have HST : Hid (turn % 2 ^ (j + 1) = turn % 2 ^ j) := by show _ = _; rw [turn_step, if_neg hb, Nat.xor_zero]
          clear hb hxr
          go_wp2
          go_roundw
          case rel => exact ⟨j + 1, q, by omega, by go_num, HQ.out, HQL.out, by rw [HST.out]; exact HLE.out, HSO.out⟩
          case measure => simp [intOf]; omega
      · have hje : j = 32 := by omega
        subst hje
        rw [show ((32 : Nat) : Int) = 32 from rfl]
        have HBR : Hid (Below w.heap.size w wr) := HSO.out.below HB2.out (Nat.le_of_lt HGP.out)
        have HXR : Hid (Boxed w.heap.size [.int .i64 k, .int .i64 i, .int .u64 (t : Int), .int .i64 c, .string b, .int .i64 id, .int .i64 at', .int .u32 (turn : Int)] wr) := ⟨Nat.lt_of_lt_of_le HX2.out.1 HSO.out.size, fun n hn => HSO.out.cell (HX2.out.2 n hn) (by have := HGP.out; show w.heap.size ≠ gp; omega)⟩
        have HRD : Hid (RdB wr (.slice (some ⟨gp, 0, none⟩) 4096 4096) q) := .inr ⟨gp, 4096, by rw [HQL.out], by rw [HQL.out]; decide, by decide, HQ.out.lt, HQ.out.cell⟩
        have HLT : Hid (leNat q = leNat pg ^^^ (2 ^ at0 * turn)) := by
          have h := HLE.out
          rw [Nat.mod_eq_of_lt (show turn < 2 ^ 32 from HTU.out)] at h
          exact h
        have c1 : wr.cell? ⟨w.heap.size, 1, none⟩ = some (.int .i64 i) := HXR.out.2 1 (by simp)
        clear hxr c7 HX2 HB2 HQ HLE
        go_wp2_with fail
        refine (read_any (A 1) _ q i _ HRD.out (HL.out.below HBR.out) (HT.out.below HBR.out) ((HA.out.below HBR.out).1 1 (by decide)).1).mono ?_
        rintro e w3 ⟨rfl, hb3⟩
        have HX3 := hide (HXR.out.below hb3)
        have HB3 := hide (Below.next HBR.out hb3)
        have HRD3 := hide (HRD.out.below hb3)
        clear c1 hb3 HXR HBR HRD
        by_cases h0 : turn = 0
        · subst h0
          have hqe : q = pg := leNat_inj q pg (HQL.out.trans HPL.out.symm) (by rw [HLT.out]; simp)
          subst hqe
          have hv : readV (A 1) q i = #[.agg #[.int .i64 k, .int .i64 i, .int .u64 (t : Int), .int .i64 c, .string b], .nilIface] := by
            unfold readV
            rw [if_pos ((HOK.out i).2 rfl), HPP.out]; rfl
          rw [hv]
          have HBN := hide (below_new w3 (.cells #[.int .i64 k, .int .i64 i, .int .u64 (t : Int), .int .i64 c, .string b] 31))
          have hx4 := HX3.out.below HBN.out
          have HX4 := hide hx4
          have HB4 := hide (Below.next HB3.out HBN.out)
          have HRD4 := hide (HRD3.out.below HBN.out)
          have c5 : (w3.alloc (.cells #[.int .i64 k, .int .i64 i, .int .u64 (t : Int), .int .i64 c, .string b] 31)).cell? ⟨w.heap.size, 5, none⟩ = some (.int .i64 id) := hx4.2 5 (by simp)
          clear hv hx4 HBN HX3 HB3 HRD3
          go_wp2_with fail
          clear c5
          generalize (w3.alloc (.cells #[.int .i64 k, .int .i64 i, .int .u64 (t : Int), .int .i64 c, .string b] 31)) = w4 at *
          refine (read_any (A 1) _ q id _ HRD4.out (HL.out.below HB4.out) (HT.out.below HB4.out) ((HA.out.below HB4.out).1 1 (by decide)).1).mono ?_
          rintro e w5 ⟨rfl, hb5⟩
          have HX5 := hide (HX4.out.below hb5)
          have HB5 := hide (Below.next HB4.out hb5)
          obtain ⟨v0, v1, v2, v3, v4, ev, hrv⟩ : ∃ v0 v1 v2 v3 v4 ev, readV (A 1) q id = #[.agg #[.int .i64 v0, .int .i64 v1, .int .u64 v2, .int .i64 v3, .string v4], ev] := by
            by_cases ho : okRead q id
            · exact ⟨_, _, _, _, _, _, readV_ok ho⟩
            · exact ⟨_, _, _, _, _, _, readV_no ho⟩
          rw [hrv]
          have HBN := hide (below_new w5 (.cells #[.int .i64 v0, .int .i64 v1, .int .u64 v2, .int .i64 v3, .string v4] 31))
          have c7 : (w5.alloc (.cells #[.int .i64 v0, .int .i64 v1, .int .u64 v2, .int .i64 v3, .string v4] 31)).cell? ⟨w.heap.size, 7, none⟩ = some (.int .u32 0) := (HX5.out.below HBN.out).2 7 (by simp)
          have HB6 := hide (Below.next HB5.out HBN.out)
          clear hrv HBN hb5 HX5 HB5 HX4 HB4
          go_wp2_with fail
          go_ret
          exact ⟨rfl, HB6.out⟩
        · have HNO : Hid (∀ id, ¬ okRead q id) := fun id => HBU.out q at0 turn id HQL.out HLT.out HTU.out h0 (by have h := HBT.out; unfold BitOk at h; omega)
          have htz : ((turn : Int) == 0) = false := beq_eq_false_iff_ne.2 (by omega)
          rw [readV_no (HNO.out i)]
          have HBN := hide (below_new w3 (.cells #[.int .i64 0, .int .i64 0, .int .u64 0, .int .i64 0, .string ⟨#[]⟩] 31))
          have hx4 := HX3.out.below HBN.out
          have HX4 := hide hx4
          have HB4 := hide (Below.next HB3.out HBN.out)
          have HRD4 := hide (HRD3.out.below HBN.out)
          have c5 : (w3.alloc (.cells #[.int .i64 0, .int .i64 0, .int .u64 0, .int .i64 0, .string ⟨#[]⟩] 31)).cell? ⟨w.heap.size, 5, none⟩ = some (.int .i64 id) := hx4.2 5 (by simp)
          clear hx4 HBN HX3 HB3 HRD3
          go_wp2_with fail
          clear c5
          generalize (w3.alloc (.cells #[.int .i64 0, .int .i64 0, .int .u64 0, .int .i64 0, .string ⟨#[]⟩] 31)) = w4 at *
          refine (read_any (A 1) _ q id _ HRD4.out (HL.out.below HB4.out) (HT.out.below HB4.out) ((HA.out.below HB4.out).1 1 (by decide)).1).mono ?_
          rintro e w5 ⟨rfl, hb5⟩
          rw [readV_no (HNO.out id)]
          have HX5 := hide (HX4.out.below hb5)
          have HB5 := hide (Below.next HB4.out hb5)
          have HBN := hide (below_new w5 (.cells #[.int .i64 0, .int .i64 0, .int .u64 0, .int .i64 0, .string ⟨#[]⟩] 31))
          have c7 : (w5.alloc (.cells #[.int .i64 0, .int .i64 0, .int .u64 0, .int .i64 0, .string ⟨#[]⟩] 31)).cell? ⟨w.heap.size, 7, none⟩ = some (.int .u32 (turn : Int)) := (HX5.out.below HBN.out).2 7 (by simp)
          have HB6 := hide (Below.next HB5.out HBN.out)
          clear HBN hb5 HX5 HB5 HX4 HB4 h0
          go_wp2_with fail
          clear c7
          generalize (w5.alloc (.cells #[.int .i64 0, .int .i64 0, .int .u64 0, .int .i64 0, .string ⟨#[]⟩] 31)) = w6 at *
          refine (num_text A _ (HA.out.below HB6.out)).mono ?_
          rintro e w6' ⟨rfl, rfl⟩
          go_wp2_with fail
          refine (num_text A _ (HA.out.below HB6.out)).mono ?_
          rintro e w6' ⟨rfl, rfl⟩
          go_wp2_with fail
          go_ret
          exact ⟨rfl, HB6.out⟩
  · have HS : Hid (∀ w, ErrsAt A w → Calls Tryd.prog 16 #[.agg #[.int .i64 k, .int .i64 i, .int .u64 (t : Int), .int .i64 c, .string b]] w fun e w' => e = .returned (.tuple #[.slice none 0 0, .iface 118 (.pointer (some (A 0)))]) ∧ Below w.heap.size w w') := fun w hA => seal_no (A 0) ⟨k, i, t, c, b⟩ w hs hm (hA.1 0 (by decide)).1
    clear hm
    go_wp2_with fail
    refine (HS.out _ (HA.out.below HB1.out)).mono ?_
    rintro e w2 ⟨rfl, hb2⟩
    have HB2 := hide (Below.next HB1.out hb2)
    clear c0 c1 c2 c3 c4 hb2
    go_wp2_with fail
    go_ret
    exact ⟨rfl, HB2.out⟩

end Go.Proofs.YtmifadjgmjnkgaaDoor
