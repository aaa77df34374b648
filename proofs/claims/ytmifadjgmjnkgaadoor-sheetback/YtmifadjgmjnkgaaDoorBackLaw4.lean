import Derived.Test.YtmifadjgmjnkgaaDoorKnown
import Derived.Test.YtmifadjgmjnkgaaDoorNum2
import Derived.Deep.RegionHeld3
import Derived.Deep.QuietTactic
import Derived.BigQuiet
namespace Go.Proofs.YtmifadjgmjnkgaaDoor
open Go.RowKit

set_option maxRecDepth 100000 in
set_option maxHeartbeats 4000000 in
theorem back_any (A : Nat → Addr) (s : Sh) (id at' : Int) (turn : Nat) (w : World) (hs : s.body.size ≤ 140737488355328) (hn : s.num) (_h1 : -9223372036854775808 ≤ id) (_h2 : id ≤ 9223372036854775807) (hL : Lay w) (hT : Tab w) (hA : ErrsAt A w) :
    Calls Tryd.prog 4 #[.agg #[.int .i64 s.kind, .int .i64 s.id, .int .u64 (s.txid : Int), .int .i64 s.count, .string s.body, .int .i64 id, .int .i64 at', .int .u32 (turn : Int)]] w fun e w' => e = .returned (.bool true) ∧ Below w.heap.size w w' := by
  have hx : s.txid < 18446744073709551616 := hn.2.2.2.2.1
  obtain ⟨k, i, t, c, b⟩ := s
  simp only at hs hx ⊢
  have HL := hide hL
  have HT := hide hT
  have HA := hide hA
  have HX : Hid (Boxed w.heap.size [.int .i64 k, .int .i64 i, .int .u64 (t : Int), .int .i64 c, .string b, .int .i64 id, .int .i64 at', .int .u32 (turn : Int)] (w.alloc (.cells #[.int .i64 k, .int .i64 i, .int .u64 (t : Int), .int .i64 c, .string b, .int .i64 id, .int .i64 at', .int .u32 (turn : Int)] 46))) := boxed_new w _ _
  have HB := hide (below_new w (.cells #[.int .i64 k, .int .i64 i, .int .u64 (t : Int), .int .i64 c, .string b, .int .i64 id, .int .i64 at', .int .u32 (turn : Int)] 46))
  have HTX := hide hx
  clear hL hT hA hn hx
  go_enter Tryd.func4, Tryd.ntmps4
  go_wp2_with fail
  generalize w.alloc (.cells #[.int .i64 k, .int .i64 i, .int .u64 (t : Int), .int .i64 c, .string b, .int .i64 id, .int .i64 at', .int .u32 (turn : Int)] 46) = W0 at *
  refine (known_any (A 1) W0 (HL.out.below HB.out) (HT.out.below HB.out) ((HA.out.below HB.out).1 1 (by decide)).1).mono ?_
  rintro e w1 ⟨rfl, hb1⟩
  have HX1 := hide (HX.out.below hb1)
  have HB1 := hide (Below.next HB.out hb1)
  clear hb1 HX HB
  have c0 : w1.cell? ⟨w.heap.size, 0, none⟩ = some (.int .i64 k) := HX1.out.2 0 (by simp)
  have c1 : w1.cell? ⟨w.heap.size, 1, none⟩ = some (.int .i64 i) := HX1.out.2 1 (by simp)
  have c2 : w1.cell? ⟨w.heap.size, 2, none⟩ = some (.int .u64 (t : Int)) := HX1.out.2 2 (by simp)
  have c3 : w1.cell? ⟨w.heap.size, 3, none⟩ = some (.int .i64 c) := HX1.out.2 3 (by simp)
  have c4 : w1.cell? ⟨w.heap.size, 4, none⟩ = some (.string b) := HX1.out.2 4 (by simp)
  by_cases hm : May ⟨k, i, t, c, b⟩
  · have HS : Hid (∀ w, Lay w → Tab w → Calls Tryd.prog 16 #[.agg #[.int .i64 k, .int .i64 i, .int .u64 (t : Int), .int .i64 c, .string b]] w fun e w' => ∃ g, e = .returned (.tuple #[.slice (some ⟨g, 0, none⟩) 4096 4096, .nilIface]) ∧ RowB w' g (page ⟨k, i, t, c, b⟩) ∧ w.heap.size ≤ g ∧ Below w.heap.size w w') := fun w h1 h2 => seal_ok ⟨k, i, t, c, b⟩ w hm HTX.out h1 h2
    have HPL : Hid ((page ⟨k, i, t, c, b⟩).length = 4096) := page_len _ hm
    have HOK : Hid (∀ id, okRead (page ⟨k, i, t, c, b⟩) id ↔ id = i) := okRead_page ⟨k, i, t, c, b⟩ hm HTX.out
    have HPP : Hid (parse (page ⟨k, i, t, c, b⟩) = ⟨k, i, t, c, b⟩) := parse_page ⟨k, i, t, c, b⟩ hm HTX.out
    clear hm
    generalize page ⟨k, i, t, c, b⟩ = pg at *
    go_wp2_with fail
    refine (HS.out _ (HL.out.below HB1.out) (HT.out.below HB1.out)).mono ?_
    rintro e w2 ⟨gp, rfl, hrow, hgp, hb2⟩
    have HX2 := hide (HX1.out.below hb2)
    have HB2 := hide (Below.next HB1.out hb2)
    have HRD : Hid (RdB w2 (.slice (some ⟨gp, 0, none⟩) 4096 4096) pg) := .inr ⟨gp, 4096, by rw [HPL.out], by rw [HPL.out]; decide, by decide, hrow.lt, hrow.cell⟩
    clear c0 c1 c2 c3 c4 hrow hgp hb2 HX1 HB1
    have c1 : w2.cell? ⟨w.heap.size, 1, none⟩ = some (.int .i64 i) := HX2.out.2 1 (by simp)
    go_wp2_with fail
    refine (read_any (A 1) _ pg i _ HRD.out (HL.out.below HB2.out) (HT.out.below HB2.out) ((HA.out.below HB2.out).1 1 (by decide)).1).mono ?_
    rintro e w3 ⟨rfl, hb3⟩
    have hv : readV (A 1) pg i = #[.agg #[.int .i64 k, .int .i64 i, .int .u64 (t : Int), .int .i64 c, .string b], .nilIface] := by
      unfold readV
      rw [if_pos ((HOK.out i).2 rfl), HPP.out]; rfl
    rw [hv]
    have HX3 := hide (HX2.out.below hb3)
    have HB3 := hide (Below.next HB2.out hb3)
    have HRD3 := hide (HRD.out.below hb3)
    clear hv c1 hb3 HX2 HB2 HRD
    have hneq : ∀ w, (binOp .neq 31 (.agg #[.int .i64 k, .int .i64 i, .int .u64 (t : Int), .int .i64 c, .string b]) (.agg #[.int .i64 k, .int .i64 i, .int .u64 (t : Int), .int .i64 c, .string b])).run Tryd.prog w = .ok (.bool false) w := fun w => sh_nself w k i (t : Int) c b
    have HBN := hide (below_new w3 (.cells #[.int .i64 k, .int .i64 i, .int .u64 (t : Int), .int .i64 c, .string b] 31))
    have hx4 := HX3.out.below HBN.out
    have HX4 := hide hx4
    have c0 : (w3.alloc (.cells #[.int .i64 k, .int .i64 i, .int .u64 (t : Int), .int .i64 c, .string b] 31)).cell? ⟨w.heap.size, 0, none⟩ = some (.int .i64 k) := hx4.2 0 (by simp)
    have c1 : (w3.alloc (.cells #[.int .i64 k, .int .i64 i, .int .u64 (t : Int), .int .i64 c, .string b] 31)).cell? ⟨w.heap.size, 1, none⟩ = some (.int .i64 i) := hx4.2 1 (by simp)
    have c2 : (w3.alloc (.cells #[.int .i64 k, .int .i64 i, .int .u64 (t : Int), .int .i64 c, .string b] 31)).cell? ⟨w.heap.size, 2, none⟩ = some (.int .u64 (t : Int)) := hx4.2 2 (by simp)
    have c3 : (w3.alloc (.cells #[.int .i64 k, .int .i64 i, .int .u64 (t : Int), .int .i64 c, .string b] 31)).cell? ⟨w.heap.size, 3, none⟩ = some (.int .i64 c) := hx4.2 3 (by simp)
    have c4 : (w3.alloc (.cells #[.int .i64 k, .int .i64 i, .int .u64 (t : Int), .int .i64 c, .string b] 31)).cell? ⟨w.heap.size, 4, none⟩ = some (.string b) := hx4.2 4 (by simp)
    have c5 : (w3.alloc (.cells #[.int .i64 k, .int .i64 i, .int .u64 (t : Int), .int .i64 c, .string b] 31)).cell? ⟨w.heap.size, 5, none⟩ = some (.int .i64 id) := hx4.2 5 (by simp)
    have HB4 := hide (Below.next HB3.out HBN.out)
    have HRD4 := hide (HRD3.out.below HBN.out)
    clear hx4 HBN HX3 HB3 HRD3
    go_wp2_with fail
    clear c0 c1 c2 c3 c4 c5
    generalize (w3.alloc (.cells #[.int .i64 k, .int .i64 i, .int .u64 (t : Int), .int .i64 c, .string b] 31)) = w4 at *
    refine (read_any (A 1) _ pg id _ HRD4.out (HL.out.below HB4.out) (HT.out.below HB4.out) ((HA.out.below HB4.out).1 1 (by decide)).1).mono ?_
    rintro e w5 ⟨rfl, hb5⟩
    have HX5 := hide (HX4.out.below hb5)
    have HB5 := hide (Below.next HB4.out hb5)
    by_cases hid : id = i
    · subst hid
      have hv : readV (A 1) pg id = #[.agg #[.int .i64 k, .int .i64 id, .int .u64 (t : Int), .int .i64 c, .string b], .nilIface] := by
        unfold readV
        rw [if_pos ((HOK.out id).2 rfl), HPP.out]; rfl
      rw [hv]
      have HBN := hide (below_new w5 (.cells #[.int .i64 k, .int .i64 id, .int .u64 (t : Int), .int .i64 c, .string b] 31))
      have hx6 := HX5.out.below HBN.out
      have c1 : (w5.alloc (.cells #[.int .i64 k, .int .i64 id, .int .u64 (t : Int), .int .i64 c, .string b] 31)).cell? ⟨w.heap.size, 1, none⟩ = some (.int .i64 id) := hx6.2 1 (by simp)
      have c5 : (w5.alloc (.cells #[.int .i64 k, .int .i64 id, .int .u64 (t : Int), .int .i64 c, .string b] 31)).cell? ⟨w.heap.size, 5, none⟩ = some (.int .i64 id) := hx6.2 5 (by simp)
      have HB6 := hide (Below.next HB5.out HBN.out)
      have hd : ((id : Int) == id) = true := by simp
      clear hv hx6 HBN hb5 HX5 HB5 HX4 hneq
      go_wp2_with fail
      generalize (w5.alloc (.cells #[.int .i64 k, .int .i64 id, .int .u64 (t : Int), .int .i64 c, .string b] 31)) = w6 at *
      go_quiet (fail)
      go_wp2_with fail
      go_ret
      exact ⟨rfl, below_drewN HB6.out _⟩
    · have hv : readV (A 1) pg id = #[.agg #[.int .i64 0, .int .i64 0, .int .u64 0, .int .i64 0, .string ⟨#[]⟩], .iface 118 (.pointer (some (A 1)))] := readV_no (fun h => hid ((HOK.out id).1 h))
      rw [hv]
      have HBN := hide (below_new w5 (.cells #[.int .i64 0, .int .i64 0, .int .u64 0, .int .i64 0, .string ⟨#[]⟩] 31))
      have hx6 := HX5.out.below HBN.out
      have c1 : (w5.alloc (.cells #[.int .i64 0, .int .i64 0, .int .u64 0, .int .i64 0, .string ⟨#[]⟩] 31)).cell? ⟨w.heap.size, 1, none⟩ = some (.int .i64 i) := hx6.2 1 (by simp)
      have c5 : (w5.alloc (.cells #[.int .i64 0, .int .i64 0, .int .u64 0, .int .i64 0, .string ⟨#[]⟩] 31)).cell? ⟨w.heap.size, 5, none⟩ = some (.int .i64 id) := hx6.2 5 (by simp)
      have HB6 := hide (Below.next HB5.out HBN.out)
      have hd : ((id : Int) == i) = false := beq_eq_false_iff_ne.2 hid
      clear hv hx6 HBN hb5 HX5 HB5 HX4 hneq hid
      go_wp2_with fail
      generalize (w5.alloc (.cells #[.int .i64 0, .int .i64 0, .int .u64 0, .int .i64 0, .string ⟨#[]⟩] 31)) = w6 at *
      have hA6 := HA.out.below HB6.out
      have HN : Hid (∀ n, Calls Tryd.prog 17 #[.iface 118 (.pointer (some (A 1)))] (w6.drewN n) fun e w' => e = .returned (.int .i64 2) ∧ w' = w6.drewN n) := fun n => Calls.mono (num_text A (w6.drewN n) (show ErrsAt A (w6.drewN n) from hA6)) (fun _ _ h => ⟨h.1, h.2.symm⟩)
      clear hA6
      go_quiet ((go_at_call 17; exact Calls.quiet_of_same (HN.out _)))
      go_wp2_with fail
      go_ret
      exact ⟨rfl, below_drewN HB6.out _⟩
  · have HS : Hid (∀ w, ErrsAt A w → Calls Tryd.prog 16 #[.agg #[.int .i64 k, .int .i64 i, .int .u64 (t : Int), .int .i64 c, .string b]] w fun e w' => e = .returned (.tuple #[.slice none 0 0, .iface 118 (.pointer (some (A 0)))]) ∧ Below w.heap.size w w') := fun w hA => seal_no (A 0) ⟨k, i, t, c, b⟩ w hs hm (hA.1 0 (by decide)).1
    clear hm
    go_wp2_with fail
    refine (HS.out _ (HA.out.below HB1.out)).mono ?_
    rintro e w2 ⟨rfl, hb2⟩
    have HB2 := hide (Below.next HB1.out hb2)
    clear c0 c1 c2 c3 c4 hb2
    go_wp2_with fail
    refine (num_arg A _ (HA.out.below HB2.out)).mono ?_
    rintro e w2' ⟨rfl, rfl⟩
    go_wp2_with fail
    go_ret
    exact ⟨rfl, HB2.out⟩

end Go.Proofs.YtmifadjgmjnkgaaDoor
