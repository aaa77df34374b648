import Derived.Test.YtpeobpmooledaaaDoorGG
import Derived.Test.YtpeobpmooledaaaDoorGC
import Derived.Test.YtpeobpmooledaaaDoorPut
import Derived.Deep.RegionHeld3
import Derived.Deep.RegionLaw
namespace Go.Proofs.YtpeobpmooledaaaDoor
open Go.RowKit
attribute [local go_sem ↓] Go.wp_at_zero Go.wp_at_succ

set_option maxHeartbeats 2000000 in
theorem bdig_any (n m : Nat) (w : World) (hn : n < 18446744073709551616) (h1 : 1 ≤ m) (h8 : m ≤ 8) (hfit : n < 2 ^ (8 * m)) :
    Calls Tryd.prog 35 #[.int .u64 (n : Int), .int .i64 (m : Int)] w fun e w' => ∃ g c, e = .returned (.slice (some ⟨g, 0, none⟩) m c) ∧ Rd w' (.slice (some ⟨g, 0, none⟩) m c) (beBytes n m) ∧ Below w.heap.size w w' := by
  have HP := hide (put_ok n m w hn h1 h8 hfit)
  clear hn h1 h8 hfit
  go_enter Tryd.func35, Tryd.ntmps35
  go_wp2_with fail
  refine HP.out.mono ?_
  rintro e w1 ⟨g, c, rfl, ho, hb⟩
  have HO := hide (rd_of_owns ho)
  have HB := hide hb
  clear ho hb HP
  go_wp2
  go_ret
  exact ⟨_, _, rfl, HO.out, HB.out⟩
/-- The sum so far lies in the block sb. -/
def SumAt (w : World) (sb : Nat) (l : List UInt8) : Prop := RowAt w sb #[.int .u32 ((nt (crcReg (nt 0) l) : Nat) : Int)] 27
theorem SumAt.cell {w : World} {sb : Nat} {l : List UInt8} (h : SumAt w sb l) : w.cell? ⟨sb, 0, none⟩ = some (.int .u32 ((nt (crcReg (nt 0) l) : Nat) : Int)) := RowAt.cell h 0 (by simp)
theorem SumAt.below {w w' : World} {sb : Nat} {l : List UInt8} (h : SumAt w sb l) (hb : Below w.heap.size w w') : SumAt w' sb l := RowAt.below h hb
abbrev Sole := M.Sole
theorem Sole.keep {rb : Nat} {w w' : World} {b : Nat} {cs : Array Value} {t : TypeId} (h : M.Sole rb w w') (hr : RowAt w b cs t) (hn : b ≠ rb) : RowAt w' b cs t := by
  unfold RowAt; rw [h.block b (RowAt.lt hr) hn]; exact hr
theorem nt_lt' (x : Nat) : nt x < 4294967296 := by unfold nt; omega

set_option maxHeartbeats 2000000 in
theorem bsum1_any (sb : Nat) (v : Value) (p l : List UInt8) (w : World) (hp : p.length ≤ 140737488355328) (hs : SumAt w sb l) (hr : Rd w v p) (ht : Tab w) :
    Calls Tryd.prog 21 #[v, .pointer (some ⟨sb, 0, none⟩)] w fun e w' => e = .returned (.tuple #[]) ∧ SumAt w' sb (l ++ p) ∧ M.Sole sb w w' := by
  have HC := hide (crcMore_rd (nt (crcReg (nt 0) l)) _ v p w rfl (nt_lt' _) hp hr ht)
  have HS := hide hs
  have q0 := hs.cell
  have y0 := RowAt.free hs 0
  have HV : Hid (nt (crcReg (nt (nt (crcReg (nt 0) l))) p) = nt (crcReg (nt 0) (l ++ p))) := by show _ = _; rw [nt2 _ (crcReg_lt' l), crcReg_append]
  rw [HV.out] at HC
  clear hs hr ht hp HV
  generalize nt (crcReg (nt 0) l) = R at *
  go_enter Tryd.func21, Tryd.ntmps21
  go_wp2_with fail
  refine HC.out.mono ?_
  rintro e w1 ⟨rfl, rfl⟩
  go_wp2
  go_end0
  refine ⟨rfl, ?_, M.Sole.set sb 0 _ _⟩
  exact Go.heap_setCell_same _ sb 0 _ _ _ HS.out

/-- The closures of eachPiece: a number in so many bytes, summed. -/
def fnV (sb : Nat) : Value := .func (.func 21) #[] #[.pointer (some ⟨sb, 0, none⟩)]
set_option maxHeartbeats 4000000 in
theorem beach1_any (fb sb n : Nat) (l : List UInt8) (w : World) (hn : n < 4294967296) (hf : w.cell? ⟨fb, 0, none⟩ = some (fnV sb)) (hs : SumAt w sb l) (ht : Tab w) :
    Calls Tryd.prog 34 #[.int .i64 (n : Int), .pointer (some ⟨fb, 0, none⟩)] w fun e w' => e = .returned (.tuple #[]) ∧ SumAt w' sb (l ++ beBytes n 4) ∧ M.Sole sb w w' := by
  have HD := hide (fun W => bdig_any n 4 W (by omega) (by decide) (by decide) (by omega))
  have HS := hide (fun W v (hb : Below w.heap.size w W) (hr : Rd W v (beBytes n 4)) => bsum1_any sb v (beBytes n 4) l W (by rw [beBytes_len n 4 (by decide)]; decide) (hs.below hb) hr (ht.below hb))
  have hw : IntKind.u64.wrap (n : Int) = (n : Int) := by rw [IntKind.wrap_u64]; omega
  have HF := hide (fun W (hb : Below w.heap.size w W) => (hb.cell (p := ⟨fb, 0, none⟩) (World.block_lt_of_cell? w _ hf)).trans hf)
  have cf : w.cell? ⟨fb, 0, none⟩ = some (.func (.func 21) #[] #[.pointer (some ⟨sb, 0, none⟩)]) := hf
  clear hf hs ht
  unfold fnV at HF
  go_enter Tryd.func34, Tryd.ntmps34
  go_region_with (first
    | (go_at_call 35; refine (HD.out _).mono ?_; rintro e w1 ⟨g, c, rfl, hr, hd⟩; have hb : Below w.heap.size w w1 := ⟨hd.os, hd.tape, hd.output, hd.size, hd.block⟩; have cf := HF.out _ hb; have HB := hide hb; have HR := hide hr; clear hr hb hd)
    | (go_at_call 21; refine (HS.out _ _ HB.out HR.out).mono ?_; rintro e w2 ⟨rfl, hs2, hq2⟩; have HS2 := hide hs2; have HQ2 := hide hq2; clear hs2 hq2))
  all_goals
    go_end0
    exact ⟨rfl, HS2.out, (M.Sole.of_below HB.out).trans HQ2.out⟩
set_option maxHeartbeats 4000000 in
theorem beach2_any (fb sb n : Nat) (l : List UInt8) (w : World) (hn : n < 18446744073709551616) (hf : w.cell? ⟨fb, 0, none⟩ = some (fnV sb)) (hs : SumAt w sb l) (ht : Tab w) :
    Calls Tryd.prog 36 #[.int .u64 (n : Int), .pointer (some ⟨fb, 0, none⟩)] w fun e w' => e = .returned (.tuple #[]) ∧ SumAt w' sb (l ++ beBytes n 8) ∧ M.Sole sb w w' := by
  have HD := hide (fun W => bdig_any n 8 W (by omega) (by decide) (by decide) (by omega))
  have HS := hide (fun W v (hb : Below w.heap.size w W) (hr : Rd W v (beBytes n 8)) => bsum1_any sb v (beBytes n 8) l W (by rw [beBytes_len n 8 (by decide)]; decide) (hs.below hb) hr (ht.below hb))
  have HF := hide (fun W (hb : Below w.heap.size w W) => (hb.cell (p := ⟨fb, 0, none⟩) (World.block_lt_of_cell? w _ hf)).trans hf)
  have cf : w.cell? ⟨fb, 0, none⟩ = some (.func (.func 21) #[] #[.pointer (some ⟨sb, 0, none⟩)]) := hf
  clear hf hs ht
  unfold fnV at HF
  go_enter Tryd.func36, Tryd.ntmps36
  go_region_with (first
    | (go_at_call 35; refine (HD.out _).mono ?_; rintro e w1 ⟨g, c, rfl, hr, hd⟩; have hb : Below w.heap.size w w1 := ⟨hd.os, hd.tape, hd.output, hd.size, hd.block⟩; have cf := HF.out _ hb; have HB := hide hb; have HR := hide hr; clear hr hb hd)
    | (go_at_call 21; refine (HS.out _ _ HB.out HR.out).mono ?_; rintro e w2 ⟨rfl, hs2, hq2⟩; have HS2 := hide hs2; have HQ2 := hide hq2; clear hs2 hq2))
  all_goals
    go_end0
    exact ⟨rfl, HS2.out, (M.Sole.of_below HB.out).trans HQ2.out⟩
end Go.Proofs.YtpeobpmooledaaaDoor
