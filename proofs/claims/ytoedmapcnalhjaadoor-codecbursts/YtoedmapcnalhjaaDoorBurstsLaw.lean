import Derived.Test.YtoedmapcnalhjaaDoorTurned
import Derived.Test.YtoedmapcnalhjaaDoorBox
import Derived.Deep.RegionHeld3
namespace Go.Proofs.YtoedmapcnalhjaaDoor
open Go.RowKit

theorem wrap_i64 (n : Int) (h1 : -9223372036854775808 ≤ n) (h2 : n ≤ 9223372036854775807) : IntKind.i64.wrap n = n := by
  simp [IntKind.wrap, IntKind.bits, IntKind.signed]
  omega
theorem crc_a : crcV [97] = 3251651376 := by decide

theorem nt_inj {a b : Nat} (ha : a < 4294967296) (hb : b < 4294967296) (h : nt a = nt b) : a = b := by unfold nt at h; omega
theorem crc_tells (l q : List UInt8) (r T : Nat) (hq : q.length = l.length) (hr : r ≤ 8 * l.length) (hle : leNat q = leNat l ^^^ (2 ^ r * T)) (hT : T < 2 ^ 32) (h0 : T ≠ 0) : crcV l ≠ crcV q := by
  intro h
  have h1 := nt_inj (crcReg_lt l _ (nt_lt 0)) (crcReg_lt q _ (nt_lt 0)) h
  rw [crcReg_le, crcReg_le, hq, hle] at h1
  exact burst_tells (nt 0) (leNat l) (8 * l.length) r T hr hT h0 h1
set_option maxHeartbeats 1000000 in
theorem bursts_any (s : ByteArray) (at' : Int) (turn : Nat) (w : World) (hs : s.size ≤ 140737488351232) (ha1 : -9223372036854775808 ≤ at') (ha2 : at' ≤ 9223372036854775807) (hturn : turn < 4294967296) (ht : Tab w) :
    Calls Tryd.prog 8 #[.agg #[.string s, .int .i64 at', .int .u32 (turn : Int)]] w fun e w' => e = .returned (.bool true) ∧ Below w.heap.size w w' := by
  go_enter Tryd.func8, Tryd.ntmps8
  go_wp2_with fail
  have hbx := boxed_new w #[.string s, .int .i64 at', .int .u32 (turn : Int)] 51
  have hb0 := below_new w (.cells #[.string s, .int .i64 at', .int .u32 (turn : Int)] 51)
  generalize w.alloc (.cells #[.string s, .int .i64 at', .int .u32 (turn : Int)] 51) = W0 at *
  have ht0 : Tab W0 := ht.below hb0
  clear ht
  refine (bytes_any _ _ (by decide)).mono ?_
  rintro e w1 ⟨v1, rfl, hown1, hb1⟩
  have r1 := rd_of_owns hown1
  have ht1 := ht0.below hb1
  have hx1 := hbx.below hb1
  have hb01 := Below.next hb0 hb1
  clear hown1 ht0 hbx hb0 hb1
  go_wp2_with fail
  refine (crc_rd _ _ _ (by decide) r1 ht1).mono ?_
  rintro e w1' ⟨rfl, rfl⟩
  have e1 : ((crcV (⟨#[97]⟩ : ByteArray).data.toList : Nat) : Int) = 3251651376 := congrArg Nat.cast crc_a
  rw [e1]
  clear e1 r1
  have c0 : w1.cell? ⟨w.heap.size, 0, none⟩ = some (.string s) := hx1.2 0 (by simp)
  go_wp2_with fail
  refine (bytes_any s _ (by omega)).mono ?_
  rintro e w2 ⟨v2, rfl, hown2, hb2⟩
  have r2 := rd_of_owns hown2
  have ht2 := ht1.below hb2
  have hx2 := hx1.below hb2
  have hb02 := Below.next hb01 hb2
  obtain ⟨a0, cap, rfl⟩ : ∃ a0 cap, v2 = .slice a0 s.size cap := by
    rcases hown2.2 with ⟨h', h0⟩ | ⟨g, cap, cur, h', _⟩
    · exact ⟨none, 0, by rw [h', h0]⟩
    · exact ⟨_, cap, h'⟩
  clear hown2 ht1 hx1 hb01 hb2 c0
  have c1 : w2.cell? ⟨w.heap.size, 1, none⟩ = some (.int .i64 at') := hx2.2 1 (by simp)
  have c2 : w2.cell? ⟨w.heap.size, 2, none⟩ = some (.int .u32 (turn : Int)) := hx2.2 2 (by simp)
  have hlen : s.data.toList.length = s.size := by simp
  have hwr : IntKind.i64.wrap (8 * (s.size : Int)) = 8 * (s.size : Int) := wrap_i64 _ (by omega) (by omega)
  go_wp2_with fail
  go_region_held3 (fun w' => w'.cell? ⟨w.heap.size, 1, none⟩ = some (.int .i64 at') ∧ w'.cell? ⟨w.heap.size, 2, none⟩ = some (.int .u32 (turn : Int))) (go_keep)
    (first
      | (go_at_call 18; refine (pick_any at' (8 * (s.size : Int)) _ ?_ ?_ ha1 ha2).mono ?_; (omega); (omega); rintro e w' ⟨r, rfl, hp, rfl⟩)
      | (go_at_call 17; refine (turned_rd _ s.data.toList r turn _ ?_ ?_ hturn ?_).mono ?_; (omega); (rw [hlen]; have := hp.1; have := hp.2; omega); (exact r2); rintro e w3 ⟨v3, T, q, bb, rfl, hown3, hq, hle, hT, hbb, hb3d⟩; have hb3 : Below w2.heap.size w2 w3 := ⟨hb3d.os, hb3d.tape, hb3d.output, hb3d.size, hb3d.block⟩; clear hb3d; have k1 : w3.cell? ⟨w.heap.size, 1, none⟩ = some (.int .i64 at') := (hx2.below hb3).2 1 (by simp); have k2 : w3.cell? ⟨w.heap.size, 2, none⟩ = some (.int .u32 (turn : Int)) := (hx2.below hb3).2 2 (by simp)))
  have r3 : Rd w3 v3 q := rd_of_owns hown3
  have r2' : Rd w3 (.slice a0 s.size cap) s.data.toList := r2.below hb3
  have ht3 : Tab w3 := ht2.below hb3
  have hb03 : Below w.heap.size w w3 := Below.next hb02 hb3
  have hrl : r ≤ 8 * s.size := by have := hp.1; have := hp.2; omega
  have HF : Hid (bb = true → crcV s.data.toList ≠ crcV q) := fun h => crc_tells s.data.toList q r T hq (by rw [hlen]; exact hrl) hle hT (hbb h)
  clear hown3 hle hT hbb hb3 hb02 ht2 hx2 r2 hwr hp k1 k2 c1 c2
  cases bb
  · go_wp2_with fail
    go_ret
    exact ⟨rfl, hb03⟩
  · have hne := HF.out rfl
    have hne2 : (((crcV s.data.toList : Nat) : Int) != ((crcV q : Nat) : Int)) = true := by
      rw [bne_iff_ne]; intro h; exact hne (Int.ofNat.inj h)
    go_wp2_with fail
    refine (crc_rd _ s.data.toList _ (by omega) r2' ht3).mono ?_
    rintro e w4 ⟨rfl, rfl⟩
    go_wp2_with fail
    refine (crc_rd _ q _ (by omega) r3 ht3).mono ?_
    rintro e w5 ⟨rfl, rfl⟩
    go_wp2_with fail
    go_ret
    exact ⟨rfl, hb03⟩

end Go.Proofs.YtoedmapcnalhjaaDoor
