import Derived.Test.YtnaedmmfiiebaaaGreatDoorG30
import Derived.Test.YtnaedmmfiiebaaaGreatDoorG25
import Derived.Test.YtnaedmmfiiebaaaGreatDoorG29
namespace Go.Proofs.YtnaedmmfiiebaaaGreatDoor.S
open Go.RowKit

set_option maxRecDepth 100000 in
set_option maxHeartbeats 1000000 in
theorem read_short (a : Addr) (a0 : Option Addr) (n cap : Nat) (l : List UInt8) (id : Int) (w : World) (hl : l.length = n) (hn : n ≠ 4096) (hE : w.cell? ⟨1, 0, none⟩ = some (.iface 360 (.pointer (some a)))) :
    Calls Tryz.prog 152 #[.slice a0 n cap, .int .i64 id] w fun e w' => e = .returned (.tuple (readV a l id)) ∧ Below w.heap.size w w' := by
  have HOK : Hid (¬ okRead l id) := fun h => hn (hl.symm.trans h.1)
  have hd0 : ((n : Int) != 4096) = true := by rw [bne_iff_ne]; omega
  have HBF : Hid (Below w.heap.size w (w.alloc (.cells #[.int .i64 0, .int .i64 0, .int .u64 0, .int .i64 0, .string ⟨#[]⟩] 87))) := below_new w _
  have HROW : Hid ((w.alloc (.cells #[.int .i64 0, .int .i64 0, .int .u64 0, .int .i64 0, .string ⟨#[]⟩] 87)).heap[w.heap.size]? = some (.cells #[.int .i64 0, .int .i64 0, .int .u64 0, .int .i64 0, .string ⟨#[]⟩] 87 (0, 0))) := heap_alloc_new w _
  have hlt : 1 < w.heap.size := World.block_lt_of_cell? w _ hE
  have cE : (w.alloc (.cells #[.int .i64 0, .int .i64 0, .int .u64 0, .int .i64 0, .string ⟨#[]⟩] 87)).cell? ⟨1, 0, none⟩ = some (.iface 360 (.pointer (some a))) := (HBF.out.cell (p := ⟨1, 0, none⟩) hlt).trans hE
  have hne : ¬ w.heap.size = 1 := by omega
  clear hl hn hE
  go_enter Tryz.func152, Tryz.ntmps152
  go_wp2_with fail
  generalize hW : (w.alloc (.cells #[.int .i64 0, .int .i64 0, .int .u64 0, .int .i64 0, .string ⟨#[]⟩] 87)) = W0 at *
  have hr := HROW.out
  have z0 : W0.cell? ⟨w.heap.size, 0, none⟩ = some (.int .i64 0) := by rw [cell_of_row _ _ _ _ _ _ hr]; rfl
  have z1 : W0.cell? ⟨w.heap.size, 1, none⟩ = some (.int .i64 0) := by rw [cell_of_row _ _ _ _ _ _ hr]; rfl
  have z2 : W0.cell? ⟨w.heap.size, 2, none⟩ = some (.int .u64 0) := by rw [cell_of_row _ _ _ _ _ _ hr]; rfl
  have z3 : W0.cell? ⟨w.heap.size, 3, none⟩ = some (.int .i64 0) := by rw [cell_of_row _ _ _ _ _ _ hr]; rfl
  have z4 : W0.cell? ⟨w.heap.size, 4, none⟩ = some (.string ⟨#[]⟩) := by rw [cell_of_row _ _ _ _ _ _ hr]; rfl
  have y0 : W0.frozen? ⟨w.heap.size, 0, none⟩ = false := frozen_of_row _ _ _ _ _ hr
  have y1 : W0.frozen? ⟨w.heap.size, 1, none⟩ = false := frozen_of_row _ _ _ _ _ hr
  have y2 : W0.frozen? ⟨w.heap.size, 2, none⟩ = false := frozen_of_row _ _ _ _ _ hr
  have y3 : W0.frozen? ⟨w.heap.size, 3, none⟩ = false := frozen_of_row _ _ _ _ _ hr
  have y4 : W0.frozen? ⟨w.heap.size, 4, none⟩ = false := frozen_of_row _ _ _ _ _ hr
  clear hW hr
  go_region_held3 (fun w' => w'.cell? ⟨1, 0, none⟩ = some (.iface 360 (.pointer (some a)))) (go_keep) (fail)
  go_wp2_with fail
  (try simp only [Exit.inBlock, Exit.then])
  refine bodyPost_ret (results_row_tmp rfl _ _ w.heap.size 87 #[.int .i64 0, .int .i64 0, .int .u64 0, .int .i64 0, .string ⟨#[]⟩] (0, 0) _ rfl (set_five_drew HROW.out) Tryz.underlying87 rfl (by kernel_rfl)) rfl ⟨?_, (below_five HBF.out (Nat.le_refl _)).drew⟩
  rw [readV_no HOK.out]; rfl

/-- The slice value v, that begins its block, reads as the bytes l. -/
def RdB (w : World) (v : Value) (l : List UInt8) : Prop :=
  (v = .slice none 0 0 ∧ l = []) ∨ ∃ g cap, v = .slice (some ⟨g, 0, none⟩) l.length cap ∧ l.length ≤ cap ∧ cap ≤ 9223372036854775807 ∧ g < w.heap.size ∧ (∀ j (h : j < l.length), w.cell? ⟨g, j, none⟩ = some (.int .u8 (l[j].toNat : Int)))
theorem RdB.below {w w' : World} {v : Value} {l : List UInt8} (h : RdB w v l) (hb : Below w.heap.size w w') : RdB w' v l := by
  rcases h with h | ⟨g, cap, hv, h1, h2, h3, h4⟩
  · exact .inl h
  · exact .inr ⟨g, cap, hv, h1, h2, Nat.lt_of_lt_of_le h3 hb.size, fun j hj => (hb.cell (p := ⟨g, j, none⟩) h3).trans (h4 j hj)⟩

theorem read_any (a : Addr) (v : Value) (l : List UInt8) (id : Int) (w : World) (hr : RdB w v l) (hL : Lay w) (hT : Tab w) (hE : w.cell? ⟨1, 0, none⟩ = some (.iface 360 (.pointer (some a)))) :
    Calls Tryz.prog 152 #[v, .int .i64 id] w fun e w' => e = .returned (.tuple (readV a l id)) ∧ Below w.heap.size w w' := by
  rcases hr with ⟨rfl, rfl⟩ | ⟨g, cap, rfl, h1, h2, h3, h4⟩
  · exact read_short a none 0 0 [] id w rfl (by decide) hE
  · by_cases hl : l.length = 4096
    · rw [hl] at h1 ⊢
      exact read_len a g cap l id w hl h1 h2 hL hT hE h4
    · exact read_short a _ l.length cap l id w rfl hl hE

end Go.Proofs.YtnaedmmfiiebaaaGreatDoor.S

namespace Go.Proofs.YtnaedmmfiiebaaaGreatDoor.S
open Go.RowKit

theorem nums_bare0 (k c i t sum : Nat) (body : List UInt8) : nums (bare k c i t sum body) 0 = beNat (beBytes k 1) := rfl
theorem nums_bare1 (k c i t sum : Nat) (body : List UInt8) : nums (bare k c i t sum body) 1 = beNat (beBytes c 2) := rfl
theorem nums_bare2 (k c i t sum : Nat) (body : List UInt8) : nums (bare k c i t sum body) 2 = beNat (beBytes i 4) := rfl
theorem nums_bare3 (k c i t sum : Nat) (body : List UInt8) : nums (bare k c i t sum body) 3 = beNat (beBytes t 8) := rfl
theorem drop_bare (k c i t sum : Nat) (body : List UInt8) : (bare k c i t sum body).drop 24 = body := rfl

theorem parse_page (s : Sh) (hm : May s) (hx : s.txid < 18446744073709551616) : parse (page s) = s := by
  obtain ⟨k, i, t, c, b⟩ := s
  obtain ⟨hk, ⟨hc1, hc2⟩, ⟨hi1, hi2⟩, hb⟩ := hm
  simp only at hk hc1 hc2 hi1 hi2 hb hx
  obtain ⟨k, rfl⟩ := Int.eq_ofNat_of_zero_le (show 0 ≤ k by omega)
  obtain ⟨c, rfl⟩ := Int.eq_ofNat_of_zero_le hc1
  obtain ⟨i, rfl⟩ := Int.eq_ofNat_of_zero_le (show 0 ≤ i by omega)
  have h : page ⟨(k : Int), (i : Int), t, (c : Int), b⟩ = bare k c i t (crcV (pageB ⟨(k : Int), (i : Int), t, (c : Int), b⟩ 0)) b.data.toList := rfl
  rw [h]
  generalize crcV (pageB ⟨(k : Int), (i : Int), t, (c : Int), b⟩ 0) = sum
  unfold parse
  rw [nums_bare0, nums_bare1, nums_bare2, nums_bare3, drop_bare, back_num 1 k (by decide) (by show k < 2 ^ 8; omega), back_num 2 c (by decide) (by show c < 2 ^ 16; omega), back_num 4 i (by decide) (by show i < 2 ^ 32; omega), back_num 8 t (by decide) (by show t < 2 ^ 64; omega)]

theorem okRead_page (s : Sh) (hm : May s) (hx : s.txid < 18446744073709551616) (id : Int) : okRead (page s) id ↔ id = s.id := by
  unfold okRead
  rw [parse_page s hm hx]
  exact ⟨fun h => h.2.1.symm, fun h => ⟨page_len s hm, h.symm, hm, rfl⟩⟩

end Go.Proofs.YtnaedmmfiiebaaaGreatDoor.S

namespace Go.Proofs.YtnaedmmfiiebaaaGreatDoor.S
open Go.RowKit

/-- What a call over a device finds: the refusals, the tables, all below base. -/
structure Env (base : Nat) (A : Nat → Addr) (w : World) : Prop where
  errs : V.ErrsB base A w
  text : w.cell? ⟨1, 0, none⟩ = some (.iface 360 (.pointer (some (A 1))))
  lo : 1 < base ∧ 14 < base ∧ 15 < base
  lay : Lay w
  tab : Tab w
theorem Env.keep {base : Nat} {A : Nat → Addr} {w w' : World} (h : Env base A w) (hb : Below base w w') : Env base A w' := by
  obtain ⟨he, ht, ⟨l1, l2, l3⟩, ⟨h0, c0, c1, c2, c3, c4, c5, c6, c7, c8, c9⟩, hT⟩ := h
  exact ⟨he.keep hb, (hb.cell l1).trans ht, ⟨l1, l2, l3⟩, ⟨Nat.lt_of_lt_of_le h0 hb.size, (hb.cell l2).trans c0, (hb.cell l2).trans c1, (hb.cell l2).trans c2, (hb.cell l2).trans c3, (hb.cell l2).trans c4, (hb.cell l2).trans c5, (hb.cell l2).trans c6, (hb.cell l2).trans c7, (hb.cell l2).trans c8, (hb.cell l2).trans c9⟩,
    ⟨fun j hj => (hb.cell (p := ⟨15, j, none⟩) l3).trans (hT.1 j hj), Nat.lt_of_lt_of_le hT.2 hb.size⟩⟩
theorem Env.up {base : Nat} {A : Nat → Addr} {w w' : World} (h : Env base A w) (hb : Below w.heap.size w w') : Env base A w' := h.keep (hb.mono h.errs.size)
theorem Env.step {base : Nat} {A : Nat → Addr} {w w' : World} {F F' : Nat → Prop} (h : Env base A w) (hs : V.Step F F' w w') (hF : ∀ k, F k → base ≤ k) : Env base A w' := h.keep (hs.below hF h.errs.size)

set_option maxHeartbeats 400000 in
theorem first_any (i : Int) (w : World) (h1 : 0 ≤ i) (h2 : i ≤ 1048576) : Calls Tryz.prog 98 #[.int .i64 i] w fun e w' => e = .returned (.int .i64 (i * 8)) ∧ w = w' := by
  go_enter Tryz.func98, Tryz.ntmps98
  go_wp2
  go_ret
  exact ⟨rfl, rfl⟩

set_option maxHeartbeats 400000 in
theorem sholds_any (b : Nat) (F : Nat → Prop) (d : V.Dev) (i : Int) (w : World) (h : V.DevAt w b F d) (h1 : 0 ≤ i) (h2 : i < 1048576) :
    Calls Tryz.prog 96 #[.pointer (some ⟨b, 0, none⟩), .int .i64 i] w fun e w' => e = .returned (.bool (decide ((i + 1) * 8 ≤ d.size))) ∧ w = w' := by
  have S := V.size_any b F d w h
  have HS : Hid (Calls Tryz.prog 133 #[.pointer (some ⟨b, 0, none⟩)] w fun e w' => e = .returned (.int .i64 d.size) ∧ w = w') := S
  have FS := first_any (i + 1) w (by omega) (by omega)
  have HF : Hid (Calls Tryz.prog 98 #[.int .i64 (i + 1)] w fun e w' => e = .returned (.int .i64 ((i + 1) * 8)) ∧ w = w') := FS
  clear S FS h
  generalize d.size = sz at *
  go_enter Tryz.func96, Tryz.ntmps96
  go_wp2_with fail
  refine Calls.mono HS.out ?_
  rintro e w' ⟨rfl, rfl⟩
  go_wp2_with fail
  refine Calls.mono HF.out ?_
  rintro e w' ⟨rfl, rfl⟩
  go_wp2_with fail
  go_ret
  exact ⟨rfl, rfl⟩

end Go.Proofs.YtnaedmmfiiebaaaGreatDoor.S

namespace Go.Proofs.YtnaedmmfiiebaaaGreatDoor.S
open Go.RowKit

theorem rdb_of_owns {w : World} {base n : Nat} {v : Value} {l : List UInt8} (h : w.ownsRow base 5 1 v n (u8s l)) : RdB w v l := by
  rcases rd_of_owns h with h | ⟨g, cap, hv, h1, h2, h3, h4⟩
  · exact .inl h
  · exact .inr ⟨g, cap, hv, h1, Nat.le_trans h2 (by decide), h3, h4⟩
theorem five_step {w : World} {b : Nat} {u0 u1 u2 u3 u4 : Value} : V.Step (fun k => k = b) (fun k => k = b) w (((((w.setCell ⟨b, 0, none⟩ u0).setCell ⟨b, 1, none⟩ u1).setCell ⟨b, 2, none⟩ u2).setCell ⟨b, 3, none⟩ u3).setCell ⟨b, 4, none⟩ u4) := by
  have hs : Sole b w (((((w.setCell ⟨b, 0, none⟩ u0).setCell ⟨b, 1, none⟩ u1).setCell ⟨b, 2, none⟩ u2).setCell ⟨b, 3, none⟩ u3).setCell ⟨b, 4, none⟩ u4) :=
    ((((Sole.set b 0 w u0).trans (Sole.set b 1 _ u1)).trans (Sole.set b 2 _ u2)).trans (Sole.set b 3 _ u3)).trans (Sole.set b 4 _ u4)
  exact ⟨hs.os, hs.tape, hs.output, hs.size, hs.block, fun k h => .inl h⟩
/-- The device behind a Load. -/
def loadedD (d : V.Dev) : V.Dev := { d with nr := wrap64 (d.nr + 8) }
end Go.Proofs.YtnaedmmfiiebaaaGreatDoor.S
