import Derived.Test.YtnaedmmfiiebaaaGreatDoorG29
import Derived.Test.YtnaedmmfiiebaaaGreatDoorG26
import Derived.BigQuiet
import Derived.Laws.IdiomStrings
import Derived.Deep.RegionHeld3
import Derived.Laws.ResultCell
namespace Go.Proofs.YtnaedmmfiiebaaaGreatDoor.S
open Go.RowKit

theorem set_five {w : World} {b : Nat} {t : TypeId} {v0 v1 v2 v3 v4 u0 u1 u2 u3 u4 : Value} (h : w.heap[b]? = some (.cells #[v0, v1, v2, v3, v4] t (0, 0))) :
    (((((w.setCell ⟨b, 0, none⟩ u0).setCell ⟨b, 1, none⟩ u1).setCell ⟨b, 2, none⟩ u2).setCell ⟨b, 3, none⟩ u3).setCell ⟨b, 4, none⟩ u4).heap[b]? = some (.cells #[u0, u1, u2, u3, u4] t (0, 0)) :=
  heap_setCell_same _ b 4 _ t u4 (heap_setCell_same _ b 3 _ t u3 (heap_setCell_same _ b 2 _ t u2 (heap_setCell_same _ b 1 _ t u1 (heap_setCell_same w b 0 _ t u0 h))))

set_option maxHeartbeats 1000000 in
theorem readHead_any (g cap : Nat) (l : List UInt8) (w : World) (hl : l.length = 4096) (hcap : 4096 ≤ cap) (hcm : cap ≤ 9223372036854775807) (hL : Lay w)
    (hc : ∀ j (h : j < l.length), w.cell? ⟨g, j, none⟩ = some (.int .u8 (l[j].toNat : Int))) :
    Calls Tryz.prog 187 #[.slice (some ⟨g, 0, none⟩) 4096 cap] w fun e w' => e = .returned (.agg #[.int .u64 (nums l 0 : Int), .int .u64 (nums l 1 : Int), .int .u64 (nums l 2 : Int), .int .u64 (nums l 3 : Int), .int .u64 (nums l 4 : Int)]) ∧ Below w.heap.size w w' := by
  have hgl : g < w.heap.size := World.block_lt_of_cell? w _ (hc 0 (by omega))
  have hb0 : Below w.heap.size w ((w.alloc (.cells #[.int .u64 0, .int .u64 0, .int .u64 0, .int .u64 0, .int .u64 0] 256)).alloc (.cells #[.int .u64 0, .int .u64 0, .int .u64 0, .int .u64 0, .int .u64 0] 256)) := Below.next (below_new w _) (below_new _ _)
  have C := eachR_any g (w.heap.size + 1) cap l ((w.alloc (.cells #[.int .u64 0, .int .u64 0, .int .u64 0, .int .u64 0, .int .u64 0] 256)).alloc (.cells #[.int .u64 0, .int .u64 0, .int .u64 0, .int .u64 0, .int .u64 0] 256)) hl hcap hcm (by omega) (hL.below hb0)
    (by
      have h := heap_alloc_new (w.alloc (.cells #[.int .u64 0, .int .u64 0, .int .u64 0, .int .u64 0, .int .u64 0] 256)) (.cells #[.int .u64 0, .int .u64 0, .int .u64 0, .int .u64 0, .int .u64 0] 256)
      rw [show (w.alloc (.cells #[.int .u64 0, .int .u64 0, .int .u64 0, .int .u64 0, .int .u64 0] 256)).heap.size = w.heap.size + 1 by simp] at h
      exact h)
    (fun j hj => (hb0.cell (p := ⟨g, j, none⟩) hgl).trans (hc j hj))
  have HC : Hid (Calls Tryz.prog 215 #[.slice (some ⟨g, 0, none⟩) 4096 cap, .func (.func 226) #[] #[.pointer (some ⟨w.heap.size + 1, 0, none⟩)]] ((w.alloc (.cells #[.int .u64 0, .int .u64 0, .int .u64 0, .int .u64 0, .int .u64 0] 256)).alloc (.cells #[.int .u64 0, .int .u64 0, .int .u64 0, .int .u64 0, .int .u64 0] 256)) fun e w' => e = .returned (.tuple #[]) ∧ HeadAt w' (w.heap.size + 1) (numsTo l 5) ∧ Sole (w.heap.size + 1) ((w.alloc (.cells #[.int .u64 0, .int .u64 0, .int .u64 0, .int .u64 0, .int .u64 0] 256)).alloc (.cells #[.int .u64 0, .int .u64 0, .int .u64 0, .int .u64 0, .int .u64 0] 256)) w') := C
  have HB0 := hide hb0
  have HR0 : Hid (((w.alloc (.cells #[.int .u64 0, .int .u64 0, .int .u64 0, .int .u64 0, .int .u64 0] 256)).alloc (.cells #[.int .u64 0, .int .u64 0, .int .u64 0, .int .u64 0, .int .u64 0] 256)).heap[w.heap.size]? = some (.cells #[.int .u64 0, .int .u64 0, .int .u64 0, .int .u64 0, .int .u64 0] 256 (0, 0))) := by
    show _ = _
    rw [(below_new (w.alloc (.cells #[.int .u64 0, .int .u64 0, .int .u64 0, .int .u64 0, .int .u64 0] 256)) _).block w.heap.size (by simp)]
    exact heap_alloc_new w _
  clear C hb0 hc hL hl
  go_enter Tryz.func187, Tryz.ntmps187
  go_wp2_with fail
  have HSZ : Hid (w.heap.size + 1 < ((w.alloc (.cells #[.int .u64 0, .int .u64 0, .int .u64 0, .int .u64 0, .int .u64 0] 256)).alloc (.cells #[.int .u64 0, .int .u64 0, .int .u64 0, .int .u64 0, .int .u64 0] 256)).heap.size) := by show _ < _; simp
  generalize ((w.alloc (.cells #[.int .u64 0, .int .u64 0, .int .u64 0, .int .u64 0, .int .u64 0] 256)).alloc (.cells #[.int .u64 0, .int .u64 0, .int .u64 0, .int .u64 0, .int .u64 0] 256)) = W0 at *
  refine Calls.mono HC.out ?_
  rintro e w1 ⟨rfl, hh, hs⟩
  have d0 : w1.cell? ⟨w.heap.size + 1, 0, none⟩ = some (.int .u64 (nums l 0 : Int)) := by rw [hh.cell 0 (by decide), numsTo_five _ _ (by decide)]
  have d1 : w1.cell? ⟨w.heap.size + 1, 1, none⟩ = some (.int .u64 (nums l 1 : Int)) := by rw [hh.cell 1 (by decide), numsTo_five _ _ (by decide)]
  have d2 : w1.cell? ⟨w.heap.size + 1, 2, none⟩ = some (.int .u64 (nums l 2 : Int)) := by rw [hh.cell 2 (by decide), numsTo_five _ _ (by decide)]
  have d3 : w1.cell? ⟨w.heap.size + 1, 3, none⟩ = some (.int .u64 (nums l 3 : Int)) := by rw [hh.cell 3 (by decide), numsTo_five _ _ (by decide)]
  have d4 : w1.cell? ⟨w.heap.size + 1, 4, none⟩ = some (.int .u64 (nums l 4 : Int)) := by rw [hh.cell 4 (by decide), numsTo_five _ _ (by decide)]
  have hr1 : w1.heap[w.heap.size]? = some (.cells #[.int .u64 0, .int .u64 0, .int .u64 0, .int .u64 0, .int .u64 0] 256 (0, 0)) := by rw [hs.block w.heap.size (by have := HSZ.out; omega) (by omega)]; exact HR0.out
  have HR1 := hide hr1
  have HB1 : Hid (Below w.heap.size w w1) := hs.below HB0.out (by omega)
  have f0 : w1.frozen? ⟨w.heap.size, 0, none⟩ = false := frozen_of_row _ _ _ _ _ hr1
  have f1 : w1.frozen? ⟨w.heap.size, 1, none⟩ = false := frozen_of_row _ _ _ _ _ hr1
  have f2 : w1.frozen? ⟨w.heap.size, 2, none⟩ = false := frozen_of_row _ _ _ _ _ hr1
  have f3 : w1.frozen? ⟨w.heap.size, 3, none⟩ = false := frozen_of_row _ _ _ _ _ hr1
  have f4 : w1.frozen? ⟨w.heap.size, 4, none⟩ = false := frozen_of_row _ _ _ _ _ hr1
  have g0 : w1.cell? ⟨w.heap.size, 0, none⟩ = some (.int .u64 0) := by rw [cell_of_row _ _ _ _ _ _ hr1]; rfl
  have g1 : w1.cell? ⟨w.heap.size, 1, none⟩ = some (.int .u64 0) := by rw [cell_of_row _ _ _ _ _ _ hr1]; rfl
  have g2 : w1.cell? ⟨w.heap.size, 2, none⟩ = some (.int .u64 0) := by rw [cell_of_row _ _ _ _ _ _ hr1]; rfl
  have g3 : w1.cell? ⟨w.heap.size, 3, none⟩ = some (.int .u64 0) := by rw [cell_of_row _ _ _ _ _ _ hr1]; rfl
  have g4 : w1.cell? ⟨w.heap.size, 4, none⟩ = some (.int .u64 0) := by rw [cell_of_row _ _ _ _ _ _ hr1]; rfl
  clear hh hs hr1 HC HB0 HR0
  go_wp2_with fail
  refine bodyPost_ret (results_cell_row rfl _ _ w.heap.size 256 #[.int .u64 (nums l 0 : Int), .int .u64 (nums l 1 : Int), .int .u64 (nums l 2 : Int), .int .u64 (nums l 3 : Int), .int .u64 (nums l 4 : Int)] (0, 0) _ rfl (set_five HR1.out) Tryz.underlying256 rfl (by kernel_rfl)) rfl ⟨rfl, ?_⟩
  exact ((((HB1.out.setCell (Nat.le_refl _) _).setCell (Nat.le_refl _) _).setCell (Nat.le_refl _) _).setCell (Nat.le_refl _) _).setCell (Nat.le_refl _) _

end Go.Proofs.YtnaedmmfiiebaaaGreatDoor.S

namespace Go.Proofs.YtnaedmmfiiebaaaGreatDoor.S
open Go.RowKit

theorem below_drewN' {B : Nat} {a w : World} (h : Below B a w) (n : Nat) : Below B a (w.drewN n) := ⟨h.os, h.tape, h.output, h.size, h.block⟩

/-- Where a slice value's bytes lie. -/
def RdA (w : World) (v : Value) (l : List UInt8) : Prop := ∃ a cap, v = .slice a l.length cap ∧ ∀ j (h : j < l.length), ∃ g o, a = some ⟨g, o, none⟩ ∧ w.cell? ⟨g, o + j, none⟩ = some (.int .u8 (l[j].toNat : Int))
theorem Rd.any {w : World} {v : Value} {l : List UInt8} (h : Rd w v l) : RdA w v l := by
  rcases h with ⟨rfl, rfl⟩ | ⟨g, cap, rfl, _, _, _, hc⟩
  · exact ⟨none, 0, rfl, fun j h => by simp at h⟩
  · exact ⟨_, cap, rfl, fun j h => ⟨g, 0, rfl, by rw [Nat.zero_add]; exact hc j h⟩⟩

theorem run_str (w : World) (v : Value) (l : List UInt8) (h : RdA w v l) (hl : 0 < l.length) : (convert 145 9 v).run Tryz.prog w = .ok (.string ⟨l.toArray⟩) w := by
  obtain ⟨a, cap, rfl, hc⟩ := h
  obtain ⟨g, o, rfl, _⟩ := hc 0 hl
  refine run_convert_bytes_back w 145 9 5 ⟨g, o, none⟩ cap l Tryz.underlying145 Tryz.underlying5 Tryz.underlying9 (fun j hj => ?_)
  obtain ⟨g', o', he, hcell⟩ := hc j hj
  cases he
  rw [show (⟨g, o, none⟩ : Addr).add j = ⟨g, o + j, none⟩ by simp [Addr.add]]
  exact hcell

end Go.Proofs.YtnaedmmfiiebaaaGreatDoor.S

namespace Go.Proofs.YtnaedmmfiiebaaaGreatDoor.S
open Go.RowKit

set_option maxHeartbeats 400000 in
theorem equal_any (v1 v2 : Value) (l1 l2 : List UInt8) (w : World) (r1 : RdA w v1 l1) (r2 : RdA w v2 l2) (h1 : 0 < l1.length) (h2 : 0 < l2.length) :
    Calls Tryz.prog 188 #[v1, v2] w fun e w' => e = .returned (.bool (decide (l1 = l2))) ∧ w = w' := by
  have s1 := run_str w v1 l1 r1 h1
  have s2 := run_str w v2 l2 r2 h2
  obtain ⟨a1, c1, rfl, _⟩ := r1
  obtain ⟨a2, c2, rfl, _⟩ := r2
  clear h1 h2
  go_enter Tryz.func188, Tryz.ntmps188
  go_wp2_with fail
  go_ret
  refine ⟨?_, rfl⟩
  show Ending.returned (.bool (l1 == l2)) = _
  have e : (l1 == l2) = decide (l1 = l2) := by by_cases h : l1 = l2 <;> simp [h]
  rw [e]

end Go.Proofs.YtnaedmmfiiebaaaGreatDoor.S

namespace Go.Proofs.YtnaedmmfiiebaaaGreatDoor.S
open Go.RowKit

/-- What the bytes of a page could be of. -/
def parse (l : List UInt8) : Sh := ⟨(nums l 0 : Int), (nums l 2 : Int), nums l 3, (nums l 1 : Int), ⟨(l.drop 24).toArray⟩⟩
/-- When bytes are the page of that number. -/
def okRead (l : List UInt8) (id : Int) : Prop := l.length = 4096 ∧ (parse l).id = id ∧ May (parse l) ∧ page (parse l) = l
instance (l : List UInt8) (id : Int) : Decidable (okRead l id) := inferInstanceAs (Decidable (_ ∧ _))

/-- What Read answers. -/
def readV (a : Addr) (l : List UInt8) (id : Int) : Array Value := if okRead l id then #[.agg (parse l).cells.toArray, .nilIface] else #[.agg #[.int .i64 0, .int .i64 0, .int .u64 0, .int .i64 0, .string ⟨#[]⟩], .iface 360 (.pointer (some a))]
theorem readV_ok {a : Addr} {l : List UInt8} {id : Int} (h : okRead l id) : readV a l id = #[.agg #[.int .i64 (nums l 0 : Int), .int .i64 (nums l 2 : Int), .int .u64 (nums l 3 : Int), .int .i64 (nums l 1 : Int), .string ⟨(l.drop 24).toArray⟩], .nilIface] := by unfold readV; rw [if_pos h]; rfl
theorem readV_no {a : Addr} {l : List UInt8} {id : Int} (h : ¬ okRead l id) : readV a l id = #[.agg #[.int .i64 0, .int .i64 0, .int .u64 0, .int .i64 0, .string ⟨#[]⟩], .iface 360 (.pointer (some a))] := by unfold readV; rw [if_neg h]

theorem nums_lt (l : List UInt8) (k : Nat) : nums l k < 256 ^ width k := by
  have h := beNat_lt (sub l (place k) (width k))
  exact Nat.lt_of_lt_of_le h (Nat.pow_le_pow_right (by decide) (by simp [sub]; omega))
theorem nums0 (l : List UInt8) : nums l 0 < 256 := nums_lt l 0
theorem nums1 (l : List UInt8) : nums l 1 < 65536 := nums_lt l 1
theorem nums2 (l : List UInt8) : nums l 2 < 4294967296 := nums_lt l 2
theorem nums3 (l : List UInt8) : nums l 3 < 18446744073709551616 := nums_lt l 3

theorem conv_body (g cap : Nat) (l : List UInt8) (W : World) (hl : l.length = 4096) (hc : ∀ j (h : j < l.length), W.cell? ⟨g, j, none⟩ = some (.int .u8 (l[j].toNat : Int))) :
    (convert 145 9 (.slice (some ⟨g, 24, none⟩) 4072 (cap - 24))).run Tryz.prog W = .ok (.string ⟨(l.drop 24).toArray⟩) W := by
  refine run_str W _ (l.drop 24) ⟨_, cap - 24, by rw [List.length_drop, hl], fun j hj => ⟨g, 24, rfl, ?_⟩⟩ (by rw [List.length_drop, hl]; decide)
  rw [hc (24 + j) (by rw [List.length_drop] at hj; omega), List.getElem_drop]

theorem results_row_tmp {P : Program} {fn : Func} {p u : Tmp} {ty : TypeId} (h : fn.results = #[.cell p ty, .tmp u]) (tmps : Array Value) (w : World) (g : Nat) (t : TypeId) (cs : Array Value) (fr : Nat × Nat) (d : TypeDesc)
    (hp : tmps.getD p undef = .pointer (some ⟨g, 0, none⟩)) (hg : w.heap[g]? = some (.cells cs t fr)) (hu : P.underlying ty = some d) (hd : (match d with | .struct _ | .array _ _ => true | _ => false) = true) (hi : (P.info? ty).map (·.size) = some cs.size) :
    (results fn tmps).run P w = .ok (.tuple #[.agg cs, tmps.getD u undef]) w := by
  rw [results_cell_tmp h tmps P w, hp]
  simp [asAddr, run_loadVar_row w g t ty cs fr d hg hu hd hi, Result.andThen]
theorem wrap_n (n : Nat) (h : n < 9223372036854775808) : IntKind.i64.wrap (n : Int) = (n : Int) := by
  rw [IntKind.wrap_i64]; omega
theorem set_five_drew {w : World} {b : Nat} {t : TypeId} {v0 v1 v2 v3 v4 u0 u1 u2 u3 u4 : Value} (h : w.heap[b]? = some (.cells #[v0, v1, v2, v3, v4] t (0, 0))) :
    (((((w.setCell ⟨b, 0, none⟩ u0).setCell ⟨b, 1, none⟩ u1).setCell ⟨b, 2, none⟩ u2).setCell ⟨b, 3, none⟩ u3).setCell ⟨b, 4, none⟩ u4).drew.heap[b]? = some (.cells #[u0, u1, u2, u3, u4] t (0, 0)) := by
  rw [World.drew_is_drewN, World.heap_drewN]; exact set_five h
theorem below_five {w w' : World} {b : Nat} {u0 u1 u2 u3 u4 : Value} (h : Below w.heap.size w w') (hb : w.heap.size ≤ b) : Below w.heap.size w (((((w'.setCell ⟨b, 0, none⟩ u0).setCell ⟨b, 1, none⟩ u1).setCell ⟨b, 2, none⟩ u2).setCell ⟨b, 3, none⟩ u3).setCell ⟨b, 4, none⟩ u4) :=
  ((((h.setCell hb _).setCell hb _).setCell hb _).setCell hb _).setCell hb _

end Go.Proofs.YtnaedmmfiiebaaaGreatDoor.S

namespace Go.Proofs.YtnaedmmfiiebaaaGreatDoor.S
open Go.RowKit

set_option maxRecDepth 100000 in
set_option maxHeartbeats 4000000 in
theorem read_len (a : Addr) (g cap : Nat) (l : List UInt8) (id : Int) (w : World) (hl : l.length = 4096) (hcap : 4096 ≤ cap) (hcm : cap ≤ 9223372036854775807) (hL : Lay w) (hT : Tab w) (hE : w.cell? ⟨1, 0, none⟩ = some (.iface 360 (.pointer (some a))))
    (hc : ∀ j (h : j < l.length), w.cell? ⟨g, j, none⟩ = some (.int .u8 (l[j].toNat : Int))) :
    Calls Tryz.prog 152 #[.slice (some ⟨g, 0, none⟩) 4096 cap, .int .i64 id] w fun e w' => e = .returned (.tuple (readV a l id)) ∧ Below w.heap.size w w' := by
  have hgl : g < w.heap.size := World.block_lt_of_cell? w _ (hc 0 (by omega))
  have hcapI : (4096 : Int) ≤ (cap : Int) := by omega
  have b0 := wrap_n (nums l 0) (by have := nums0 l; omega)
  have b1 := wrap_n (nums l 1) (by have := nums1 l; omega)
  have b2 := wrap_n (nums l 2) (by have := nums2 l; omega)
  have HB3 : Hid (nums l 3 < 18446744073709551616) := nums3 l
  have HB0 : Hid (Below w.heap.size w (w.alloc (.cells #[.int .i64 0, .int .i64 0, .int .u64 0, .int .i64 0, .string ⟨#[]⟩] 87))) := below_new w _
  have HR0 : Hid ((w.alloc (.cells #[.int .i64 0, .int .i64 0, .int .u64 0, .int .i64 0, .string ⟨#[]⟩] 87)).heap[w.heap.size]? = some (.cells #[.int .i64 0, .int .i64 0, .int .u64 0, .int .i64 0, .string ⟨#[]⟩] 87 (0, 0))) := heap_alloc_new w _
  have HEL : Hid (1 < (w.alloc (.cells #[.int .i64 0, .int .i64 0, .int .u64 0, .int .i64 0, .string ⟨#[]⟩] 87)).heap.size) := by have hx : 1 < w.heap.size := World.block_lt_of_cell? w _ hE; show _ < _; simp; omega
  have HE0 : Hid ((w.alloc (.cells #[.int .i64 0, .int .i64 0, .int .u64 0, .int .i64 0, .string ⟨#[]⟩] 87)).cell? ⟨1, 0, none⟩ = some (.iface 360 (.pointer (some a)))) := ((below_new w (.cells #[.int .i64 0, .int .i64 0, .int .u64 0, .int .i64 0, .string ⟨#[]⟩] 87)).cell (p := ⟨1, 0, none⟩) (World.block_lt_of_cell? w _ hE)).trans hE
  have HL := hide (hL.below HB0.out)
  have HT := hide (hT.below HB0.out)
  have HC : Hid (∀ j (h : j < l.length), (w.alloc (.cells #[.int .i64 0, .int .i64 0, .int .u64 0, .int .i64 0, .string ⟨#[]⟩] 87)).cell? ⟨g, j, none⟩ = some (.int .u8 (l[j].toNat : Int))) := fun j hj => (HB0.out.cell (p := ⟨g, j, none⟩) hgl).trans (hc j hj)
  have HLEN := hide hl
  have HSZ : Hid (w.heap.size < (w.alloc (.cells #[.int .i64 0, .int .i64 0, .int .u64 0, .int .i64 0, .string ⟨#[]⟩] 87)).heap.size) := by show _ < _; simp
  have HG1 : Hid (1 < w.heap.size) := World.block_lt_of_cell? w _ hE
  clear hL hT hc hl hE
  go_enter Tryz.func152, Tryz.ntmps152
  go_wp2_with fail
  generalize (w.alloc (.cells #[.int .i64 0, .int .i64 0, .int .u64 0, .int .i64 0, .string ⟨#[]⟩] 87)) = W0 at *
  refine (readHead_any g cap l W0 HLEN.out hcap hcm HL.out HC.out).mono ?_
  rintro e w1 ⟨rfl, hb1⟩
  have HB1 := hide hb1
  clear hb1
  go_wp2_with fail
  have HH : Hid (HeadAt (w1.alloc (.cells #[.int .u64 (nums l 0 : Int), .int .u64 (nums l 1 : Int), .int .u64 (nums l 2 : Int), .int .u64 (nums l 3 : Int), .int .u64 (nums l 4 : Int)] 256)) w1.heap.size (nums l)) := heap_alloc_new w1 _
  have HB2 := hide (Below.next HB1.out (below_new w1 (.cells #[.int .u64 (nums l 0 : Int), .int .u64 (nums l 1 : Int), .int .u64 (nums l 2 : Int), .int .u64 (nums l 3 : Int), .int .u64 (nums l 4 : Int)] 256)))
  generalize (w1.alloc (.cells #[.int .u64 (nums l 0 : Int), .int .u64 (nums l 1 : Int), .int .u64 (nums l 2 : Int), .int .u64 (nums l 3 : Int), .int .u64 (nums l 4 : Int)] 256)) = w2 at *
  have d0 := HH.out.cell 0 (by decide)
  have d1 := HH.out.cell 1 (by decide)
  have d2 := HH.out.cell 2 (by decide)
  have d3 := HH.out.cell 3 (by decide)
  have hgW : g < W0.heap.size := by have := HSZ.out; omega
  have HC2 : Hid (∀ j (h : j < l.length), w2.cell? ⟨g, j, none⟩ = some (.int .u8 (l[j].toNat : Int))) := fun j hj => (HB2.out.cell (p := ⟨g, j, none⟩) hgW).trans (HC.out j hj)
  have hcv : (convert 145 9 (.slice (some ⟨g, 24, none⟩) 4072 (cap - 24))).run Tryz.prog w2.drew = .ok (.string ⟨(l.drop 24).toArray⟩) w2.drew := conv_body g cap l _ HLEN.out HC2.out
  have hcv2 : ∀ o, (convert 145 9 (.slice (some ⟨g, 24, none⟩) 4072 (cap - 24))).run Tryz.prog (w2.alloc o).drew = .ok (.string ⟨(l.drop 24).toArray⟩) (w2.alloc o).drew := fun o => conv_body g cap l _ HLEN.out (fun j hj => ((below_new w2 o).cell (p := ⟨g, j, none⟩) (World.block_lt_of_cell? w2 _ (HC2.out j hj))).trans (HC2.out j hj))
  clear HB1
  go_region_held (fun w' => w'.cell? ⟨w1.heap.size, 0, none⟩ = some (.int .u64 (nums l 0 : Int)) ∧ w'.cell? ⟨w1.heap.size, 1, none⟩ = some (.int .u64 (nums l 1 : Int)) ∧ w'.cell? ⟨w1.heap.size, 2, none⟩ = some (.int .u64 (nums l 2 : Int)) ∧ w'.cell? ⟨w1.heap.size, 3, none⟩ = some (.int .u64 (nums l 3 : Int))) (go_keep) (fail)
  all_goals
    have HX3 : Hid (Boxed w2.heap.size [.int .i64 (nums l 0 : Int), .int .i64 (nums l 2 : Int), .int .u64 (nums l 3 : Int), .int .i64 (nums l 1 : Int), .string ⟨(l.drop 24).toArray⟩] (w2.alloc (.cells #[.int .i64 (nums l 0 : Int), .int .i64 (nums l 2 : Int), .int .u64 (nums l 3 : Int), .int .i64 (nums l 1 : Int), .string ⟨(l.drop 24).toArray⟩] 87)).drew) := boxed_new w2 _ _
    have HB3' : Hid (Below W0.heap.size W0 (w2.alloc (.cells #[.int .i64 (nums l 0 : Int), .int .i64 (nums l 2 : Int), .int .u64 (nums l 3 : Int), .int .i64 (nums l 1 : Int), .string ⟨(l.drop 24).toArray⟩] 87)).drew) := (Below.next HB2.out (below_new w2 (.cells #[.int .i64 (nums l 0 : Int), .int .i64 (nums l 2 : Int), .int .u64 (nums l 3 : Int), .int .i64 (nums l 1 : Int), .string ⟨(l.drop 24).toArray⟩] 87))).drew
    clear hcv hcv2 d0 d1 d2 d3 HH HC2 HB2
    generalize (w2.alloc (.cells #[.int .i64 (nums l 0 : Int), .int .i64 (nums l 2 : Int), .int .u64 (nums l 3 : Int), .int .i64 (nums l 1 : Int), .string ⟨(l.drop 24).toArray⟩] 87)).drew = w3 at *
    have hr3 : w3.heap[w.heap.size]? = some (.cells #[.int .i64 0, .int .i64 0, .int .u64 0, .int .i64 0, .string ⟨#[]⟩] 87 (0, 0)) := by rw [HB3'.out.block w.heap.size HSZ.out]; exact HR0.out
    by_cases hid : (nums l 2 : Int) = id
    · subst hid
      have hd0 : ((nums l 2 : Int) != (nums l 2 : Int)) = false := by simp
      have c0 : w3.cell? ⟨w2.heap.size, 0, none⟩ = some (.int .i64 (nums l 0 : Int)) := HX3.out.2 0 (by simp)
      have c1 : w3.cell? ⟨w2.heap.size, 1, none⟩ = some (.int .i64 (nums l 2 : Int)) := HX3.out.2 1 (by simp)
      have c2 : w3.cell? ⟨w2.heap.size, 2, none⟩ = some (.int .u64 (nums l 3 : Int)) := HX3.out.2 2 (by simp)
      have c3 : w3.cell? ⟨w2.heap.size, 3, none⟩ = some (.int .i64 (nums l 1 : Int)) := HX3.out.2 3 (by simp)
      have c4 : w3.cell? ⟨w2.heap.size, 4, none⟩ = some (.string ⟨(l.drop 24).toArray⟩) := HX3.out.2 4 (by simp)
      by_cases hm : May (parse l)
      · have hbs : (parse l).body.size ≤ 140737488355328 := by rw [hm.2.2.2]; decide
        have HM : Hid (∀ w, Calls Tryz.prog 131 #[.agg #[.int .i64 (nums l 0 : Int), .int .i64 (nums l 2 : Int), .int .u64 (nums l 3 : Int), .int .i64 (nums l 1 : Int), .string ⟨(l.drop 24).toArray⟩]] w fun e w' => e = .returned (.bool true) ∧ Below w.heap.size w w') := fun w => by
          have h := mayBe_any (parse l) w hbs
          rw [decide_eq_true hm] at h
          exact h
        have HP : Hid (∀ w, Lay w → Tab w → Calls Tryz.prog 132 #[.agg #[.int .i64 (nums l 0 : Int), .int .i64 (nums l 2 : Int), .int .u64 (nums l 3 : Int), .int .i64 (nums l 1 : Int), .string ⟨(l.drop 24).toArray⟩]] w fun e w' => ∃ g, e = .returned (.slice (some ⟨g, 0, none⟩) 4096 4096) ∧ RowB w' g (page (parse l)) ∧ w.heap.size ≤ g ∧ Below w.heap.size w w') := fun w h1 h2 => pageOf_any (parse l) w hm HB3.out h1 h2
        have HPL : Hid ((page (parse l)).length = 4096) := page_len _ hm
        have HMY := hide hm
        clear hm hbs
        go_wp2_with fail
        refine (HM.out _).mono ?_
        rintro e w4 ⟨rfl, hb4⟩
        have HX4 := hide (HX3.out.below hb4)
        have HB4 := hide (Below.next HB3'.out hb4)
        clear c0 c1 c2 c3 c4 hb4 hr3
        have c0 : w4.cell? ⟨w2.heap.size, 0, none⟩ = some (.int .i64 (nums l 0 : Int)) := HX4.out.2 0 (by simp)
        have c1 : w4.cell? ⟨w2.heap.size, 1, none⟩ = some (.int .i64 (nums l 2 : Int)) := HX4.out.2 1 (by simp)
        have c2 : w4.cell? ⟨w2.heap.size, 2, none⟩ = some (.int .u64 (nums l 3 : Int)) := HX4.out.2 2 (by simp)
        have c3 : w4.cell? ⟨w2.heap.size, 3, none⟩ = some (.int .i64 (nums l 1 : Int)) := HX4.out.2 3 (by simp)
        have c4 : w4.cell? ⟨w2.heap.size, 4, none⟩ = some (.string ⟨(l.drop 24).toArray⟩) := HX4.out.2 4 (by simp)
        go_wp2_with fail
        refine (HP.out _ (HL.out.below HB4.out) (HT.out.below HB4.out)).mono ?_
        rintro e w5 ⟨g5, rfl, hr5, hg5, hb5⟩
        have HX5 := hide (HX4.out.below hb5)
        have HB5 := hide (Below.next HB4.out hb5)
        have RA : Hid (RdA w5 (.slice (some ⟨g5, 0, none⟩) 4096 4096) (page (parse l))) := (rd_row hr5 HPL.out (by decide)).any
        have RB : Hid (RdA w5 (.slice (some ⟨g, 0, none⟩) 4096 cap) l) := ⟨_, cap, by rw [HLEN.out], fun j hj => ⟨g, 0, rfl, by rw [Nat.zero_add, HB5.out.cell (p := ⟨g, j, none⟩) hgW]; exact HC.out j hj⟩⟩
        have hr5' : w5.heap[w.heap.size]? = some (.cells #[.int .i64 0, .int .i64 0, .int .u64 0, .int .i64 0, .string ⟨#[]⟩] 87 (0, 0)) := by rw [HB5.out.block w.heap.size HSZ.out]; exact HR0.out
        clear c0 c1 c2 c3 c4 hb5 hr5 hg5
        go_wp2_with fail
        refine (equal_any _ _ (page (parse l)) l _ RA.out RB.out (by rw [HPL.out]; decide) (by rw [HLEN.out]; decide)).mono ?_
        rintro e w5' ⟨rfl, rfl⟩
        by_cases hp : page (parse l) = l
        · have HOK : Hid (okRead l (nums l 2 : Int)) := ⟨HLEN.out, rfl, HMY.out, hp⟩
          rw [decide_eq_true hp]
          have c0 : w5.cell? ⟨w2.heap.size, 0, none⟩ = some (.int .i64 (nums l 0 : Int)) := HX5.out.2 0 (by simp)
          have c1 : w5.cell? ⟨w2.heap.size, 1, none⟩ = some (.int .i64 (nums l 2 : Int)) := HX5.out.2 1 (by simp)
          have c2 : w5.cell? ⟨w2.heap.size, 2, none⟩ = some (.int .u64 (nums l 3 : Int)) := HX5.out.2 2 (by simp)
          have c3 : w5.cell? ⟨w2.heap.size, 3, none⟩ = some (.int .i64 (nums l 1 : Int)) := HX5.out.2 3 (by simp)
          have c4 : w5.cell? ⟨w2.heap.size, 4, none⟩ = some (.string ⟨(l.drop 24).toArray⟩) := HX5.out.2 4 (by simp)
          have z0 : w5.cell? ⟨w.heap.size, 0, none⟩ = some (.int .i64 0) := by rw [cell_of_row _ _ _ _ _ _ hr5']; rfl
          have z1 : w5.cell? ⟨w.heap.size, 1, none⟩ = some (.int .i64 0) := by rw [cell_of_row _ _ _ _ _ _ hr5']; rfl
          have z2 : w5.cell? ⟨w.heap.size, 2, none⟩ = some (.int .u64 0) := by rw [cell_of_row _ _ _ _ _ _ hr5']; rfl
          have z3 : w5.cell? ⟨w.heap.size, 3, none⟩ = some (.int .i64 0) := by rw [cell_of_row _ _ _ _ _ _ hr5']; rfl
          have z4 : w5.cell? ⟨w.heap.size, 4, none⟩ = some (.string ⟨#[]⟩) := by rw [cell_of_row _ _ _ _ _ _ hr5']; rfl
          have y0 : w5.frozen? ⟨w.heap.size, 0, none⟩ = false := frozen_of_row _ _ _ _ _ hr5'
          have y1 : w5.frozen? ⟨w.heap.size, 1, none⟩ = false := frozen_of_row _ _ _ _ _ hr5'
          have y2 : w5.frozen? ⟨w.heap.size, 2, none⟩ = false := frozen_of_row _ _ _ _ _ hr5'
          have y3 : w5.frozen? ⟨w.heap.size, 3, none⟩ = false := frozen_of_row _ _ _ _ _ hr5'
          have y4 : w5.frozen? ⟨w.heap.size, 4, none⟩ = false := frozen_of_row _ _ _ _ _ hr5'
          have HROW := hide hr5'
          have HBF : Hid (Below w.heap.size w w5) := HB0.out.trans (HB5.out.mono (Nat.le_of_lt HSZ.out))
          clear hp hr5'
          go_wp2_with fail
          (try simp only [Exit.inBlock, Exit.then])
          refine bodyPost_ret (results_row_tmp rfl _ _ w.heap.size 87 #[.int .i64 (nums l 0 : Int), .int .i64 (nums l 2 : Int), .int .u64 (nums l 3 : Int), .int .i64 (nums l 1 : Int), .string ⟨(l.drop 24).toArray⟩] (0, 0) _ rfl (set_five HROW.out) Tryz.underlying87 rfl (by kernel_rfl)) rfl ⟨?_, below_five HBF.out (Nat.le_refl _)⟩
          rw [readV_ok HOK.out]; rfl
        · rw [decide_eq_false hp]
          have HOK : Hid (¬ okRead l (nums l 2 : Int)) := fun h => hp h.2.2.2
          have cE : w5.cell? ⟨1, 0, none⟩ = some (.iface 360 (.pointer (some a))) := (HB5.out.cell (p := ⟨1, 0, none⟩) HEL.out).trans HE0.out
          have z0 : w5.cell? ⟨w.heap.size, 0, none⟩ = some (.int .i64 0) := by rw [cell_of_row _ _ _ _ _ _ hr5']; rfl
          have z1 : w5.cell? ⟨w.heap.size, 1, none⟩ = some (.int .i64 0) := by rw [cell_of_row _ _ _ _ _ _ hr5']; rfl
          have z2 : w5.cell? ⟨w.heap.size, 2, none⟩ = some (.int .u64 0) := by rw [cell_of_row _ _ _ _ _ _ hr5']; rfl
          have z3 : w5.cell? ⟨w.heap.size, 3, none⟩ = some (.int .i64 0) := by rw [cell_of_row _ _ _ _ _ _ hr5']; rfl
          have z4 : w5.cell? ⟨w.heap.size, 4, none⟩ = some (.string ⟨#[]⟩) := by rw [cell_of_row _ _ _ _ _ _ hr5']; rfl
          have y0 : w5.frozen? ⟨w.heap.size, 0, none⟩ = false := frozen_of_row _ _ _ _ _ hr5'
          have y1 : w5.frozen? ⟨w.heap.size, 1, none⟩ = false := frozen_of_row _ _ _ _ _ hr5'
          have y2 : w5.frozen? ⟨w.heap.size, 2, none⟩ = false := frozen_of_row _ _ _ _ _ hr5'
          have y3 : w5.frozen? ⟨w.heap.size, 3, none⟩ = false := frozen_of_row _ _ _ _ _ hr5'
          have y4 : w5.frozen? ⟨w.heap.size, 4, none⟩ = false := frozen_of_row _ _ _ _ _ hr5'
          have HROW := hide hr5'
          have HBF : Hid (Below w.heap.size w w5) := HB0.out.trans (HB5.out.mono (Nat.le_of_lt HSZ.out))
          clear hr5'
          clear hp
          go_wp2_with fail
          have hne : ¬ w.heap.size = 1 := by have := HG1.out; omega
          go_region_held3 (fun w' => w'.cell? ⟨1, 0, none⟩ = some (.iface 360 (.pointer (some a)))) (go_keep) (fail)
          go_wp2_with fail
          (try simp only [Exit.inBlock, Exit.then])
          refine bodyPost_ret (results_row_tmp rfl _ _ w.heap.size 87 #[.int .i64 0, .int .i64 0, .int .u64 0, .int .i64 0, .string ⟨#[]⟩] (0, 0) _ rfl (set_five_drew HROW.out) Tryz.underlying87 rfl (by kernel_rfl)) rfl ⟨?_, (below_five HBF.out (Nat.le_refl _)).drew⟩
          rw [readV_no HOK.out]; rfl
      · have hbs : (parse l).body.size ≤ 140737488355328 := by
          show (ByteArray.mk (l.drop 24).toArray).size ≤ _
          have h1 : (ByteArray.mk (l.drop 24).toArray).size = (l.drop 24).length := by simp [ByteArray.size]
          have h2 := HLEN.out
          rw [h1, List.length_drop]; omega
        have HM : Hid (∀ w, Calls Tryz.prog 131 #[.agg #[.int .i64 (nums l 0 : Int), .int .i64 (nums l 2 : Int), .int .u64 (nums l 3 : Int), .int .i64 (nums l 1 : Int), .string ⟨(l.drop 24).toArray⟩]] w fun e w' => e = .returned (.bool false) ∧ Below w.heap.size w w') := fun w => by
          have h := mayBe_any (parse l) w hbs
          rw [decide_eq_false hm] at h
          exact h
        have HMY := hide hm
        clear hm hbs
        go_wp2_with fail
        refine (HM.out _).mono ?_
        rintro e w4 ⟨rfl, hb4⟩
        have HB4 := hide (Below.next HB3'.out hb4)
        have hr4 : w4.heap[w.heap.size]? = some (.cells #[.int .i64 0, .int .i64 0, .int .u64 0, .int .i64 0, .string ⟨#[]⟩] 87 (0, 0)) := by rw [HB4.out.block w.heap.size HSZ.out]; exact HR0.out
        clear c0 c1 c2 c3 c4 hb4 hr3
        have HOK : Hid (¬ okRead l (nums l 2 : Int)) := fun h => HMY.out h.2.2.1
        have cE : w4.cell? ⟨1, 0, none⟩ = some (.iface 360 (.pointer (some a))) := (HB4.out.cell (p := ⟨1, 0, none⟩) HEL.out).trans HE0.out
        have z0 : w4.cell? ⟨w.heap.size, 0, none⟩ = some (.int .i64 0) := by rw [cell_of_row _ _ _ _ _ _ hr4]; rfl
        have z1 : w4.cell? ⟨w.heap.size, 1, none⟩ = some (.int .i64 0) := by rw [cell_of_row _ _ _ _ _ _ hr4]; rfl
        have z2 : w4.cell? ⟨w.heap.size, 2, none⟩ = some (.int .u64 0) := by rw [cell_of_row _ _ _ _ _ _ hr4]; rfl
        have z3 : w4.cell? ⟨w.heap.size, 3, none⟩ = some (.int .i64 0) := by rw [cell_of_row _ _ _ _ _ _ hr4]; rfl
        have z4 : w4.cell? ⟨w.heap.size, 4, none⟩ = some (.string ⟨#[]⟩) := by rw [cell_of_row _ _ _ _ _ _ hr4]; rfl
        have y0 : w4.frozen? ⟨w.heap.size, 0, none⟩ = false := frozen_of_row _ _ _ _ _ hr4
        have y1 : w4.frozen? ⟨w.heap.size, 1, none⟩ = false := frozen_of_row _ _ _ _ _ hr4
        have y2 : w4.frozen? ⟨w.heap.size, 2, none⟩ = false := frozen_of_row _ _ _ _ _ hr4
        have y3 : w4.frozen? ⟨w.heap.size, 3, none⟩ = false := frozen_of_row _ _ _ _ _ hr4
        have y4 : w4.frozen? ⟨w.heap.size, 4, none⟩ = false := frozen_of_row _ _ _ _ _ hr4
        have HROW := hide hr4
        have HBF : Hid (Below w.heap.size w w4) := HB0.out.trans (HB4.out.mono (Nat.le_of_lt HSZ.out))
        clear hr4
        go_wp2_with fail
        have hne : ¬ w.heap.size = 1 := by have := HG1.out; omega
        go_region_held3 (fun w' => w'.cell? ⟨1, 0, none⟩ = some (.iface 360 (.pointer (some a)))) (go_keep) (fail)
        go_wp2_with fail
        (try simp only [Exit.inBlock, Exit.then])
        refine bodyPost_ret (results_row_tmp rfl _ _ w.heap.size 87 #[.int .i64 0, .int .i64 0, .int .u64 0, .int .i64 0, .string ⟨#[]⟩] (0, 0) _ rfl (set_five_drew HROW.out) Tryz.underlying87 rfl (by kernel_rfl)) rfl ⟨?_, (below_five HBF.out (Nat.le_refl _)).drew⟩
        rw [readV_no HOK.out]; rfl
    · have hd0 : ((nums l 2 : Int) != id) = true := by rw [bne_iff_ne]; exact hid
      have c1 : w3.cell? ⟨w2.heap.size, 1, none⟩ = some (.int .i64 (nums l 2 : Int)) := HX3.out.2 1 (by simp)
      have HOK : Hid (¬ okRead l id) := fun h => hid h.2.1
      have cE : w3.cell? ⟨1, 0, none⟩ = some (.iface 360 (.pointer (some a))) := (HB3'.out.cell (p := ⟨1, 0, none⟩) HEL.out).trans HE0.out
      have z0 : w3.cell? ⟨w.heap.size, 0, none⟩ = some (.int .i64 0) := by rw [cell_of_row _ _ _ _ _ _ hr3]; rfl
      have z1 : w3.cell? ⟨w.heap.size, 1, none⟩ = some (.int .i64 0) := by rw [cell_of_row _ _ _ _ _ _ hr3]; rfl
      have z2 : w3.cell? ⟨w.heap.size, 2, none⟩ = some (.int .u64 0) := by rw [cell_of_row _ _ _ _ _ _ hr3]; rfl
      have z3 : w3.cell? ⟨w.heap.size, 3, none⟩ = some (.int .i64 0) := by rw [cell_of_row _ _ _ _ _ _ hr3]; rfl
      have z4 : w3.cell? ⟨w.heap.size, 4, none⟩ = some (.string ⟨#[]⟩) := by rw [cell_of_row _ _ _ _ _ _ hr3]; rfl
      have y0 : w3.frozen? ⟨w.heap.size, 0, none⟩ = false := frozen_of_row _ _ _ _ _ hr3
      have y1 : w3.frozen? ⟨w.heap.size, 1, none⟩ = false := frozen_of_row _ _ _ _ _ hr3
      have y2 : w3.frozen? ⟨w.heap.size, 2, none⟩ = false := frozen_of_row _ _ _ _ _ hr3
      have y3 : w3.frozen? ⟨w.heap.size, 3, none⟩ = false := frozen_of_row _ _ _ _ _ hr3
      have y4 : w3.frozen? ⟨w.heap.size, 4, none⟩ = false := frozen_of_row _ _ _ _ _ hr3
      have HROW := hide hr3
      have HBF : Hid (Below w.heap.size w w3) := HB0.out.trans (HB3'.out.mono (Nat.le_of_lt HSZ.out))
      clear hr3
      clear hid
      go_wp2_with fail
      have hne : ¬ w.heap.size = 1 := by have := HG1.out; omega
      go_region_held3 (fun w' => w'.cell? ⟨1, 0, none⟩ = some (.iface 360 (.pointer (some a)))) (go_keep) (fail)
      go_wp2_with fail
      (try simp only [Exit.inBlock, Exit.then])
      refine bodyPost_ret (results_row_tmp rfl _ _ w.heap.size 87 #[.int .i64 0, .int .i64 0, .int .u64 0, .int .i64 0, .string ⟨#[]⟩] (0, 0) _ rfl (set_five_drew HROW.out) Tryz.underlying87 rfl (by kernel_rfl)) rfl ⟨?_, (below_five HBF.out (Nat.le_refl _)).drew⟩
      rw [readV_no HOK.out]; rfl

end Go.Proofs.YtnaedmmfiiebaaaGreatDoor.S
