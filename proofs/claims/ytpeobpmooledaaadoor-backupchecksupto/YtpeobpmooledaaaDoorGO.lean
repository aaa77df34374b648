import Derived.Test.YtpeobpmooledaaaDoorGK
import Derived.Test.YtpeobpmooledaaaDoorGQ
import Derived.Deep.MidRow
namespace Go.Proofs.YtpeobpmooledaaaDoor.M
open Go.RowKit S

theorem RowT.range {t : TypeId} {w : World} {g : Nat} {l : List UInt8} (h : RowT t w g l) : w.rangeAt g 0 (u8s l) := fun j v hv => by
  rw [Nat.zero_add, cell_of_row w g j _ _ _ h]
  simpa using hv
theorem splice_whole (l : List UInt8) (hl : l.length = 512) : splice (List.replicate 512 0) 0 l = l := by
  unfold splice
  rw [List.take_zero, List.nil_append, Nat.zero_add, hl, List.drop_of_length_le (by rw [List.length_replicate]; exact Nat.le_refl _), List.append_nil]

theorem results_row_tmp {P : Program} {fn : Func} {p u : Tmp} {ty : TypeId} (h : fn.results = #[.cell p ty, .tmp u]) (tmps : Array Value) (w : World) (g : Nat) (t : TypeId) (cs : Array Value) (fr : Nat × Nat) (d : TypeDesc)
    (hp : tmps.getD p undef = .pointer (some ⟨g, 0, none⟩)) (hg : w.heap[g]? = some (.cells cs t fr)) (hu : P.underlying ty = some d) (hd : (match d with | .struct _ | .array _ _ => true | _ => false) = true) (hi : (P.info? ty).map (·.size) = some cs.size) :
    (results fn tmps).run P w = .ok (.tuple #[.agg cs, tmps.getD u undef]) w := by
  rw [results_cell_tmp h tmps P w, hp]
  simp [asAddr, run_loadVar_row w g t ty cs fr d hg hu hd hi, Result.andThen]
theorem zero_cells {W : World} {b : Nat} (h : W.heap[b]? = some (.cells #[.int .i64 0, .int .i64 0, .int .u64 0] 24 (0, 0))) :
    W.cell? ⟨b, 0, none⟩ = some (.int .i64 0) ∧ W.cell? ⟨b, 1, none⟩ = some (.int .i64 0) ∧ W.cell? ⟨b, 2, none⟩ = some (.int .u64 0) ∧ W.frozen? ⟨b, 0, none⟩ = false ∧ W.frozen? ⟨b, 1, none⟩ = false ∧ W.frozen? ⟨b, 2, none⟩ = false :=
  ⟨by rw [cell_of_row _ _ _ _ _ _ h]; rfl, by rw [cell_of_row _ _ _ _ _ _ h]; rfl, by rw [cell_of_row _ _ _ _ _ _ h]; rfl, frozen_of_row _ _ _ _ _ h, frozen_of_row _ _ _ _ _ h, frozen_of_row _ _ _ _ _ h⟩
theorem drew_heap {w : World} {b : Nat} {o : Option Obj} (h : w.heap[b]? = o) : w.drew.heap[b]? = o := by rw [World.drew_is_drewN, World.heap_drewN]; exact h
def readV (l : List UInt8) (pages slot : Int) : Array Value :=
  if okM l pages slot then #[.agg (parseM l).cells.toArray, .bool true] else #[.agg #[.int .i64 0, .int .i64 0, .int .u64 0], .bool false]

end Go.Proofs.YtpeobpmooledaaaDoor.M

namespace Go.Proofs.YtpeobpmooledaaaDoor.M
open Go.RowKit S

theorem rda_row {t : TypeId} {w : World} {g n : Nat} {l : List UInt8} (h : RowT t w g l) (hn : l.length = n) (cap : Nat) : RdA w (.slice (some ⟨g, 0, none⟩) n cap) l := by
  subst hn
  exact ⟨_, cap, rfl, fun j hj => ⟨g, 0, rfl, by rw [Nat.zero_add]; exact h.cell j hj⟩⟩
theorem made_u8 (n : Nat) : (madeCells #[Value.int .u8 0] n).toList = u8s (List.replicate n 0) := by
  rw [u8s, List.map_replicate]
  simp [madeCells, Nat.mod_one, List.map_const']
theorem rowT_of {w : World} {base g n : Nat} {l : List UInt8} (h : w.ownsRow base 5 1 (.slice (some ⟨g, 0, none⟩) n n) n (u8s l)) : RowT 5 w g l := by
  rcases h.2 with ⟨h', _⟩ | ⟨g', cap', cur, h', hb, hg, hn, hc, hs, ht⟩
  · cases h'
  · cases h'
    unfold RowT
    rw [hg, ← ht, List.take_of_length_le (by simpa using Nat.le_of_eq hs)]

set_option maxRecDepth 100000 in
set_option maxHeartbeats 4000000 in
theorem encode_no (a0 : Addr) (m : Mt) (w : World) (hm : ¬ MayM m) (hc0 : w.cell? ⟨1, 0, none⟩ = some (.iface 101 (.pointer (some a0)))) :
    Calls Tryd.prog 15 #[.agg m.cells.toArray] w fun e w' => e = .returned (.tuple #[.slice none 0 0, .iface 101 (.pointer (some a0))]) ∧ Below w.heap.size w w' := by
  have HM : Hid (∀ w, Calls Tryd.prog 29 #[.agg m.cells.toArray] w fun e w' => e = .returned (.bool false) ∧ Below w.heap.size w w') := fun w => by
    have h := mayBe_any m w
    rw [decide_eq_false hm] at h
    exact h
  obtain ⟨p, r, t⟩ := m
  simp only [Mt.cells] at HM ⊢
  have HB := hide (below_new w (.cells #[.int .i64 p, .int .i64 r, .int .u64 (t : Int)] 24))
  have g0 : 1 < w.heap.size := World.block_lt_of_cell? w _ hc0
  have HG := hide g0
  have HC := hide hc0
  clear hm g0 hc0
  go_enter Tryd.func15, Tryd.ntmps15
  go_wp2_with fail
  refine (HM.out _).mono ?_
  rintro e w1 ⟨rfl, hb1⟩
  have HB1 := hide (Below.next HB.out hb1)
  have k0 := (HB1.out.cell (p := ⟨1, 0, none⟩) HG.out).trans HC.out
  clear hb1
  go_wp2_with fail
  go_quiet (fail)
  go_wp2_with fail
  go_ret2
  exact ⟨rfl, below_drewN HB1.out _⟩

set_option maxRecDepth 100000 in
set_option maxHeartbeats 4000000 in
theorem encode_ok (m : Mt) (w : World) (hm : MayM m) (hx : m.txid < 18446744073709551616) (hT : Tab w) :
    Calls Tryd.prog 15 #[.agg m.cells.toArray] w fun e w' => ∃ g, e = .returned (.tuple #[.slice (some ⟨g, 0, none⟩) 512 512, .nilIface]) ∧ RowT 5 w' g (mpage m) ∧ w.heap.size ≤ g ∧ Below w.heap.size w w' := by
  have HM : Hid (∀ w, Calls Tryd.prog 29 #[.agg m.cells.toArray] w fun e w' => e = .returned (.bool true) ∧ Below w.heap.size w w') := fun w => by
    have h := mayBe_any m w
    rw [decide_eq_true hm] at h
    exact h
  have HBY : Hid (∀ w, Tab w → Calls Tryd.prog 30 #[.agg m.cells.toArray] w fun e w' => e = .returned (.agg (u8s (mpage m)).toArray) ∧ Below w.heap.size w w') := fun w h => bytesOf_any m w hm hx h
  have HPL := hide (mpage_len m)
  obtain ⟨pg, hpg⟩ : ∃ pg, pg = mpage m := ⟨_, rfl⟩
  rw [← hpg] at HBY HPL ⊢
  clear hpg hm hx
  obtain ⟨zc, hzc, z512⟩ : ∃ zc, zc = (u8s (List.replicate 512 0)).toArray ∧ ∀ w, (zeroValue 56).run Tryd.prog w = .ok (.agg zc) w := ⟨_, rfl, zero512⟩
  obtain ⟨i0, hinf, hz0, hz1, hz2⟩ := info_parts Tryd.info5
  obtain ⟨p, r, t⟩ := m
  simp only [Mt.cells] at HM HBY ⊢
  have HX := hide (boxed_new w #[.int .i64 p, .int .i64 r, .int .u64 (t : Int)] 24)
  have HB := hide (below_new w (.cells #[.int .i64 p, .int .i64 r, .int .u64 (t : Int)] 24))
  have HT := hide (hT.below HB.out)
  have HZC := hide hzc
  clear hT hzc
  go_enter Tryd.func15, Tryd.ntmps15
  go_wp2_with fail
  refine (HM.out _).mono ?_
  rintro e w1 ⟨rfl, hb1⟩
  have HX1 := HX.out.below hb1
  have c0 := HX1.2 0 (by simp)
  have c1 := HX1.2 1 (by simp)
  have c2 := HX1.2 2 (by simp)
  simp only [List.getElem_cons_zero, List.getElem_cons_succ] at c0 c1 c2
  have HB1 := hide (Below.next HB.out hb1)
  have HT1 := hide (HT.out.below hb1)
  clear hb1 HX1 HX HT HB
  go_wp2_with fail
  refine (HBY.out _ HT1.out).mono ?_
  rintro e w2 ⟨rfl, hb2⟩
  have HB2 := hide (Below.next HB1.out hb2)
  have hrow2 : RowT 56 (w2.alloc (.cells zc 56)) w2.heap.size (List.replicate 512 0) := by rw [HZC.out]; exact rowT_new _ _ _
  obtain ⟨w3, hst, hr3, hs3⟩ := store512 hrow2 (List.length_replicate ..) HPL.out
  have HR3 := hide hr3
  have HB3 : Hid (Below w2.heap.size w2 w3) := hs3.below (below_new w2 _) (Nat.le_refl _)
  have hLA : (u8s pg).toArray.size = 512 := by simp [u8s_length, HPL.out]
  have s0 := sl_all w2.heap.size
  clear hb2 hrow2 hr3 hs3 HZC c0 c1 c2
  have HPG : Hid (∀ W g, W.heap[g]? = some (.cells (u8s pg).toArray 5 (0, 0)) → RowT 5 W g pg) := fun W g h => h
  generalize hCS : (u8s pg).toArray = CS at *
  go_wp2_with (at_make; refine wpList_make_full _ rfl _ _ 41 rfl 0 5 i0 (.int .u8 0) 1 Tryd.underlying41 hinf hz0 hz1 .i64 .i64 _ _ 512 rfl rfl rfl rfl ?c1 ?c2 (Nat.zero_le _) ?_)
  case c1 => rw [hz2]; decide
  case c2 => decide
  intro w4 hrow4 hg4
  rw [made_u8] at hrow4
  have hr4 := rowT_of hrow4
  have hb4 : Below w3.heap.size w3 w4 := ⟨hg4.os, hg4.tape, hg4.output, hg4.size, fun k hk => hg4.block k hk (by simp)⟩
  have hs4 := HR3.out.below hb4
  have hlt : w2.heap.size < w3.heap.size := HR3.out.lt
  obtain ⟨w5, hcp, hr5, hs5⟩ := copy_row (cap := 512) (n := 512) (o := 0) (g2 := w2.heap.size) (o2 := 0) (c2 := 512) hr4 HPL.out (fun j hj => by rw [Nat.zero_add]; exact hs4.cell j hj) (by rw [HPL.out, List.length_replicate]; decide)
  rw [splice_whole pg HPL.out] at hr5
  have HR5 := hide hr5
  have HB5 : Hid (Below w.heap.size w w5) := hs5.below (Below.next (Below.next HB2.out HB3.out) hb4) (by have := HB2.out.size; omega)
  have HGE : Hid (w.heap.size ≤ w3.heap.size) := by show _ ≤ _; have := HB2.out.size; omega
  clear hrow4 hg4 hr4 hb4 hs4 hr5 hs5 hst hLA z512
  go_wp2_with fail
  go_ret2
  exact ⟨_, rfl, HR5.out, HGE.out, HB5.out⟩

end Go.Proofs.YtpeobpmooledaaaDoor.M
