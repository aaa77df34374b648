import Derived.Test.YtlopimdnjookeabGreatDoorB2
import Derived.Test.YtlopimdnjookeabGreatDoorSame
import Derived.Deep.MidRow
namespace Go.Proofs.YtlopimdnjookeabGreatDoor
open Go.RowKit

theorem RowT.range {t : TypeId} {w : World} {g : Nat} {l : List UInt8} (h : RowT t w g l) : w.rangeAt g 0 (u8s l) := fun j v hv => by
  rw [Nat.zero_add, cell_of_row w g j _ _ _ h]
  simpa using hv
theorem splice_whole (l : List UInt8) (hl : l.length = 512) : splice (List.replicate 512 0) 0 l = l := by
  unfold splice
  rw [List.take_zero, List.nil_append, Nat.zero_add, hl, List.drop_of_length_le (by rw [List.length_replicate]; exact Nat.le_refl _), List.append_nil]

theorem results_row_tmp {P : Program} {fn : Func} {p u : Tmp} {ty : TypeId} (h : fn.results = #[.cell p ty, .tmp u]) (tmps : Array Value) (w : World) (g : Nat) (t : TypeId) (cs : Array Value) (fr : Nat × Nat) (d : TypeDesc)
    (hp : tmps.getD p undef = .pointer (some ⟨g, 0, none⟩)) (hg : w.heap[g]? = some (.cells cs t fr)) (hu : P.underlying ty = some d) (hd : (match d with | .struct _ | .array _ _ => true | _ => false) = true) (hi : (P.info? ty).map (·.size) = some cs.size) :
    (results fn tmps).run P w = .ok (.tuple #[.agg cs, tmps.getD u undef]) w := by
  rw [results_cell_tmp h tmps P w, hp]
  simp [asAddr, run_loadVar_row w g t ty cs fr d hg hu hd hi, Result.andThen]
theorem zero_cells {W : World} {b : Nat} (h : W.heap[b]? = some (.cells #[.int .i64 0, .int .i64 0, .int .u64 0] 32 (0, 0))) :
    W.cell? ⟨b, 0, none⟩ = some (.int .i64 0) ∧ W.cell? ⟨b, 1, none⟩ = some (.int .i64 0) ∧ W.cell? ⟨b, 2, none⟩ = some (.int .u64 0) ∧ W.frozen? ⟨b, 0, none⟩ = false ∧ W.frozen? ⟨b, 1, none⟩ = false ∧ W.frozen? ⟨b, 2, none⟩ = false :=
  ⟨by rw [cell_of_row _ _ _ _ _ _ h]; rfl, by rw [cell_of_row _ _ _ _ _ _ h]; rfl, by rw [cell_of_row _ _ _ _ _ _ h]; rfl, frozen_of_row _ _ _ _ _ h, frozen_of_row _ _ _ _ _ h, frozen_of_row _ _ _ _ _ h⟩
theorem drew_heap {w : World} {b : Nat} {o : Option Obj} (h : w.heap[b]? = o) : w.drew.heap[b]? = o := by rw [World.drew_is_drewN, World.heap_drewN]; exact h
def readV (l : List UInt8) (pages slot : Int) : Array Value :=
  if okM l pages slot then #[.agg (parseM l).cells.toArray, .bool true] else #[.agg #[.int .i64 0, .int .i64 0, .int .u64 0], .bool false]

set_option maxRecDepth 100000 in
set_option maxHeartbeats 4000000 in
theorem read_short (a : Option Addr) (n cap : Nat) (pages slot : Int) (w : World) (hn : n ≠ 512) (_hm : n ≤ 140737488355328) :
    Calls Tryz.prog 64 #[.slice a n cap, .int .i64 pages, .int .i64 slot] w fun e w' => e = .returned (.tuple #[.agg #[.int .i64 0, .int .i64 0, .int .u64 0], .bool false]) ∧ Below w.heap.size w w' := by
  have hd : ((n : Int) != 512) = true := by rw [bne_iff_ne]; omega
  have HZ : Hid ((w.alloc (.cells #[.int .i64 0, .int .i64 0, .int .u64 0] 32)).heap[w.heap.size]? = some (.cells #[.int .i64 0, .int .i64 0, .int .u64 0] 32 (0, 0))) := heap_alloc_new w _
  have HB := hide (below_new w (.cells #[.int .i64 0, .int .i64 0, .int .u64 0] 32))
  clear hn
  go_enter Tryz.func64, Tryz.ntmps64
  go_wp2_with fail
  refine bodyPost_ret (results_row_tmp rfl _ _ w.heap.size 32 #[.int .i64 0, .int .i64 0, .int .u64 0] (0, 0) _ rfl HZ.out Tryz.underlying32 rfl (by kernel_rfl)) rfl ⟨rfl, HB.out⟩

set_option maxRecDepth 100000 in
set_option maxHeartbeats 8000000 in
theorem read_long (g0 o0 cap : Nat) (l : List UInt8) (pages slot : Int) (w : World) (hl : l.length = 512) (hT : Tab w)
    (hc : ∀ j (h : j < l.length), w.cell? ⟨g0, o0 + j, none⟩ = some (.int .u8 (l[j].toNat : Int))) :
    Calls Tryz.prog 64 #[.slice (some ⟨g0, o0, none⟩) 512 cap, .int .i64 pages, .int .i64 slot] w fun e w' => e = .returned (.tuple (readV l pages slot)) ∧ Below w.heap.size w w' := by
  obtain ⟨zc, hzc, z512⟩ : ∃ zc, zc = (u8s (List.replicate 512 0)).toArray ∧ ∀ w, (zeroValue 87).run Tryz.prog w = .ok (.agg zc) w := ⟨_, rfl, zero512⟩
  have s0 := sl_all (w.heap.size + 1)
  have hg0 : g0 < w.heap.size := World.block_lt_of_cell? w _ (hc 0 (by omega))
  obtain ⟨W1, hW1⟩ : ∃ W1, W1 = w.alloc (.cells #[.int .i64 0, .int .i64 0, .int .u64 0] 32) := ⟨_, rfl⟩
  have hz1 : W1.heap[w.heap.size]? = some (.cells #[.int .i64 0, .int .i64 0, .int .u64 0] 32 (0, 0)) := by rw [hW1]; exact heap_alloc_new w _
  have hb1 : Below w.heap.size w W1 := by rw [hW1]; exact below_new w _
  have e1 : W1.heap.size = w.heap.size + 1 := by rw [hW1]; simp
  obtain ⟨W2, hW2⟩ : ∃ W2, W2 = W1.alloc (.cells zc 87) := ⟨_, rfl⟩
  have hb2 : Below W1.heap.size W1 W2 := by rw [hW2]; exact below_new W1 _
  have hrow : RowT 87 W2 (w.heap.size + 1) (List.replicate 512 0) := by rw [hW2, hzc, ← e1]; exact rowT_new _ _ _
  have hc2 : ∀ j (h : j < l.length), W2.cell? ⟨g0, o0 + j, none⟩ = some (.int .u8 (l[j].toNat : Int)) := fun j hj => ((Below.next hb1 hb2).cell (p := ⟨g0, o0 + j, none⟩) hg0).trans (hc j hj)
  obtain ⟨w2, hcp, hr2, hs2⟩ := copy_row (cap := 512) (n := 512) (o := 0) (c2 := cap) hrow hl hc2 (by rw [hl, List.length_replicate]; decide)
  rw [splice_whole l hl] at hr2
  have HB2 : Hid (Below w.heap.size w w2) := hs2.below (Below.next hb1 hb2) (by omega)
  have HZ2 : Hid (w2.heap[w.heap.size]? = some (.cells #[.int .i64 0, .int .i64 0, .int .u64 0] 32 (0, 0))) := by
    show _ = _
    rw [hs2.block w.heap.size (Nat.lt_of_lt_of_le (by omega) hb2.size) (by omega), hb2.block w.heap.size (by omega)]; exact hz1
  have HR2 := hide hr2
  rw [hW2, hW1] at hcp
  have HT := hide hT
  have hld := load512 hr2 hl
  have hn5 : ((512 : Int) != 512) = false := by decide
  have HL := hide hl
  clear hT hr2 hs2 hrow hb1 hb2 hzc hW1 hW2 e1 W1 W2 hz1 hc hc2 hl
  go_enter Tryz.func64, Tryz.ntmps64
  go_wp2_with fail
  refine wp_load_row 87 (.tmp 8) rfl (w.heap.size + 1) rfl 87 _ (0, 0) _ HR2.out under512 rfl (by rw [size512]; simp [u8s_length, HL.out]) ?_
  obtain ⟨mt, hmt⟩ : ∃ mt, mt = parseM l := ⟨_, rfl⟩
  obtain ⟨P, R, T⟩ := mt
  have hnum := parseM_num l HL.out
  rw [← hmt] at hnum
  have HN : Hid (∀ w, Calls Tryz.prog 91 #[.agg (u8s l).toArray] w fun e w' => e = .returned (.agg #[.int .i64 P, .int .i64 R, .int .u64 (T : Int)]) ∧ Below w.heap.size w w') := fun w => by
    have h := numbersOf_any l w HL.out
    rw [← hmt] at h
    exact h
  have hT64 : T < 18446744073709551616 := hnum.2.2.2.2
  have HOK : Hid (okM l pages slot ↔ (P = pages ∧ MayM ⟨P, R, T⟩ ∧ ((T % 2 : Nat) : Int) = slot ∧ mpage ⟨P, R, T⟩ = l)) := by
    show _ ↔ _
    unfold okM
    rw [← hmt]
    exact ⟨fun h => h.2, fun h => ⟨HL.out, h⟩⟩
  have HV : Hid (readV l pages slot = if okM l pages slot then #[.agg #[.int .i64 P, .int .i64 R, .int .u64 (T : Int)], .bool true] else #[.agg #[.int .i64 0, .int .i64 0, .int .u64 0], .bool false]) := by
    show _ = _
    unfold readV
    rw [← hmt]; rfl
  have HNE : Hid (MayM ⟨P, R, T⟩ → ∀ w, (binOp .neq 87 (.agg (u8s (mpage ⟨P, R, T⟩)).toArray) (.agg (u8s l).toArray)).run Tryz.prog w = .ok (.bool (!decide (mpage ⟨P, R, T⟩ = l))) w) := fun _ w => neq512 w _ _ (mpage_len _) HL.out
  have HBY : Hid (∀ w, MayM ⟨P, R, T⟩ → Tab w → Calls Tryz.prog 46 #[.agg #[.int .i64 P, .int .i64 R, .int .u64 (T : Int)]] w fun e w' => e = .returned (.agg (u8s (mpage ⟨P, R, T⟩)).toArray) ∧ Below w.heap.size w w') := fun w h1 h2 => bytesOf_any ⟨P, R, T⟩ w h1 hT64 h2
  have HMB : Hid (∀ w, Calls Tryz.prog 45 #[.agg #[.int .i64 P, .int .i64 R, .int .u64 (T : Int)]] w fun e w' => e = .returned (.bool (decide (MayM ⟨P, R, T⟩))) ∧ Below w.heap.size w w') := fun w => mayBe_any ⟨P, R, T⟩ w
  have HSL : Hid (∀ w, Calls Tryz.prog 47 #[.int .u64 (T : Int)] w fun e w' => e = .returned (.int .i64 ((T % 2 : Nat) : Int)) ∧ w = w') := fun w => slot_any T w hT64
  have hRA := HR2.out.range
  have hLN : (u8s l).length = 512 := by rw [u8s_length]; exact HL.out
  obtain ⟨CL, hCL⟩ : ∃ CL, CL = u8s l := ⟨_, rfl⟩
  rw [← hCL] at HN HNE hRA hLN ⊢
  obtain ⟨PL, hPL⟩ : ∃ PL, PL = u8s (mpage ⟨P, R, T⟩) := ⟨_, rfl⟩
  rw [← hPL] at HNE HBY
  have HRA := hide hRA
  have HLN := hide hLN
  clear hld hCL hPL hcp s0 z512 hnum hmt HR2 hRA hLN
  go_wp2_with fail
  refine (HN.out _).mono ?_
  rintro e w3 ⟨rfl, hb3⟩
  have HB3 := hide (Below.next HB2.out hb3)
  have HLT2 : Hid (w.heap.size < w2.heap.size) := by
    rcases Nat.lt_or_ge w.heap.size w2.heap.size with h' | h'
    · exact h'
    · have h2 := HZ2.out; rw [Array.getElem?_eq_none h'] at h2; cases h2
  have HZ3 : Hid (w3.heap[w.heap.size]? = some (.cells #[.int .i64 0, .int .i64 0, .int .u64 0] 32 (0, 0))) := (hb3.block _ HLT2.out).trans HZ2.out
  have HLT1 : Hid (w.heap.size + 1 < w2.heap.size) := World.block_lt_of_cell? w2 ⟨w.heap.size + 1, 0, none⟩ (HRA.out 0 _ (List.getElem?_eq_getElem (by rw [HLN.out]; decide)))
  have HRA3 : Hid (w3.rangeAt (w.heap.size + 1) 0 CL) := fun j v hv => (hb3.cell HLT1.out).trans (HRA.out j v hv)
  clear hb3 HB2 HZ2 HLT2 HLT1 HRA
  go_wp2_with fail
  have HX4 : Hid (Boxed w3.heap.size [.int .i64 P, .int .i64 R, .int .u64 (T : Int)] (w3.alloc (.cells #[.int .i64 P, .int .i64 R, .int .u64 (T : Int)] 32))) := boxed_new w3 _ _
  have hb4 := below_new w3 (.cells #[.int .i64 P, .int .i64 R, .int .u64 (T : Int)] 32)
  have HB4 := hide (Below.next HB3.out hb4)
  have HLT3 : Hid (w.heap.size < w3.heap.size) := by
    rcases Nat.lt_or_ge w.heap.size w3.heap.size with h' | h'
    · exact h'
    · have h2 := HZ3.out; rw [Array.getElem?_eq_none h'] at h2; cases h2
  have HZ4 : Hid ((w3.alloc (.cells #[.int .i64 P, .int .i64 R, .int .u64 (T : Int)] 32)).heap[w.heap.size]? = some (.cells #[.int .i64 0, .int .i64 0, .int .u64 0] 32 (0, 0))) := (hb4.block _ HLT3.out).trans HZ3.out
  have HG3 : Hid (w.heap.size + 1 < w3.heap.size) := World.block_lt_of_cell? w3 ⟨w.heap.size + 1, 0, none⟩ (HRA3.out 0 _ (List.getElem?_eq_getElem (by rw [HLN.out]; decide)))
  have hra : (w3.alloc (.cells #[.int .i64 P, .int .i64 R, .int .u64 (T : Int)] 32)).rangeAt (w.heap.size + 1) 0 CL := fun j v hv => (hb4.cell HG3.out).trans (HRA3.out j v hv)
  have HG4 : Hid (w.heap.size + 1 < (w3.alloc (.cells #[.int .i64 P, .int .i64 R, .int .u64 (T : Int)] 32)).heap.size) := Nat.lt_of_lt_of_le HG3.out hb4.size
  have HLT4 : Hid (w.heap.size < (w3.alloc (.cells #[.int .i64 P, .int .i64 R, .int .u64 (T : Int)] 32)).heap.size) := Nat.lt_of_lt_of_le HLT3.out hb4.size
  have HMB4 := hide HX4.out.1
  have c0 := HX4.out.2 0 (by simp)
  have c1 := HX4.out.2 1 (by simp)
  have c2 := HX4.out.2 2 (by simp)
  simp only [List.getElem_cons_zero, List.getElem_cons_succ] at c0 c1 c2
  clear hb4 HB3 HZ3 HRA3 HG3 HLT3 HX4
  generalize (w3.alloc (.cells #[.int .i64 P, .int .i64 R, .int .u64 (T : Int)] 32)) = W4 at *
  generalize w3.heap.size = mb at *
  have hgr : w.heap.size ≤ w.heap.size + 1 := by omega
  generalize w.heap.size + 1 = g at *
  have HEND : Hid (∀ W, Below W4.heap.size W4 W → W.heap[w.heap.size]? = some (.cells #[.int .i64 0, .int .i64 0, .int .u64 0] 32 (0, 0)) ∧ Below w.heap.size w W) := fun W hb => ⟨(hb.block _ HLT4.out).trans HZ4.out, Below.next HB4.out hb⟩
  have u512 := under512
  have hsz : (Tryz.prog.info? 87).map (·.size) = some CL.length := by rw [size512, HLN.out]
  by_cases hp : P = pages
  · have hdp : (P != pages) = false := by rw [hp]; simp
    by_cases hm : MayM ⟨P, R, T⟩
    · have HM := hide hm
      have hdm : decide (MayM ⟨P, R, T⟩) = true := decide_eq_true hm
      rw [hdm] at HMB
      by_cases hs : ((T % 2 : Nat) : Int) = slot
      · have hds : (((T % 2 : Nat) : Int) != slot) = false := by rw [hs]; simp
        have hne := HNE.out hm
        by_cases he : mpage ⟨P, R, T⟩ = l
        · have HYES : Hid (P = pages ∧ MayM ⟨P, R, T⟩ ∧ ((T % 2 : Nat) : Int) = slot ∧ mpage ⟨P, R, T⟩ = l) := ⟨hp, hm, hs, he⟩
          rw [decide_eq_true he] at hne
          clear he hp hm hs hdm HNE
          generalize ((T % 2 : Nat) : Int) = sl at *
          go_region_held3 (fun w' => w'.cell? ⟨mb, 0, none⟩ = some (.int .i64 P) ∧ w'.cell? ⟨mb, 1, none⟩ = some (.int .i64 R) ∧ w'.cell? ⟨mb, 2, none⟩ = some (.int .u64 (T : Int)) ∧ w'.rangeAt g 0 CL) (go_keep) (first | (go_at_call 45; refine (HMB.out _).mono ?_; rintro e w5 ⟨rfl, hb5d⟩; have hb5 : Below W4.heap.size W4 w5 := ⟨hb5d.os, hb5d.tape, hb5d.output, hb5d.size, hb5d.block⟩; have HB5 := hide hb5; have q0 : w5.cell? ⟨mb, 0, none⟩ = some (.int .i64 P) := (hb5.cell HMB4.out).trans c0; have q1 : w5.cell? ⟨mb, 1, none⟩ = some (.int .i64 R) := (hb5.cell HMB4.out).trans c1; have q2 : w5.cell? ⟨mb, 2, none⟩ = some (.int .u64 (T : Int)) := (hb5.cell HMB4.out).trans c2; have q3 : w5.rangeAt g 0 CL := fun j v hv => (hb5.cell HG4.out).trans (hra j v hv); clear hb5 hb5d) | (go_at_call 47; refine (HSL.out _).mono ?_; rintro e w' ⟨rfl, rfl⟩) | (go_at_call 46; refine (HBY.out _ HM.out ?_).mono ?_; (exact HT.out.below (Below.next HB4.out HB5.out)); rintro e w6 ⟨rfl, hb6d⟩; have hb6 : Below W4.heap.size W4 w6 := Below.next HB5.out ⟨hb6d.os, hb6d.tape, hb6d.output, hb6d.size, hb6d.block⟩; have HB6 := hide hb6; have r0 : w6.cell? ⟨mb, 0, none⟩ = some (.int .i64 P) := (hb6.cell HMB4.out).trans c0; have r1 : w6.cell? ⟨mb, 1, none⟩ = some (.int .i64 R) := (hb6.cell HMB4.out).trans c1; have r2 : w6.cell? ⟨mb, 2, none⟩ = some (.int .u64 (T : Int)) := (hb6.cell HMB4.out).trans c2; have r3 : w6.rangeAt g 0 CL := fun j v hv => (hb6.cell HG4.out).trans (hra j v hv); clear hb6 hb6d))
          obtain ⟨hzf, hbf⟩ := HEND.out _ HB6.out
          obtain ⟨z0, z1, z2, y0, y1, y2⟩ := zero_cells hzf
          have HZF := hide hzf
          have HBF := hide hbf
          clear hzf hbf
          go_wp2_with fail
          refine bodyPost_ret (results_row_tmp rfl _ _ w.heap.size 32 #[.int .i64 P, .int .i64 R, .int .u64 (T : Int)] (0, 0) _ rfl (set_three HZF.out) Tryz.underlying32 rfl (by kernel_rfl)) rfl ⟨?_, below_three HBF.out (Nat.le_refl _)⟩
          rw [HV.out, if_pos (HOK.out.2 HYES.out)]; rfl
        · have HNO : Hid (¬ (P = pages ∧ MayM ⟨P, R, T⟩ ∧ ((T % 2 : Nat) : Int) = slot ∧ mpage ⟨P, R, T⟩ = l)) := fun h => he h.2.2.2
          rw [decide_eq_false he] at hne
          clear he hp hm hs hdm HNE
          generalize ((T % 2 : Nat) : Int) = sl at *
          go_region_held3 (fun w' => w'.cell? ⟨mb, 0, none⟩ = some (.int .i64 P) ∧ w'.cell? ⟨mb, 1, none⟩ = some (.int .i64 R) ∧ w'.cell? ⟨mb, 2, none⟩ = some (.int .u64 (T : Int)) ∧ w'.rangeAt g 0 CL) (go_keep) (first | (go_at_call 45; refine (HMB.out _).mono ?_; rintro e w5 ⟨rfl, hb5d⟩; have hb5 : Below W4.heap.size W4 w5 := ⟨hb5d.os, hb5d.tape, hb5d.output, hb5d.size, hb5d.block⟩; have HB5 := hide hb5; have q0 : w5.cell? ⟨mb, 0, none⟩ = some (.int .i64 P) := (hb5.cell HMB4.out).trans c0; have q1 : w5.cell? ⟨mb, 1, none⟩ = some (.int .i64 R) := (hb5.cell HMB4.out).trans c1; have q2 : w5.cell? ⟨mb, 2, none⟩ = some (.int .u64 (T : Int)) := (hb5.cell HMB4.out).trans c2; have q3 : w5.rangeAt g 0 CL := fun j v hv => (hb5.cell HG4.out).trans (hra j v hv); clear hb5 hb5d) | (go_at_call 47; refine (HSL.out _).mono ?_; rintro e w' ⟨rfl, rfl⟩) | (go_at_call 46; refine (HBY.out _ HM.out ?_).mono ?_; (exact HT.out.below (Below.next HB4.out HB5.out)); rintro e w6 ⟨rfl, hb6d⟩; have hb6 : Below W4.heap.size W4 w6 := Below.next HB5.out ⟨hb6d.os, hb6d.tape, hb6d.output, hb6d.size, hb6d.block⟩; have HB6 := hide hb6; have r0 : w6.cell? ⟨mb, 0, none⟩ = some (.int .i64 P) := (hb6.cell HMB4.out).trans c0; have r1 : w6.cell? ⟨mb, 1, none⟩ = some (.int .i64 R) := (hb6.cell HMB4.out).trans c1; have r2 : w6.cell? ⟨mb, 2, none⟩ = some (.int .u64 (T : Int)) := (hb6.cell HMB4.out).trans c2; have r3 : w6.rangeAt g 0 CL := fun j v hv => (hb6.cell HG4.out).trans (hra j v hv); clear hb6 hb6d))
          obtain ⟨hzf, hbf⟩ := HEND.out _ HB6.out
          obtain ⟨z0, z1, z2, y0, y1, y2⟩ := zero_cells hzf
          have HZF := hide hzf
          have HBF := hide hbf
          clear hzf hbf
          go_wp2_with fail
          refine bodyPost_ret (results_row_tmp rfl _ _ w.heap.size 32 #[.int .i64 0, .int .i64 0, .int .u64 0] (0, 0) _ rfl (set_three HZF.out) Tryz.underlying32 rfl (by kernel_rfl)) rfl ⟨?_, below_three HBF.out (Nat.le_refl _)⟩
          rw [HV.out, if_neg (fun h => HNO.out (HOK.out.1 h))]; rfl
      · have hds : (((T % 2 : Nat) : Int) != slot) = true := bne_iff_ne.2 hs
        have HNO : Hid (¬ (P = pages ∧ MayM ⟨P, R, T⟩ ∧ ((T % 2 : Nat) : Int) = slot ∧ mpage ⟨P, R, T⟩ = l)) := fun h => hs h.2.2.1
        clear hp hm hs hdm HNE HBY
        generalize ((T % 2 : Nat) : Int) = sl at *
        first | (go_region_with (first | (go_at_call 45; refine (HMB.out _).mono ?_; rintro e w5 ⟨rfl, hb5d⟩; have hb5 : Below W4.heap.size W4 w5 := ⟨hb5d.os, hb5d.tape, hb5d.output, hb5d.size, hb5d.block⟩; have HB5 := hide hb5; have q0 : w5.cell? ⟨mb, 0, none⟩ = some (.int .i64 P) := (hb5.cell HMB4.out).trans c0; have q1 : w5.cell? ⟨mb, 1, none⟩ = some (.int .i64 R) := (hb5.cell HMB4.out).trans c1; have q2 : w5.cell? ⟨mb, 2, none⟩ = some (.int .u64 (T : Int)) := (hb5.cell HMB4.out).trans c2; have q3 : w5.rangeAt g 0 CL := fun j v hv => (hb5.cell HG4.out).trans (hra j v hv); clear hb5 hb5d) | (go_at_call 47; refine (HSL.out _).mono ?_; rintro e w' ⟨rfl, rfl⟩))) | fail
        all_goals
          obtain ⟨hzf, hbf⟩ := HEND.out _ HB5.out
          obtain ⟨z0, z1, z2, y0, y1, y2⟩ := zero_cells hzf
          have HZF := hide hzf
          have HBF := hide hbf
          clear hzf hbf
          go_wp2_with fail
          refine bodyPost_ret (results_row_tmp rfl _ _ w.heap.size 32 #[.int .i64 0, .int .i64 0, .int .u64 0] (0, 0) _ rfl (set_three HZF.out) Tryz.underlying32 rfl (by kernel_rfl)) rfl ⟨?_, below_three HBF.out (Nat.le_refl _)⟩
          rw [HV.out, if_neg (fun h => HNO.out (HOK.out.1 h))]; rfl
    · have HNO : Hid (¬ (P = pages ∧ MayM ⟨P, R, T⟩ ∧ ((T % 2 : Nat) : Int) = slot ∧ mpage ⟨P, R, T⟩ = l)) := fun h => hm h.2.1
      have hdm : decide (MayM ⟨P, R, T⟩) = false := decide_eq_false hm
      rw [hdm] at HMB
      clear hp hm hdm HNE HBY
      first | (go_region_with (first | (go_at_call 45; refine (HMB.out _).mono ?_; rintro e w5 ⟨rfl, hb5d⟩; have hb5 : Below W4.heap.size W4 w5 := ⟨hb5d.os, hb5d.tape, hb5d.output, hb5d.size, hb5d.block⟩; have HB5 := hide hb5; have q0 : w5.cell? ⟨mb, 0, none⟩ = some (.int .i64 P) := (hb5.cell HMB4.out).trans c0; have q1 : w5.cell? ⟨mb, 1, none⟩ = some (.int .i64 R) := (hb5.cell HMB4.out).trans c1; have q2 : w5.cell? ⟨mb, 2, none⟩ = some (.int .u64 (T : Int)) := (hb5.cell HMB4.out).trans c2; have q3 : w5.rangeAt g 0 CL := fun j v hv => (hb5.cell HG4.out).trans (hra j v hv); clear hb5 hb5d))) | fail
      all_goals
        obtain ⟨hzf, hbf⟩ := HEND.out _ HB5.out
        obtain ⟨z0, z1, z2, y0, y1, y2⟩ := zero_cells hzf
        have HZF := hide hzf
        have HBF := hide hbf
        clear hzf hbf
        go_wp2_with fail
        refine bodyPost_ret (results_row_tmp rfl _ _ w.heap.size 32 #[.int .i64 0, .int .i64 0, .int .u64 0] (0, 0) _ rfl (set_three HZF.out) Tryz.underlying32 rfl (by kernel_rfl)) rfl ⟨?_, below_three HBF.out (Nat.le_refl _)⟩
        rw [HV.out, if_neg (fun h => HNO.out (HOK.out.1 h))]; rfl
  · have hdp : (P != pages) = true := bne_iff_ne.2 hp
    have HNO : Hid (¬ (P = pages ∧ MayM ⟨P, R, T⟩ ∧ ((T % 2 : Nat) : Int) = slot ∧ mpage ⟨P, R, T⟩ = l)) := fun h => hp h.1
    clear hp HNE HBY
    go_region
    all_goals
      obtain ⟨hzf, hbf⟩ := HEND.out W4 (Below.refl _ _)
      obtain ⟨z0, z1, z2, y0, y1, y2⟩ := zero_cells hzf
      have HZF := hide hzf
      have HBF := hide hbf
      clear hzf hbf
      go_wp2_with fail
      (try simp only [Exit.inBlock, Exit.then])
      refine bodyPost_ret (results_row_tmp rfl _ _ w.heap.size 32 #[.int .i64 0, .int .i64 0, .int .u64 0] (0, 0) _ rfl (drew_heap (set_three HZF.out)) Tryz.underlying32 rfl (by kernel_rfl)) rfl ⟨?_, (below_three HBF.out (Nat.le_refl _)).drew⟩
      rw [HV.out, if_neg (fun h => HNO.out (HOK.out.1 h))]; rfl

end Go.Proofs.YtlopimdnjookeabGreatDoor
