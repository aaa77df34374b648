import Derived.Test.YtmifadjgmjnkgaaGreatDoorA7
import Derived.Test.YtmifadjgmjnkgaaGreatDoorLStoreG
import Derived.Test.YtmifadjgmjnkgaaGreatDoorLLoadG
import Derived.Test.YtmifadjgmjnkgaaGreatDoorRRead
namespace Go.Proofs.YtmifadjgmjnkgaaGreatDoor
open Go.RowKit

theorem RAll_lt {w : World} {b : Nat} {F : Nat → Prop} {d : V.Dev} {T : Nat} (h : V.RAll w b F d T) : ∀ k, F k → k < w.heap.size := by obtain ⟨_, _, _, _, h⟩ := h; exact h.body.lt

set_option maxHeartbeats 1000000 in
theorem rhas_any (b : Nat) (F : Nat → Prop) (d : V.Dev) (T : Nat) (id : Int) (w : World) (h : V.RAll w b F d T) :
    Calls Tryz.prog 35 #[.pointer (some ⟨b, 0, none⟩), .int .i64 id] w fun e w' => e = .returned (.bool (decide (2 ≤ id ∧ id < 1048576 ∧ (id + 1) * 8 ≤ d.size))) ∧ w = w' := by
  have HS := hide (V.rsize_any b F d w h.at')
  clear h
  generalize d.size = sz at *
  by_cases h1 : 2 ≤ id
  · have e1 : decide (2 ≤ id) = true := decide_eq_true h1
    by_cases h2 : id < 1048576
    · have e2 : decide (id < 1048576) = true := decide_eq_true h2
      have e3 : decide (8 * id + 8 ≤ sz) = decide (2 ≤ id ∧ id < 1048576 ∧ (id + 1) * 8 ≤ sz) := by
        apply decide_eq_decide.2
        constructor
        · intro h; exact ⟨h1, h2, by omega⟩
        · intro h; omega
      rw [← e3]
      clear e3
      go_enter Tryz.func35, Tryz.ntmps35
      go_wp2_with fail
      refine HS.out.mono ?_
      rintro e w' ⟨rfl, rfl⟩
      go_wp2_with fail
      go_ret
      exact ⟨rfl, rfl⟩
    · have e2 : decide (id < 1048576) = false := decide_eq_false h2
      rw [decide_eq_false (fun h => h2 h.2.1)]
      clear h2 h1
      go_enter Tryz.func35, Tryz.ntmps35
      go_wp2_with fail
      go_ret
      exact ⟨rfl, rfl⟩
  · have e1 : decide (2 ≤ id) = false := decide_eq_false h1
    rw [decide_eq_false (fun h => h1 h.1)]
    clear h1
    go_enter Tryz.func35, Tryz.ntmps35
    go_wp2_with fail
    go_ret
    exact ⟨rfl, rfl⟩

set_option maxRecDepth 100000 in
set_option maxHeartbeats 1000000 in
theorem rstore_any (b : Nat) (F : Nat → Prop) (d : V.Dev) (T : Nat) (s : Sh) (w : World) (hs : s.body.size ≤ 140737488355328) (hx : s.txid < 18446744073709551616) (hd : V.RAll w b F d T)
    (hp : d.pend.length + 8 ≤ 5864062014805) (hT : T ≤ 1048576) (hA : ∀ a ∈ d.arms, a.fates.length ≤ 1048576 ∧ ∀ f ∈ a.fates, f.junk.size ≤ 1048576) :
    Calls Tryz.prog 8 #[.pointer (some ⟨b, 0, none⟩), .agg s.cells.toArray] w fun e w' => e = .returned (.int .i64 ((storeD d s).2 : Int)) ∧ ∃ F' T', V.RAll w' b F' (storeD d s).1 T' ∧ V.Step F F' w w' ∧ T' + V.armSum (storeD d s).1.arms ≤ T + V.armSum d.arms := by
  have HD := hide hd
  have HFl := hide (RAll_lt hd)
  obtain ⟨k, i, t, c, bo⟩ := s
  have HX : Hid (Boxed w.heap.size [.int .i64 k, .int .i64 i, .int .u64 (t : Int), .int .i64 c, .string bo] (w.alloc (.cells #[.int .i64 k, .int .i64 i, .int .u64 (t : Int), .int .i64 c, .string bo] 31))) := boxed_new w _ _
  have HB := hide (below_new w (.cells #[.int .i64 k, .int .i64 i, .int .u64 (t : Int), .int .i64 c, .string bo] 31))
  show Calls Tryz.prog 8 #[.pointer (some ⟨b, 0, none⟩), .agg #[.int .i64 k, .int .i64 i, .int .u64 (t : Int), .int .i64 c, .string bo]] w _
  by_cases hm : May ⟨k, i, t, c, bo⟩
  · have HS : Hid (∀ w, Calls Tryz.prog 34 #[.agg #[.int .i64 k, .int .i64 i, .int .u64 (t : Int), .int .i64 c, .string bo]] w fun e w' => ∃ g cap, e = .returned (.tuple #[.slice (some ⟨g, 0, none⟩) 4096 cap, .int .i64 0]) ∧ w'.ownsRow w.heap.size 5 1 (.slice (some ⟨g, 0, none⟩) 4096 cap) 4096 (u8s (page ⟨k, i, t, c, bo⟩)) ∧ Below w.heap.size w w') := fun w => rseal_ok ⟨k, i, t, c, bo⟩ w hm hx
    have HPL : Hid ((page ⟨k, i, t, c, bo⟩).length = 4096) := page_len _ hm
    have hi1 : 0 ≤ i := by have := hm.2.2.1; simp only at this; omega
    have hi2 : i < 1048576 := hm.2.2.1.2
    have HHAS : Hid (∀ w1, Below w.heap.size w w1 → Calls Tryz.prog 35 #[.pointer (some ⟨b, 0, none⟩), .int .i64 i] w1 fun e w' => e = .returned (.bool (decide ((i + 1) * 8 ≤ d.size))) ∧ w1 = w') := fun w1 hb => by
      have h := rhas_any b F d T i w1 (HD.out.below hb)
      have e : decide (2 ≤ i ∧ i < 1048576 ∧ (i + 1) * 8 ≤ d.size) = decide ((i + 1) * 8 ≤ d.size) := decide_eq_decide.2 ⟨fun h => h.2.2, fun h => ⟨hm.2.2.1.1, hm.2.2.1.2, h⟩⟩
      rw [e] at h
      exact h
    have HSD : Hid (storeD d ⟨k, i, t, c, bo⟩ = if (i + 1) * 8 ≤ d.size then d.write (i * 8) (page ⟨k, i, t, c, bo⟩) else (d, 1)) := by
      show storeD d _ = _
      unfold storeD
      by_cases h : (i + 1) * 8 ≤ d.size
      · rw [if_pos ⟨hm, h⟩, if_pos h]
      · rw [if_neg (fun h' => h h'.2), if_neg h]
    have HPN := hide hp
    have HTT := hide hT
    have HAA := hide hA
    clear hd hs hx hm hp hT hA
    generalize page ⟨k, i, t, c, bo⟩ = pg at *
    go_enter Tryz.func8, Tryz.ntmps8
    go_wp2_with fail
    refine (HS.out _).mono ?_
    rintro e w1 ⟨g, cap, rfl, hrow, hb1⟩
    have HX1 := hide (HX.out.below hb1)
    have HB1 := hide (Below.next HB.out hb1)
    have HROW := hide hrow
    have HG : Hid (w.heap.size < g) := by have h1 := (V.owns_blk hrow g rfl).1; have := HX.out.1; show _ < _; omega
    have c1 : w1.cell? ⟨w.heap.size, 1, none⟩ = some (.int .i64 i) := HX1.out.2 1 (by simp)
    clear hrow hb1 HX HB
    by_cases hfit : (i + 1) * 8 ≤ d.size
    · have HH := hide (HHAS.out w1 HB1.out)
      rw [decide_eq_true hfit] at HH
      have HW := hide (V.rwrite_any b F d T w1 (HD.out.below HB1.out) (i * 8) ⟨by omega, by omega⟩ (.slice (some ⟨g, 0, none⟩) 4096 cap) pg (V.bytesAt_own (by rw [HPL.out]; exact HROW.out) (by rw [HPL.out]; decide) (fun g' hg' hf => by
        simp only [Value.ownBlock, Option.some.injEq] at hg'
        have := HFl.out g' hf; have := HG.out; omega)) (by rw [HPL.out]; exact HPN.out) HTT.out HAA.out)
      have HR : Hid (storeD d ⟨k, i, t, c, bo⟩ = d.write (i * 8) pg) := by show storeD d _ = _; rw [HSD.out, if_pos hfit]
      rw [← HR.out] at HW
      clear HSD hfit HHAS
      have e8 : 8 * i = i * 8 := by omega
      go_wp2_with fail
      refine HH.out.mono ?_
      rintro e w1' ⟨rfl, rfl⟩
      go_wp2_with fail
      try rw [e8]
      refine HW.out.mono ?_
      rintro e w2 ⟨rfl, F', T', h2, s2, t2⟩
      have HFIN := hide (And.intro h2 (And.intro ((V.Step.of_below HB1.out).trans s2) t2))
      clear h2 s2 t2
      go_wp2_with fail
      go_ret
      exact ⟨rfl, F', T', HFIN.out⟩
    · have HH := hide (HHAS.out w1 HB1.out)
      rw [decide_eq_false hfit] at HH
      have HR : Hid (storeD d ⟨k, i, t, c, bo⟩ = (d, 1)) := by show storeD d _ = _; rw [HSD.out, if_neg hfit]
      clear HSD hfit HHAS
      go_wp2_with fail
      refine HH.out.mono ?_
      rintro e w1' ⟨rfl, rfl⟩
      go_wp2_with fail
      go_ret
      rw [HR.out]
      exact ⟨rfl, F, T, HD.out.below HB1.out, V.Step.of_below HB1.out, Nat.le_refl _⟩
  · have HS : Hid (∀ w, Calls Tryz.prog 34 #[.agg #[.int .i64 k, .int .i64 i, .int .u64 (t : Int), .int .i64 c, .string bo]] w fun e w' => e = .returned (.tuple #[.slice none 0 0, .int .i64 1]) ∧ Below w.heap.size w w') := fun w => rseal_no ⟨k, i, t, c, bo⟩ w hs hm
    have HR : Hid (storeD d ⟨k, i, t, c, bo⟩ = (d, 1)) := by show storeD d _ = _; unfold storeD; rw [if_neg (fun h' => hm h'.1)]
    clear hd hs hx hm hp hT hA
    go_enter Tryz.func8, Tryz.ntmps8
    go_wp2_with fail
    refine (HS.out _).mono ?_
    rintro e w1 ⟨rfl, hb1⟩
    have HB1 := hide (Below.next HB.out hb1)
    clear hb1
    go_wp2_with fail
    go_ret
    rw [HR.out]
    exact ⟨rfl, F, T, HD.out.below HB1.out, V.Step.of_below HB1.out, Nat.le_refl _⟩

/-- What keeps of the document's device, the zero sheet's block beside it. -/
theorem five_keepR {w w3 : World} {b : Nat} {F : Nat → Prop} {d : V.Dev} {T : Nat} {u0 u1 u2 u3 u4 : Value} (h : V.RAll w3 b F d T) (hs : V.Step F F w w3) (hF : ∀ k, F k → k < w.heap.size) :
    V.RAll (((((w3.setCell ⟨w.heap.size, 0, none⟩ u0).setCell ⟨w.heap.size, 1, none⟩ u1).setCell ⟨w.heap.size, 2, none⟩ u2).setCell ⟨w.heap.size, 3, none⟩ u3).setCell ⟨w.heap.size, 4, none⟩ u4) b F d T ∧
    V.Step F F w (((((w3.setCell ⟨w.heap.size, 0, none⟩ u0).setCell ⟨w.heap.size, 1, none⟩ u1).setCell ⟨w.heap.size, 2, none⟩ u2).setCell ⟨w.heap.size, 3, none⟩ u3).setCell ⟨w.heap.size, 4, none⟩ u4) := by
  have h5 := @five_step w3 w.heap.size u0 u1 u2 u3 u4
  exact ⟨h.keep h5 (fun k hk e => by have := hF k hk; omega), h5.os.trans hs.os, h5.tape.trans hs.tape, h5.output.trans hs.output, Nat.le_trans hs.size h5.size, fun q hq hn => (h5.block q (Nat.lt_of_lt_of_le hq hs.size) (by omega)).trans (hs.block q hq hn), fun q hq => hs.sub q hq⟩
theorem rreadV_cells (l : List UInt8) (id : Int) : rreadV l id = #[.agg (if okRead l id then parse l else zSh).cells.toArray, .int .i64 (if okRead l id then 0 else 2)] := by
  unfold rreadV
  split <;> rfl

set_option maxRecDepth 100000 in
set_option maxHeartbeats 2000000 in
theorem rload_any (b : Nat) (F : Nat → Prop) (d : V.Dev) (T : Nat) (id : Int) (w : World) (hd : V.RAll w b F d T) (hp : d.pend.length ≤ 5864062014805) :
    Calls Tryz.prog 10 #[.pointer (some ⟨b, 0, none⟩), .int .i64 id] w fun e w' => e = .returned (.tuple #[.agg (loadR d id).2.1.cells.toArray, .int .i64 ((loadR d id).2.2 : Int)]) ∧ V.RAll w' b F (loadR d id).1 T ∧ V.Step F F w w' := by
  have HD := hide hd
  have HB := hide (below_new w zshB)
  have HFl := hide (RAll_lt hd)
  have HR0 : Hid ((w.alloc zshB).heap[w.heap.size]? = some (.cells #[.int .i64 0, .int .i64 0, .int .u64 0, .int .i64 0, .string ⟨#[]⟩] 31 (0, 0))) := heap_alloc_new w _
  have HHAS := hide (rhas_any b F d T id (w.alloc zshB) (HD.out.below HB.out))
  by_cases hid : 2 ≤ id ∧ id < 1048576 ∧ (id + 1) * 8 ≤ d.size
  · rw [decide_eq_true hid] at HHAS
    have HLR : Hid (loadR d id = if (d.read (id * 8) 8).2.2 = 0 then ((d.read (id * 8) 8).1, if okRead (d.read (id * 8) 8).2.1 id then (parse (d.read (id * 8) 8).2.1, 0) else (zSh, 2)) else ((d.read (id * 8) 8).1, zSh, (d.read (id * 8) 8).2.2)) := by
      show loadR d id = _
      unfold loadR
      rw [if_pos hid]
    obtain ⟨hi1, hi2, hfit⟩ := hid
    have hcode := read_code (d := d) (s := id * 8) (n := 8) (by omega) (by omega) (by omega) (by omega)
    have HRD := hide (V.rdev_read_any b F d T (w.alloc zshB) (HD.out.below HB.out) (id * 8) 8 hp ⟨by omega, by omega⟩ ⟨by omega, by omega⟩)
    have hcd : (d.read (id * 8) 8).2.2 = 8 ∨ (d.read (id * 8) 8).2.2 = 0 := by rw [hcode]; cases d.dead <;> simp
    have e8 : 8 * id = id * 8 := by omega
    clear hcode hfit hd
    generalize d.read (id * 8) 8 = R at *
    obtain ⟨Rd, Rl, Rc⟩ := R
    simp only at hcd HLR HRD
    go_enter Tryz.func10, Tryz.ntmps10
    go_wp2_with fail
    refine HHAS.out.mono ?_
    rintro e W0' ⟨rfl, rfl⟩
    go_wp2_with fail
    try rw [e8]
    refine HRD.out.mono ?_
    rintro e w2 ⟨v, rfl, hrow, hdev, hstp⟩
    obtain ⟨va, vc, rfl, -⟩ := V.owns_form hrow
    have HR2 : Hid (w2.heap[w.heap.size]? = some (.cells #[.int .i64 0, .int .i64 0, .int .u64 0, .int .i64 0, .string ⟨#[]⟩] 31 (0, 0))) := zrow_step hstp HFl.out
    have HRB := hide (rdb_of_owns hrow)
    have HP2 := hide hdev
    have HS2 : Hid (V.Step F F w w2) := (V.Step.of_below HB.out).trans hstp
    clear hrow hdev hstp HRD HHAS
    rcases hcd with rfl | rfl
    · have hr3 := HR2.out
      have z0 : w2.cell? ⟨w.heap.size, 0, none⟩ = some (.int .i64 0) := by rw [cell_of_row _ _ _ _ _ _ hr3]; rfl
      have y0 : w2.frozen? ⟨w.heap.size, 0, none⟩ = false := frozen_of_row _ _ _ _ _ hr3
      have z1 : w2.cell? ⟨w.heap.size, 1, none⟩ = some (.int .i64 0) := by rw [cell_of_row _ _ _ _ _ _ hr3]; rfl
      have y1 : w2.frozen? ⟨w.heap.size, 1, none⟩ = false := frozen_of_row _ _ _ _ _ hr3
      have z2 : w2.cell? ⟨w.heap.size, 2, none⟩ = some (.int .u64 0) := by rw [cell_of_row _ _ _ _ _ _ hr3]; rfl
      have y2 : w2.frozen? ⟨w.heap.size, 2, none⟩ = false := frozen_of_row _ _ _ _ _ hr3
      have z3 : w2.cell? ⟨w.heap.size, 3, none⟩ = some (.int .i64 0) := by rw [cell_of_row _ _ _ _ _ _ hr3]; rfl
      have y3 : w2.frozen? ⟨w.heap.size, 3, none⟩ = false := frozen_of_row _ _ _ _ _ hr3
      have z4 : w2.cell? ⟨w.heap.size, 4, none⟩ = some (.string ⟨#[]⟩) := by rw [cell_of_row _ _ _ _ _ _ hr3]; rfl
      have y4 : w2.frozen? ⟨w.heap.size, 4, none⟩ = false := frozen_of_row _ _ _ _ _ hr3
      have HLV : Hid (loadR d id = (Rd, zSh, 8)) := by show loadR d id = _; rw [HLR.out]; rfl
      clear HLR hr3
      go_wp2_with fail
      (try simp only [Exit.inBlock, Exit.then])
      rw [HLV.out]
      refine bodyPost_ret (results_row_tmp rfl _ _ w.heap.size 31 #[.int .i64 0, .int .i64 0, .int .u64 0, .int .i64 0, .string ⟨#[]⟩] (0, 0) _ rfl (set_five HR2.out) Tryz.underlying31 rfl (by kernel_rfl)) rfl ⟨rfl, ?_⟩
      exact five_keepR HP2.out HS2.out HFl.out
    · have HLV : Hid (loadR d id = (Rd, if okRead Rl id then (parse Rl, 0) else (zSh, 2))) := by show loadR d id = _; rw [HLR.out]; rfl
      have HRA := hide (rread_any _ Rl id _ HRB.out)
      rw [rreadV_cells] at HRA
      clear HLR
      obtain ⟨sh, hsh⟩ : ∃ sh, sh = if okRead Rl id then parse Rl else zSh := ⟨_, rfl⟩
      obtain ⟨er, her⟩ : ∃ er : Int, er = if okRead Rl id then 0 else 2 := ⟨_, rfl⟩
      rw [← hsh, ← her] at HRA
      have HLW : Hid ((loadR d id).2.1 = sh ∧ ((loadR d id).2.2 : Int) = er ∧ (loadR d id).1 = Rd) := by
        show _ ∧ _ ∧ _
        rw [HLV.out, hsh, her]
        split <;> exact ⟨rfl, rfl, rfl⟩
      clear hsh her HLV
      obtain ⟨k5, i5, t5, c5, b5⟩ := sh
      go_wp2_with fail
      refine HRA.out.mono ?_
      rintro e w3 ⟨rfl, hb3⟩
      have hr3 : w3.heap[w.heap.size]? = some (.cells #[.int .i64 0, .int .i64 0, .int .u64 0, .int .i64 0, .string ⟨#[]⟩] 31 (0, 0)) := (hb3.block _ ((Array.getElem?_eq_some_iff.1 HR2.out).1)).trans HR2.out
      have HR3 := hide hr3
      have HP3 := hide (HP2.out.below hb3)
      have HS3 : Hid (V.Step F F w w3) := HS2.out.trans (V.Step.of_below hb3)
      have z0 : w3.cell? ⟨w.heap.size, 0, none⟩ = some (.int .i64 0) := by rw [cell_of_row _ _ _ _ _ _ hr3]; rfl
      have y0 : w3.frozen? ⟨w.heap.size, 0, none⟩ = false := frozen_of_row _ _ _ _ _ hr3
      have z1 : w3.cell? ⟨w.heap.size, 1, none⟩ = some (.int .i64 0) := by rw [cell_of_row _ _ _ _ _ _ hr3]; rfl
      have y1 : w3.frozen? ⟨w.heap.size, 1, none⟩ = false := frozen_of_row _ _ _ _ _ hr3
      have z2 : w3.cell? ⟨w.heap.size, 2, none⟩ = some (.int .u64 0) := by rw [cell_of_row _ _ _ _ _ _ hr3]; rfl
      have y2 : w3.frozen? ⟨w.heap.size, 2, none⟩ = false := frozen_of_row _ _ _ _ _ hr3
      have z3 : w3.cell? ⟨w.heap.size, 3, none⟩ = some (.int .i64 0) := by rw [cell_of_row _ _ _ _ _ _ hr3]; rfl
      have y3 : w3.frozen? ⟨w.heap.size, 3, none⟩ = false := frozen_of_row _ _ _ _ _ hr3
      have z4 : w3.cell? ⟨w.heap.size, 4, none⟩ = some (.string ⟨#[]⟩) := by rw [cell_of_row _ _ _ _ _ _ hr3]; rfl
      have y4 : w3.frozen? ⟨w.heap.size, 4, none⟩ = false := frozen_of_row _ _ _ _ _ hr3
      have HSC : Hid ((⟨k5, i5, t5, c5, b5⟩ : Sh).cells.toArray = #[.int .i64 k5, .int .i64 i5, .int .u64 (t5 : Int), .int .i64 c5, .string b5]) := rfl
      rw [HSC.out]
      clear hr3 hb3
      go_wp2_with fail
      (try simp only [Exit.inBlock, Exit.then])
      rw [HLW.out.1, HLW.out.2.1, HLW.out.2.2]
      refine bodyPost_ret (results_row_tmp rfl _ _ w.heap.size 31 #[.int .i64 k5, .int .i64 i5, .int .u64 (t5 : Int), .int .i64 c5, .string b5] (0, 0) _ rfl (set_five HR3.out) Tryz.underlying31 rfl (by kernel_rfl)) rfl ⟨rfl, ?_⟩
      exact five_keepR HP3.out HS3.out HFl.out
  · rw [decide_eq_false hid] at HHAS
    have HLV : Hid (loadR d id = (d, zSh, 1)) := by show loadR d id = _; unfold loadR; rw [if_neg hid]
    have hr3 := HR0.out
    unfold zshB at hr3
    have z0 : (w.alloc (.cells #[.int .i64 0, .int .i64 0, .int .u64 0, .int .i64 0, .string ⟨#[]⟩] 31)).cell? ⟨w.heap.size, 0, none⟩ = some (.int .i64 0) := by rw [cell_of_row _ _ _ _ _ _ hr3]; rfl
    have y0 : (w.alloc (.cells #[.int .i64 0, .int .i64 0, .int .u64 0, .int .i64 0, .string ⟨#[]⟩] 31)).frozen? ⟨w.heap.size, 0, none⟩ = false := frozen_of_row _ _ _ _ _ hr3
    have z1 : (w.alloc (.cells #[.int .i64 0, .int .i64 0, .int .u64 0, .int .i64 0, .string ⟨#[]⟩] 31)).cell? ⟨w.heap.size, 1, none⟩ = some (.int .i64 0) := by rw [cell_of_row _ _ _ _ _ _ hr3]; rfl
    have y1 : (w.alloc (.cells #[.int .i64 0, .int .i64 0, .int .u64 0, .int .i64 0, .string ⟨#[]⟩] 31)).frozen? ⟨w.heap.size, 1, none⟩ = false := frozen_of_row _ _ _ _ _ hr3
    have z2 : (w.alloc (.cells #[.int .i64 0, .int .i64 0, .int .u64 0, .int .i64 0, .string ⟨#[]⟩] 31)).cell? ⟨w.heap.size, 2, none⟩ = some (.int .u64 0) := by rw [cell_of_row _ _ _ _ _ _ hr3]; rfl
    have y2 : (w.alloc (.cells #[.int .i64 0, .int .i64 0, .int .u64 0, .int .i64 0, .string ⟨#[]⟩] 31)).frozen? ⟨w.heap.size, 2, none⟩ = false := frozen_of_row _ _ _ _ _ hr3
    have z3 : (w.alloc (.cells #[.int .i64 0, .int .i64 0, .int .u64 0, .int .i64 0, .string ⟨#[]⟩] 31)).cell? ⟨w.heap.size, 3, none⟩ = some (.int .i64 0) := by rw [cell_of_row _ _ _ _ _ _ hr3]; rfl
    have y3 : (w.alloc (.cells #[.int .i64 0, .int .i64 0, .int .u64 0, .int .i64 0, .string ⟨#[]⟩] 31)).frozen? ⟨w.heap.size, 3, none⟩ = false := frozen_of_row _ _ _ _ _ hr3
    have z4 : (w.alloc (.cells #[.int .i64 0, .int .i64 0, .int .u64 0, .int .i64 0, .string ⟨#[]⟩] 31)).cell? ⟨w.heap.size, 4, none⟩ = some (.string ⟨#[]⟩) := by rw [cell_of_row _ _ _ _ _ _ hr3]; rfl
    have y4 : (w.alloc (.cells #[.int .i64 0, .int .i64 0, .int .u64 0, .int .i64 0, .string ⟨#[]⟩] 31)).frozen? ⟨w.heap.size, 4, none⟩ = false := frozen_of_row _ _ _ _ _ hr3
    clear hid hr3
    unfold zshB at HHAS
    go_enter Tryz.func10, Tryz.ntmps10
    go_wp2_with fail
    refine HHAS.out.mono ?_
    rintro e W0' ⟨rfl, rfl⟩
    go_wp2_with fail
    (try simp only [Exit.inBlock, Exit.then])
    rw [HLV.out]
    refine bodyPost_ret (results_row_tmp rfl _ _ w.heap.size 31 #[.int .i64 0, .int .i64 0, .int .u64 0, .int .i64 0, .string ⟨#[]⟩] (0, 0) _ rfl HR0.out Tryz.underlying31 rfl (by kernel_rfl)) rfl ⟨rfl, ?_⟩
    exact ⟨HD.out.below HB.out, V.Step.of_below HB.out⟩

end Go.Proofs.YtmifadjgmjnkgaaGreatDoor
