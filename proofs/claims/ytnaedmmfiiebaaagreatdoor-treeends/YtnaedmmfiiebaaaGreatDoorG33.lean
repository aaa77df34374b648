import Derived.Test.YtnaedmmfiiebaaaGreatDoorG31
import Derived.Test.YtnaedmmfiiebaaaGreatDoorG25
import Derived.Test.YtnaedmmfiiebaaaGreatDoorG32
namespace Go.Proofs.YtnaedmmfiiebaaaGreatDoor.S
open Go.RowKit

def zSh : Sh := ⟨0, 0, 0, 0, ⟨#[]⟩⟩
/-- What Load does to a device, its sheet and its refusal's number. -/
def loadR (d : V.Dev) (id : Int) : V.Dev × Sh × Nat :=
  if 2 ≤ id ∧ id < 1048576 ∧ (id + 1) * 8 ≤ d.size then
    if (d.read (id * 8) 8).2.2 = 0 then ((d.read (id * 8) 8).1, if okRead (d.read (id * 8) 8).2.1 id then (parse (d.read (id * 8) 8).2.1, 0) else (zSh, 2))
    else ((d.read (id * 8) 8).1, zSh, (d.read (id * 8) 8).2.2)
  else (d, zSh, 1)
def zshB : Obj := .cells #[.int .i64 0, .int .i64 0, .int .u64 0, .int .i64 0, .string ⟨#[]⟩] 87
theorem read_code {d : V.Dev} {s n : Int} (h0 : 0 ≤ s) (h1 : 0 ≤ n) (h2 : s ≤ d.size - n) (h3 : n ≤ 1024) : (d.read s n).2.2 = if d.dead then 8 else 0 := by
  unfold V.Dev.read
  have hf : d.fits s n = true := by unfold V.Dev.fits; exact decide_eq_true ⟨h0, h1, h2⟩
  cases d.dead with
  | true => rfl
  | false =>
    rw [hf]
    simp only [Bool.false_eq_true, if_false, Bool.true_eq_false]
    rw [if_neg (by omega)]
theorem readV_cells (a : Addr) (l : List UInt8) (id : Int) : readV a l id = #[.agg (if okRead l id then parse l else zSh).cells.toArray, if okRead l id then .nilIface else .iface 360 (.pointer (some a))] := by
  unfold readV
  split <;> rfl

/-- The zero sheet's block, where nothing but the device has turned. -/
theorem zrow_step {w w2 : World} {F F' : Nat → Prop} (hs : V.Step F F' (w.alloc zshB) w2) (hF : ∀ k, F k → k < w.heap.size) : w2.heap[w.heap.size]? = some (.cells #[.int .i64 0, .int .i64 0, .int .u64 0, .int .i64 0, .string ⟨#[]⟩] 87 (0, 0)) := by
  rw [hs.block w.heap.size (by simp) (fun hf => by have := hF _ hf; omega)]
  exact heap_alloc_new w _
theorem five_keep2 {w w3 : World} {b : Nat} {F : Nat → Prop} {d : V.Dev} {u0 u1 u2 u3 u4 : Value} (h : V.DevAt w3 b F d) (hs : V.Step F F w w3) (hF : ∀ k, F k → k < w.heap.size) (hone : V.Step (fun k => k = b) (fun k => k = b) w w3) :
    V.DevAt (((((w3.setCell ⟨w.heap.size, 0, none⟩ u0).setCell ⟨w.heap.size, 1, none⟩ u1).setCell ⟨w.heap.size, 2, none⟩ u2).setCell ⟨w.heap.size, 3, none⟩ u3).setCell ⟨w.heap.size, 4, none⟩ u4) b F d ∧
    V.Step F F w (((((w3.setCell ⟨w.heap.size, 0, none⟩ u0).setCell ⟨w.heap.size, 1, none⟩ u1).setCell ⟨w.heap.size, 2, none⟩ u2).setCell ⟨w.heap.size, 3, none⟩ u3).setCell ⟨w.heap.size, 4, none⟩ u4) ∧
    V.Step (fun k => k = b) (fun k => k = b) w (((((w3.setCell ⟨w.heap.size, 0, none⟩ u0).setCell ⟨w.heap.size, 1, none⟩ u1).setCell ⟨w.heap.size, 2, none⟩ u2).setCell ⟨w.heap.size, 3, none⟩ u3).setCell ⟨w.heap.size, 4, none⟩ u4) := by
  have h5 := @five_step w3 w.heap.size u0 u1 u2 u3 u4
  refine ⟨h.keep h5 (fun k hk e => by have := hF k hk; omega), ⟨h5.os.trans hs.os, h5.tape.trans hs.tape, h5.output.trans hs.output, Nat.le_trans hs.size h5.size, fun q hq hn => (h5.block q (Nat.lt_of_lt_of_le hq hs.size) (by omega)).trans (hs.block q hq hn), fun q hq => hs.sub q hq⟩, ⟨h5.os.trans hone.os, h5.tape.trans hone.tape, h5.output.trans hone.output, Nat.le_trans hone.size h5.size, fun q hq hn => (h5.block q (Nat.lt_of_lt_of_le hq hone.size) (by omega)).trans (hone.block q hq hn), fun q hq => hone.sub q hq⟩⟩

set_option maxRecDepth 100000 in
set_option maxHeartbeats 2000000 in
theorem loadG_any (base : Nat) (A : Nat → Addr) (db : Nat) (F : Nat → Prop) (d : V.Dev) (id : Int) (w : World) (hd : V.DevAt w db F d) (hE : Env base A w) (hF : ∀ k, F k → base ≤ k) :
    Calls Tryz.prog 113 #[.pointer (some ⟨db, 0, none⟩), .int .i64 id] w fun e w' => e = .returned (.tuple #[.agg (loadR d id).2.1.cells.toArray, V.errV A (loadR d id).2.2]) ∧ V.DevAt w' db F (loadR d id).1 ∧ V.Step F F w w' ∧ V.Step (fun k => k = db) (fun k => k = db) w w' := by
  have HE := hide hE
  have HD := hide hd
  have HFB := hide hF
  have HB := hide (below_new w zshB)
  have HFl := hide hd.lt
  have HZ0 : Hid (∀ w3, V.Step F F w w3 → w3.heap[w.heap.size]? = some (.cells #[.int .i64 0, .int .i64 0, .int .u64 0, .int .i64 0, .string ⟨#[]⟩] 87 (0, 0)) → True) := fun _ _ _ => trivial
  have HR0 : Hid ((w.alloc zshB).heap[w.heap.size]? = some (.cells #[.int .i64 0, .int .i64 0, .int .u64 0, .int .i64 0, .string ⟨#[]⟩] 87 (0, 0))) := heap_alloc_new w _
  have HISI := hide (isID_any id)
  clear hE hd hF HZ0
  by_cases hid : 2 ≤ id ∧ id < 1048576
  · obtain ⟨hi1, hi2⟩ := hid
    have hi0 : 0 ≤ id := by omega
    have HIT : Hid (∀ w, Calls Tryz.prog 150 #[.int .i64 id] w fun e w' => e = .returned (.bool true) ∧ w = w') := fun w => by
      have h := HISI.out w
      rw [decide_eq_true ⟨hi1, hi2⟩] at h
      exact h
    clear HISI
    by_cases hfit : (id + 1) * 8 ≤ d.size
    · have HDF := hide (decide_eq_true hfit)
      have hcode := read_code (d := d) (s := id * 8) (n := 8) (by omega) (by omega) (by omega) (by omega)
      have HLR : Hid (loadR d id = if (d.read (id * 8) 8).2.2 = 0 then ((d.read (id * 8) 8).1, if okRead (d.read (id * 8) 8).2.1 id then (parse (d.read (id * 8) 8).2.1, 0) else (zSh, 2)) else ((d.read (id * 8) 8).1, zSh, (d.read (id * 8) 8).2.2)) := by
        show loadR d id = _
        unfold loadR
        rw [if_pos ⟨hi1, hi2, hfit⟩]
      have HDV := hide (HD.out.below HB.out)
      have HEV := hide (HE.out.up HB.out)
      have HRD := hide (V.read_any base A db F d (w.alloc zshB) HDV.out HEV.out.errs (id * 8) 8 (by decide))
      have HSH := hide (sholds_any db F d id (w.alloc zshB) HDV.out hi0 hi2)
      rw [HDF.out] at HSH
      have hcd : (d.read (id * 8) 8).2.2 = 8 ∨ (d.read (id * 8) 8).2.2 = 0 := by rw [hcode]; cases d.dead <;> simp
      clear hcode HDF hfit
      generalize d.read (id * 8) 8 = R at *
      obtain ⟨Rd, Rl, Rc⟩ := R
      simp only at hcd HLR
      obtain ⟨ev, hev⟩ : ∃ ev, ev = V.errV A Rc := ⟨_, rfl⟩
      have HRX : Hid (Calls Tryz.prog 151 #[.pointer (some ⟨db, 0, none⟩), .int .i64 (id * 8), .int .i64 8] (w.alloc zshB) fun e w' => ∃ va vc, e = .returned (.tuple #[.slice va Rl.length vc, ev]) ∧ w'.ownsRow (w.alloc zshB).heap.size 5 1 (.slice va Rl.length vc) Rl.length (u8s Rl) ∧ V.DevAt w' db F Rd ∧ V.Step F F (w.alloc zshB) w' ∧ V.Step (fun k => k = db) (fun k => k = db) (w.alloc zshB) w') := by
        refine HRD.out.mono ?_
        rintro e w2 ⟨v, P⟩
        obtain ⟨va, vc, rfl, -⟩ := V.owns_form P.row
        exact ⟨va, vc, by rw [hev]; exact P.ret, P.row, P.dev, P.step, P.one⟩
      have HEVE := hide hev
      clear HRD hev
      go_enter Tryz.func113, Tryz.ntmps113
      go_wp2_with fail
      refine (HIT.out _).mono ?_
      rintro e W0' ⟨rfl, rfl⟩
      go_wp2_with fail
      refine HSH.out.mono ?_
      rintro e W0' ⟨rfl, rfl⟩
      go_wp2_with fail
      refine (first_any id _ hi0 (by omega)).mono ?_
      rintro e W0' ⟨rfl, rfl⟩
      go_wp2_with fail
      refine HRX.out.mono ?_
      rintro e w2 ⟨va, vc, rfl, hrow, hdev, hstp, hon⟩
      have HO2 : Hid (V.Step (fun k => k = db) (fun k => k = db) w w2) := (V.Step.of_below HB.out).trans hon
      clear hon
      have HR2 : Hid (w2.heap[w.heap.size]? = some (.cells #[.int .i64 0, .int .i64 0, .int .u64 0, .int .i64 0, .string ⟨#[]⟩] 87 (0, 0))) := zrow_step hstp HFl.out
      have HRB := hide (rdb_of_owns hrow)
      have HP2 := hide hdev
      have HS2 : Hid (V.Step F F w w2) := (V.Step.of_below HB.out).trans hstp
      have HE2 := hide (HEV.out.step hstp HFB.out)
      clear hrow hdev hstp HRX HSH
      rcases hcd with rfl | rfl
      · have hr3 := HR2.out
        have z0 : w2.cell? ⟨w.heap.size, 0, none⟩ = some (.int .i64 0) := by rw [cell_of_row _ _ _ _ _ _ hr3]; rfl
        have z1 : w2.cell? ⟨w.heap.size, 1, none⟩ = some (.int .i64 0) := by rw [cell_of_row _ _ _ _ _ _ hr3]; rfl
        have z2 : w2.cell? ⟨w.heap.size, 2, none⟩ = some (.int .u64 0) := by rw [cell_of_row _ _ _ _ _ _ hr3]; rfl
        have z3 : w2.cell? ⟨w.heap.size, 3, none⟩ = some (.int .i64 0) := by rw [cell_of_row _ _ _ _ _ _ hr3]; rfl
        have z4 : w2.cell? ⟨w.heap.size, 4, none⟩ = some (.string ⟨#[]⟩) := by rw [cell_of_row _ _ _ _ _ _ hr3]; rfl
        have y0 : w2.frozen? ⟨w.heap.size, 0, none⟩ = false := frozen_of_row _ _ _ _ _ hr3
        have y1 : w2.frozen? ⟨w.heap.size, 1, none⟩ = false := frozen_of_row _ _ _ _ _ hr3
        have y2 : w2.frozen? ⟨w.heap.size, 2, none⟩ = false := frozen_of_row _ _ _ _ _ hr3
        have y3 : w2.frozen? ⟨w.heap.size, 3, none⟩ = false := frozen_of_row _ _ _ _ _ hr3
        have y4 : w2.frozen? ⟨w.heap.size, 4, none⟩ = false := frozen_of_row _ _ _ _ _ hr3
        have HLV : Hid (loadR d id = (Rd, zSh, 8)) := by show loadR d id = _; rw [HLR.out]; rfl
        obtain rfl : ev = .iface 360 (.pointer (some (A 7))) := HEVE.out
        clear HLR hr3
        go_wp2_with fail
        (try simp only [Exit.inBlock, Exit.then])
        rw [HLV.out]
        refine bodyPost_ret (results_row_tmp rfl _ _ w.heap.size 87 #[.int .i64 0, .int .i64 0, .int .u64 0, .int .i64 0, .string ⟨#[]⟩] (0, 0) _ rfl (set_five HR2.out) Tryz.underlying87 rfl (by kernel_rfl)) rfl ⟨rfl, ?_⟩
        exact five_keep2 HP2.out HS2.out HFl.out HO2.out
      · obtain rfl : ev = .nilIface := HEVE.out
        have HLV : Hid (loadR d id = (Rd, if okRead Rl id then (parse Rl, 0) else (zSh, 2))) := by show loadR d id = _; rw [HLR.out]; rfl
        have HRA := hide (read_any (A 1) _ Rl id _ HRB.out HE2.out.lay HE2.out.tab HE2.out.text)
        rw [readV_cells] at HRA
        clear HLR
        obtain ⟨sh, hsh⟩ : ∃ sh, sh = if okRead Rl id then parse Rl else zSh := ⟨_, rfl⟩
        obtain ⟨er, her⟩ : ∃ er : Value, er = if okRead Rl id then .nilIface else .iface 360 (.pointer (some (A 1))) := ⟨_, rfl⟩
        rw [← hsh, ← her] at HRA
        have HLW : Hid ((loadR d id).2.1 = sh ∧ V.errV A (loadR d id).2.2 = er ∧ (loadR d id).1 = Rd) := by
          show _ ∧ _ ∧ _
          rw [HLV.out, hsh, her]
          split <;> exact ⟨rfl, rfl, rfl⟩
        clear hsh her HLV
        obtain ⟨k5, i5, t5, c5, b5⟩ := sh
        go_wp2_with fail
        refine HRA.out.mono ?_
        rintro e w3 ⟨rfl, hb3⟩
        have hr3 : w3.heap[w.heap.size]? = some (.cells #[.int .i64 0, .int .i64 0, .int .u64 0, .int .i64 0, .string ⟨#[]⟩] 87 (0, 0)) := (hb3.block _ ((Array.getElem?_eq_some_iff.1 HR2.out).1)).trans HR2.out
        have HR3 := hide hr3
        have HP3 := hide (HP2.out.below hb3)
        have HS3 : Hid (V.Step F F w w3) := HS2.out.trans (V.Step.of_below hb3)
        have HO3 : Hid (V.Step (fun k => k = db) (fun k => k = db) w w3) := HO2.out.trans (V.Step.of_below hb3)
        have z0 : w3.cell? ⟨w.heap.size, 0, none⟩ = some (.int .i64 0) := by rw [cell_of_row _ _ _ _ _ _ hr3]; rfl
        have z1 : w3.cell? ⟨w.heap.size, 1, none⟩ = some (.int .i64 0) := by rw [cell_of_row _ _ _ _ _ _ hr3]; rfl
        have z2 : w3.cell? ⟨w.heap.size, 2, none⟩ = some (.int .u64 0) := by rw [cell_of_row _ _ _ _ _ _ hr3]; rfl
        have z3 : w3.cell? ⟨w.heap.size, 3, none⟩ = some (.int .i64 0) := by rw [cell_of_row _ _ _ _ _ _ hr3]; rfl
        have z4 : w3.cell? ⟨w.heap.size, 4, none⟩ = some (.string ⟨#[]⟩) := by rw [cell_of_row _ _ _ _ _ _ hr3]; rfl
        have y0 : w3.frozen? ⟨w.heap.size, 0, none⟩ = false := frozen_of_row _ _ _ _ _ hr3
        have y1 : w3.frozen? ⟨w.heap.size, 1, none⟩ = false := frozen_of_row _ _ _ _ _ hr3
        have y2 : w3.frozen? ⟨w.heap.size, 2, none⟩ = false := frozen_of_row _ _ _ _ _ hr3
        have y3 : w3.frozen? ⟨w.heap.size, 3, none⟩ = false := frozen_of_row _ _ _ _ _ hr3
        have y4 : w3.frozen? ⟨w.heap.size, 4, none⟩ = false := frozen_of_row _ _ _ _ _ hr3
        have HSC : Hid ((⟨k5, i5, t5, c5, b5⟩ : Sh).cells.toArray = #[.int .i64 k5, .int .i64 i5, .int .u64 (t5 : Int), .int .i64 c5, .string b5]) := rfl
        rw [HSC.out]
        clear hr3 hb3
        go_wp2_with fail
        (try simp only [Exit.inBlock, Exit.then])
        rw [HLW.out.1, HLW.out.2.1, HLW.out.2.2]
        refine bodyPost_ret (results_row_tmp rfl _ _ w.heap.size 87 #[.int .i64 k5, .int .i64 i5, .int .u64 (t5 : Int), .int .i64 c5, .string b5] (0, 0) _ rfl (set_five HR3.out) Tryz.underlying87 rfl (by kernel_rfl)) rfl ⟨rfl, ?_⟩
        exact five_keep2 HP3.out HS3.out HFl.out HO3.out
    · have HSH := hide (sholds_any db F d id (w.alloc zshB) (HD.out.below HB.out) hi0 hi2)
      rw [decide_eq_false hfit] at HSH
      have HLV : Hid (loadR d id = (d, zSh, 1)) := by show loadR d id = _; unfold loadR; rw [if_neg (fun h => hfit h.2.2)]
      have cE : (w.alloc (.cells #[.int .i64 0, .int .i64 0, .int .u64 0, .int .i64 0, .string ⟨#[]⟩] 87)).cell? ⟨0, 0, none⟩ = some (.iface 360 (.pointer (some (A 0)))) := (HE.out.up HB.out).errs.arg
      have hr3 := HR0.out
      unfold zshB at hr3
      have z0 : (w.alloc (.cells #[.int .i64 0, .int .i64 0, .int .u64 0, .int .i64 0, .string ⟨#[]⟩] 87)).cell? ⟨w.heap.size, 0, none⟩ = some (.int .i64 0) := by rw [cell_of_row _ _ _ _ _ _ hr3]; rfl
      have z1 : (w.alloc (.cells #[.int .i64 0, .int .i64 0, .int .u64 0, .int .i64 0, .string ⟨#[]⟩] 87)).cell? ⟨w.heap.size, 1, none⟩ = some (.int .i64 0) := by rw [cell_of_row _ _ _ _ _ _ hr3]; rfl
      have z2 : (w.alloc (.cells #[.int .i64 0, .int .i64 0, .int .u64 0, .int .i64 0, .string ⟨#[]⟩] 87)).cell? ⟨w.heap.size, 2, none⟩ = some (.int .u64 0) := by rw [cell_of_row _ _ _ _ _ _ hr3]; rfl
      have z3 : (w.alloc (.cells #[.int .i64 0, .int .i64 0, .int .u64 0, .int .i64 0, .string ⟨#[]⟩] 87)).cell? ⟨w.heap.size, 3, none⟩ = some (.int .i64 0) := by rw [cell_of_row _ _ _ _ _ _ hr3]; rfl
      have z4 : (w.alloc (.cells #[.int .i64 0, .int .i64 0, .int .u64 0, .int .i64 0, .string ⟨#[]⟩] 87)).cell? ⟨w.heap.size, 4, none⟩ = some (.string ⟨#[]⟩) := by rw [cell_of_row _ _ _ _ _ _ hr3]; rfl
      have y0 : (w.alloc (.cells #[.int .i64 0, .int .i64 0, .int .u64 0, .int .i64 0, .string ⟨#[]⟩] 87)).frozen? ⟨w.heap.size, 0, none⟩ = false := frozen_of_row _ _ _ _ _ hr3
      have y1 : (w.alloc (.cells #[.int .i64 0, .int .i64 0, .int .u64 0, .int .i64 0, .string ⟨#[]⟩] 87)).frozen? ⟨w.heap.size, 1, none⟩ = false := frozen_of_row _ _ _ _ _ hr3
      have y2 : (w.alloc (.cells #[.int .i64 0, .int .i64 0, .int .u64 0, .int .i64 0, .string ⟨#[]⟩] 87)).frozen? ⟨w.heap.size, 2, none⟩ = false := frozen_of_row _ _ _ _ _ hr3
      have y3 : (w.alloc (.cells #[.int .i64 0, .int .i64 0, .int .u64 0, .int .i64 0, .string ⟨#[]⟩] 87)).frozen? ⟨w.heap.size, 3, none⟩ = false := frozen_of_row _ _ _ _ _ hr3
      have y4 : (w.alloc (.cells #[.int .i64 0, .int .i64 0, .int .u64 0, .int .i64 0, .string ⟨#[]⟩] 87)).frozen? ⟨w.heap.size, 4, none⟩ = false := frozen_of_row _ _ _ _ _ hr3
      clear hr3
      clear hfit
      go_enter Tryz.func113, Tryz.ntmps113
      go_wp2_with fail
      refine (HIT.out _).mono ?_
      rintro e W0' ⟨rfl, rfl⟩
      go_wp2_with fail
      refine HSH.out.mono ?_
      rintro e W0' ⟨rfl, rfl⟩
      unfold zshB
      go_wp2_with fail
      go_region
      all_goals
        go_wp2_with fail
        (try simp only [Exit.inBlock, Exit.then])
        rw [HLV.out]
        refine bodyPost_ret (results_row_tmp rfl _ _ w.heap.size 87 #[.int .i64 0, .int .i64 0, .int .u64 0, .int .i64 0, .string ⟨#[]⟩] (0, 0) _ rfl HR0.out Tryz.underlying87 rfl (by kernel_rfl)) rfl ⟨rfl, ?_⟩
        exact ⟨HD.out.below (V.below_drewN HB.out 1), V.Step.of_below (V.below_drewN HB.out 1), V.Step.of_below (V.below_drewN HB.out 1)⟩
  · have HIT : Hid (∀ w, Calls Tryz.prog 150 #[.int .i64 id] w fun e w' => e = .returned (.bool false) ∧ w = w') := fun w => by
      have h := HISI.out w
      rw [decide_eq_false hid] at h
      exact h
    have HLV : Hid (loadR d id = (d, zSh, 1)) := by show loadR d id = _; unfold loadR; rw [if_neg (fun h => hid ⟨h.1, h.2.1⟩)]
    have cE : (w.alloc (.cells #[.int .i64 0, .int .i64 0, .int .u64 0, .int .i64 0, .string ⟨#[]⟩] 87)).cell? ⟨0, 0, none⟩ = some (.iface 360 (.pointer (some (A 0)))) := (HE.out.up HB.out).errs.arg
    have hr3 := HR0.out
    unfold zshB at hr3
    have z0 : (w.alloc (.cells #[.int .i64 0, .int .i64 0, .int .u64 0, .int .i64 0, .string ⟨#[]⟩] 87)).cell? ⟨w.heap.size, 0, none⟩ = some (.int .i64 0) := by rw [cell_of_row _ _ _ _ _ _ hr3]; rfl
    have z1 : (w.alloc (.cells #[.int .i64 0, .int .i64 0, .int .u64 0, .int .i64 0, .string ⟨#[]⟩] 87)).cell? ⟨w.heap.size, 1, none⟩ = some (.int .i64 0) := by rw [cell_of_row _ _ _ _ _ _ hr3]; rfl
    have z2 : (w.alloc (.cells #[.int .i64 0, .int .i64 0, .int .u64 0, .int .i64 0, .string ⟨#[]⟩] 87)).cell? ⟨w.heap.size, 2, none⟩ = some (.int .u64 0) := by rw [cell_of_row _ _ _ _ _ _ hr3]; rfl
    have z3 : (w.alloc (.cells #[.int .i64 0, .int .i64 0, .int .u64 0, .int .i64 0, .string ⟨#[]⟩] 87)).cell? ⟨w.heap.size, 3, none⟩ = some (.int .i64 0) := by rw [cell_of_row _ _ _ _ _ _ hr3]; rfl
    have z4 : (w.alloc (.cells #[.int .i64 0, .int .i64 0, .int .u64 0, .int .i64 0, .string ⟨#[]⟩] 87)).cell? ⟨w.heap.size, 4, none⟩ = some (.string ⟨#[]⟩) := by rw [cell_of_row _ _ _ _ _ _ hr3]; rfl
    have y0 : (w.alloc (.cells #[.int .i64 0, .int .i64 0, .int .u64 0, .int .i64 0, .string ⟨#[]⟩] 87)).frozen? ⟨w.heap.size, 0, none⟩ = false := frozen_of_row _ _ _ _ _ hr3
    have y1 : (w.alloc (.cells #[.int .i64 0, .int .i64 0, .int .u64 0, .int .i64 0, .string ⟨#[]⟩] 87)).frozen? ⟨w.heap.size, 1, none⟩ = false := frozen_of_row _ _ _ _ _ hr3
    have y2 : (w.alloc (.cells #[.int .i64 0, .int .i64 0, .int .u64 0, .int .i64 0, .string ⟨#[]⟩] 87)).frozen? ⟨w.heap.size, 2, none⟩ = false := frozen_of_row _ _ _ _ _ hr3
    have y3 : (w.alloc (.cells #[.int .i64 0, .int .i64 0, .int .u64 0, .int .i64 0, .string ⟨#[]⟩] 87)).frozen? ⟨w.heap.size, 3, none⟩ = false := frozen_of_row _ _ _ _ _ hr3
    have y4 : (w.alloc (.cells #[.int .i64 0, .int .i64 0, .int .u64 0, .int .i64 0, .string ⟨#[]⟩] 87)).frozen? ⟨w.heap.size, 4, none⟩ = false := frozen_of_row _ _ _ _ _ hr3
    clear hr3
    clear hid HISI
    go_enter Tryz.func113, Tryz.ntmps113
    go_wp2_with fail
    refine (HIT.out _).mono ?_
    rintro e W0' ⟨rfl, rfl⟩
    go_wp2_with fail
    go_region
    all_goals
      go_wp2_with fail
      (try simp only [Exit.inBlock, Exit.then])
      rw [HLV.out]
      refine bodyPost_ret (results_row_tmp rfl _ _ w.heap.size 87 #[.int .i64 0, .int .i64 0, .int .u64 0, .int .i64 0, .string ⟨#[]⟩] (0, 0) _ rfl HR0.out Tryz.underlying87 rfl (by kernel_rfl)) rfl ⟨rfl, ?_⟩
      exact ⟨HD.out.below (V.below_drewN HB.out 1), V.Step.of_below (V.below_drewN HB.out 1), V.Step.of_below (V.below_drewN HB.out 1)⟩

end Go.Proofs.YtnaedmmfiiebaaaGreatDoor.S

namespace Go.Proofs.YtnaedmmfiiebaaaGreatDoor.T
open Go.RowKit

/-! Reading pages of a device that may hold anything. -/
/-- The device, but for what it counts of its reads. -/
def Nr (d d' : S.V.Dev) : Prop := ∃ n, d' = { d with nr := n }
theorem Nr.refl (d : S.V.Dev) : Nr d d := ⟨d.nr, rfl⟩
theorem Nr.trans {a b c : S.V.Dev} (h : Nr a b) (k : Nr b c) : Nr a c := by
  obtain ⟨n, rfl⟩ := h
  obtain ⟨m, rfl⟩ := k
  exact ⟨m, rfl⟩
/-- What a read turns: the device's own block alone. -/
structure Mv (db : Nat) (F : Nat → Prop) (w w' : World) : Prop where
  step : S.V.Step F F w w'
  one : One db w w'
theorem Mv.refl (db : Nat) (F : Nat → Prop) (w : World) : Mv db F w w := ⟨S.V.Step.refl _ _, S.V.Step.refl _ _⟩
theorem Mv.trans {db : Nat} {F : Nat → Prop} {a b c : World} (h : Mv db F a b) (k : Mv db F b c) : Mv db F a c := ⟨h.step.trans k.step, h.one.trans k.one⟩
theorem Mv.of {db : Nat} {F : Nat → Prop} {a b : World} (h : Below a.heap.size a b) : Mv db F a b := ⟨S.V.Step.of_below h, S.V.Step.of_below h⟩
theorem Mv.size {db : Nat} {F : Nat → Prop} {a b : World} (h : Mv db F a b) : a.heap.size ≤ b.heap.size := h.step.size
/-- What the tree's calls stand on. -/
structure Dv (base : Nat) (A : Nat → Addr) (db : Nat) (F : Nat → Prop) (d : S.V.Dev) (w : World) : Prop where
  dev : ∃ d', Nr d d' ∧ S.V.DevAt w db F d'
  env : S.Env base A w
  errs : ErrsG 13 gAll A w
  up : ∀ k, F k → base ≤ k
  alive : d.dead = false
  lo : ∀ i, i < 13 → gAll i < base ∧ (A i).block < base
theorem Dv.below {base : Nat} {A : Nat → Addr} {db : Nat} {F : Nat → Prop} {d : S.V.Dev} {w w' : World} (h : Dv base A db F d w) (hb : Below w.heap.size w w') : Dv base A db F d w' := by
  obtain ⟨d', h1, h2⟩ := h.dev
  exact ⟨⟨d', h1, h2.below hb⟩, h.env.up hb, h.errs.keep hb, h.up, h.alive, h.lo⟩
theorem Dv.errC {base : Nat} {A : Nat → Addr} {db : Nat} {F : Nat → Prop} {d : S.V.Dev} {w : World} (h : Dv base A db F d w) : ErrC A w := ⟨h.errs.weak (by decide), (h.errs.1 11 (by decide)).1⟩
theorem Dv.errK {base : Nat} {A : Nat → Addr} {db : Nat} {F : Nat → Prop} {d : S.V.Dev} {w : World} (h : Dv base A db F d w) : B.ErrK A w := B.errK_all h.errs
theorem Dv.g {base : Nat} {A : Nat → Addr} {db : Nat} {F : Nat → Prop} {d : S.V.Dev} {w : World} (h : Dv base A db F d w) (i : Nat) (hi : i < 13) : w.cell? ⟨gAll i, 0, none⟩ = some (.iface 360 (.pointer (some (A i)))) := (h.errs.1 i hi).1
theorem SNR.mv {base : Nat} {A : Nat → Addr} {db : Nat} {F : Nat → Prop} {d : S.V.Dev} {w w' : World} (hv : Dv base A db F d w) (h : Mv db F w w') {b : Nat} {n : SN} {pv lv cv : Value} (hs : SNR w b n pv lv cv) : SNR w' b n pv lv cv := by
  obtain ⟨d', h1, h2⟩ := hv.dev
  exact hs.one h.one h2
/-- A row that is not the device's goes through a read. -/
theorem row_mv {db : Nat} {F : Nat → Prop} {w w' : World} (h : Mv db F w w') {b : Nat} {cs : Array Value} {t : TypeId} (hs : B.RowAt w b cs t) (ht : b ≠ db) : B.RowAt w' b cs t := (h.one.block b hs.lt ht).trans hs

theorem read_ok (d : S.V.Dev) (id : Int) (hdd : d.dead = false) (h0 : 0 ≤ id) (hfit : (id + 1) * 8 ≤ d.size) : d.read (id * 8) 8 = (S.loadedD d, S.V.readB d (id * 8) 8, 0) := by
  have hf : d.fits (id * 8) 8 = true := by
    unfold S.V.Dev.fits
    exact decide_eq_true ⟨by omega, by omega, by omega⟩
  obtain ⟨sz, dur, pend, arms, dead, nr, nw, ns⟩ := d
  simp only at hdd
  subst hdd
  unfold S.V.Dev.read
  rw [hf]
  simp only [Bool.false_eq_true, if_false, Bool.true_eq_false]
  rw [if_neg (by decide)]
  rfl
theorem sheet_one {d : S.V.Dev} {id : Int} {s s' : S.Sh} (h : SheetAt d id s) (k : SheetAt d id s') : s = s' := by
  have e1 := S.parse_page s h.1 h.2.1
  have e2 := S.parse_page s' k.1 k.2.1
  have e3 : S.page s = S.page s' := by rw [← h.2.2.2.2, ← k.2.2.2.2, h.2.2.1, k.2.2.1]
  rw [← e1, ← e2, e3]
theorem holds_one {s : S.Sh} {p p' : PD} (h : HoldsD s p) (k : HoldsD s p') : p = p' := by
  rcases h with ⟨h1, _, h3⟩ | ⟨h1, _, h3⟩ <;> rcases k with ⟨k1, _, k3⟩ | ⟨k1, _, k3⟩
  · rw [h3, k3]
  · omega
  · omega
  · rw [h3, k3]
theorem pgof_eq {d : S.V.Dev} {id : Int} {s : S.Sh} {p : PD} (h : SheetAt d id s) (k : HoldsD s p) : PGof d id = some p := by
  have he : ∃ p s, SheetAt d id s ∧ HoldsD s p := ⟨p, s, h, k⟩
  cases hp : PGof d id with
  | none =>
    unfold PGof at hp
    rw [dif_pos he] at hp
    cases hp
  | some q =>
    obtain ⟨s', h', k'⟩ := pgof_some hp
    rw [sheet_one h' h] at k'
    rw [holds_one k k']
theorem pgof_no {d : S.V.Dev} {id : Int} (h : ∀ s p, SheetAt d id s → ¬ HoldsD s p) : PGof d id = none := by
  cases hp : PGof d id with
  | none => rfl
  | some q =>
    obtain ⟨s', h', k'⟩ := pgof_some hp
    exact absurd k' (h s' q h')
/-- What Load does on a device that is not dead. -/
theorem loadR_cases (d : S.V.Dev) (id : Int) (hdd : d.dead = false) : Nr d (S.loadR d id).1 ∧ (((S.loadR d id).2.2 = 0 ∧ SheetAt d id (S.loadR d id).2.1) ∨ (((S.loadR d id).2.2 = 1 ∨ (S.loadR d id).2.2 = 2) ∧ ∀ s, ¬ SheetAt d id s)) := by
  unfold S.loadR
  split
  · rename_i h
    rw [read_ok d id hdd (by omega) h.2.2]
    simp only [if_true]
    refine ⟨⟨_, rfl⟩, ?_⟩
    split
    · rename_i hok
      refine .inl ⟨rfl, hok.2.2.1, S.nums3 _, hok.2.1, ?_, ?_⟩
      · have := hok.2.1
        show ((S.parse _).id + 1) * 8 ≤ d.size
        rw [this]; exact h.2.2
      · have := hok.2.1
        show S.V.readB d ((S.parse _).id * 8) 8 = S.page (S.parse _)
        rw [this, hok.2.2.2]
    · rename_i hno
      refine .inr ⟨.inr rfl, fun s hs => hno ?_⟩
      have e := hs.2.2.2.2
      rw [hs.2.2.1] at e
      rw [e]
      exact (S.okRead_page s hs.1 hs.2.1 id).2 hs.2.2.1.symm
  · rename_i h
    refine ⟨Nr.refl d, .inr ⟨.inl rfl, fun s hs => h ?_⟩⟩
    have h1 := hs.1.2.2.1
    have h2 := hs.2.2.2.1
    rw [hs.2.2.1] at h1 h2
    exact ⟨h1.1, h1.2, h2⟩
/-- The node of a page. -/
def _root_.Go.Proofs.YtnaedmmfiiebaaaGreatDoor.T.PD.sn : PD → SN
  | .leaf l => ⟨l, 0, [], []⟩
  | .br f lk => ⟨[], f, lk, pgs f lk⟩

set_option maxHeartbeats 1000000 in
theorem loadl_err (A : Nat → Addr) (kd id tx c : Value) (cn : Int) (body : ByteArray) (hc : c = .int .i64 cn) (w : World) (hno : ¬ (0 ≤ cn ∧ DecOk cn.toNat body.data.toList)) (hE : ErrsG 13 gAll A w) :
    Calls Tryz.prog 174 #[.agg #[kd, id, tx, c, .string body]] w fun e w' => e = .returned (.tuple #[.pointer none, .iface 360 (.pointer (some (A 8)))]) ∧ Below w.heap.size w w' := by
  subst hc
  have q0 := below_new w (.cells #[kd, id, tx, .int .i64 cn, .string body] 87)
  have x0 := B.RowAt.new w #[kd, id, tx, .int .i64 cn, .string body] 87
  have k3 : (w.alloc (.cells #[kd, id, tx, .int .i64 cn, .string body] 87)).cell? ⟨w.heap.size, 3, none⟩ = some (.int .i64 cn) := x0.cell 3 (by simp)
  have k4 : (w.alloc (.cells #[kd, id, tx, .int .i64 cn, .string body] 87)).cell? ⟨w.heap.size, 4, none⟩ = some (.string body) := x0.cell 4 (by simp)
  have HDEC : Hid (Calls Tryz.prog 114 #[.int .i64 cn, .string body] (w.alloc (.cells #[kd, id, tx, .int .i64 cn, .string body] 87)) fun e w' => e = .returned (.tuple #[.slice none 0 0, .iface 360 (.pointer (some (A 1)))]) ∧ Below w.heap.size w w' ∧ w'.cell? ⟨8, 0, none⟩ = some (.iface 360 (.pointer (some (A 8))))) := by
    refine (ldec_any A cn body _ ⟨(hE.keep q0).weak (by decide), ((hE.keep q0).1 11 (by decide)).1⟩).mono fun e w' ⟨hv, hb⟩ => ?_
    rcases hv with ⟨h1, h2, _⟩ | ⟨_, he⟩
    · exact absurd ⟨h1, h2⟩ hno
    · exact ⟨he, Below.next q0 hb, (((hE.keep q0).keep hb).1 8 (by decide)).1⟩
  clear q0 x0 hno hE
  go_enter Tryz.func174, Tryz.ntmps174
  go_wp2_with fail
  refine HDEC.out.mono ?_
  rintro e w1 ⟨rfl, hb1, hg1⟩
  have HB := hide hb1
  clear hb1 HDEC k3 k4
  go_wp2_with fail
  go_quiet (fail)
  go_wp2
  go_ret2
  exact ⟨rfl, below_drewN' HB.out _⟩
set_option maxHeartbeats 1000000 in
theorem loadb_err (A : Nat → Addr) (kd id tx c : Value) (cn : Int) (body : ByteArray) (hc : c = .int .i64 cn) (w : World) (hno : ¬ (0 ≤ cn ∧ B.DecB cn.toNat body.data.toList)) (hE : ErrsG 13 gAll A w) :
    Calls Tryz.prog 175 #[.agg #[kd, id, tx, c, .string body]] w fun e w' => e = .returned (.tuple #[.pointer none, .iface 360 (.pointer (some (A 8)))]) ∧ Below w.heap.size w w' := by
  subst hc
  have q0 := below_new w (.cells #[kd, id, tx, .int .i64 cn, .string body] 87)
  have x0 := B.RowAt.new w #[kd, id, tx, .int .i64 cn, .string body] 87
  have k3 : (w.alloc (.cells #[kd, id, tx, .int .i64 cn, .string body] 87)).cell? ⟨w.heap.size, 3, none⟩ = some (.int .i64 cn) := x0.cell 3 (by simp)
  have k4 : (w.alloc (.cells #[kd, id, tx, .int .i64 cn, .string body] 87)).cell? ⟨w.heap.size, 4, none⟩ = some (.string body) := x0.cell 4 (by simp)
  have HDEC : Hid (Calls Tryz.prog 116 #[.int .i64 cn, .string body] (w.alloc (.cells #[kd, id, tx, .int .i64 cn, .string body] 87)) fun e w' => e = .returned (.tuple #[.agg #[.int .i64 0, .slice none 0 0], .iface 360 (.pointer (some (A 1)))]) ∧ Below w.heap.size w w' ∧ w'.cell? ⟨8, 0, none⟩ = some (.iface 360 (.pointer (some (A 8))))) := by
    refine (B.bdec_any A cn body _ (B.errK_all (hE.keep q0))).mono fun e w' ⟨hv, hb⟩ => ?_
    rcases hv with ⟨h1, h2, _⟩ | ⟨_, he⟩
    · exact absurd ⟨h1, h2⟩ hno
    · exact ⟨he, Below.next q0 hb, (((hE.keep q0).keep hb).1 8 (by decide)).1⟩
  clear q0 x0 hno hE
  go_enter Tryz.func175, Tryz.ntmps175
  go_wp2_with fail
  refine HDEC.out.mono ?_
  rintro e w1 ⟨rfl, hb1, hg1⟩
  have q2 := below_new w1 (.cells #[.int .i64 0, .slice none 0 0] 150)
  have g2 : (w1.alloc (.cells #[.int .i64 0, .slice none 0 0] 150)).cell? ⟨8, 0, none⟩ = some (.iface 360 (.pointer (some (A 8)))) := (q2.cell (p := ⟨8, 0, none⟩) (World.block_lt_of_cell? w1 _ hg1)).trans hg1
  have HB := hide (Below.next hb1 q2)
  clear hb1 HDEC k3 k4 q2
  go_wp2_with fail
  go_quiet (fail)
  go_wp2
  go_ret2
  exact ⟨rfl, below_drewN' HB.out _⟩

end Go.Proofs.YtnaedmmfiiebaaaGreatDoor.T
