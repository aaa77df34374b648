import Derived.Test.YtmifadjgmjnkgaaGreatDoorLLoad
import Derived.Test.YtmifadjgmjnkgaaGreatDoorA8
namespace Go.Proofs.YtmifadjgmjnkgaaGreatDoor
open Go.RowKit

def zSh : Sh := ⟨0, 0, 0, 0, ⟨#[]⟩⟩
/-- What Load does to a device, its sheet and its refusal's number. -/
def loadR (d : V.Dev) (id : Int) : V.Dev × Sh × Nat :=
  if 2 ≤ id ∧ id < 1048576 ∧ (id + 1) * 8 ≤ d.size then
    if (d.read (id * 8) 8).2.2 = 0 then ((d.read (id * 8) 8).1, if okRead (d.read (id * 8) 8).2.1 id then (parse (d.read (id * 8) 8).2.1, 0) else (zSh, 2))
    else ((d.read (id * 8) 8).1, zSh, (d.read (id * 8) 8).2.2)
  else (d, zSh, 1)
def zshB : Obj := .cells #[.int .i64 0, .int .i64 0, .int .u64 0, .int .i64 0, .string ⟨#[]⟩] 31
theorem read_code {d : V.Dev} {s n : Int} (h0 : 0 ≤ s) (h1 : 0 ≤ n) (h2 : s ≤ d.size - n) (h3 : n ≤ 1024) : (d.read s n).2.2 = if d.dead then 8 else 0 := by
  unfold V.Dev.read
  have hf : d.fits s n = true := by unfold V.Dev.fits; exact decide_eq_true ⟨h0, h1, h2⟩
  cases d.dead with
  | true => rfl
  | false =>
    rw [hf]
    simp only [Bool.false_eq_true, if_false, Bool.true_eq_false]
    rw [if_neg (by omega)]
theorem readV_cells (a : Addr) (l : List UInt8) (id : Int) : readV a l id = #[.agg (if okRead l id then parse l else zSh).cells.toArray, if okRead l id then .nilIface else .iface 158 (.pointer (some a))] := by
  unfold readV
  split <;> rfl

/-- The zero sheet's block, where nothing but the device has turned. -/
theorem zrow_step {w w2 : World} {F F' : Nat → Prop} (hs : V.Step F F' (w.alloc zshB) w2) (hF : ∀ k, F k → k < w.heap.size) : w2.heap[w.heap.size]? = some (.cells #[.int .i64 0, .int .i64 0, .int .u64 0, .int .i64 0, .string ⟨#[]⟩] 31 (0, 0)) := by
  rw [hs.block w.heap.size (by simp) (fun hf => by have := hF _ hf; omega)]
  exact heap_alloc_new w _
theorem five_keep2 {w w3 : World} {b : Nat} {F : Nat → Prop} {d : V.Dev} {u0 u1 u2 u3 u4 : Value} (h : V.DevAt w3 b F d) (hs : V.Step F F w w3) (hF : ∀ k, F k → k < w.heap.size) :
    V.DevAt (((((w3.setCell ⟨w.heap.size, 0, none⟩ u0).setCell ⟨w.heap.size, 1, none⟩ u1).setCell ⟨w.heap.size, 2, none⟩ u2).setCell ⟨w.heap.size, 3, none⟩ u3).setCell ⟨w.heap.size, 4, none⟩ u4) b F d ∧
    V.Step F F w (((((w3.setCell ⟨w.heap.size, 0, none⟩ u0).setCell ⟨w.heap.size, 1, none⟩ u1).setCell ⟨w.heap.size, 2, none⟩ u2).setCell ⟨w.heap.size, 3, none⟩ u3).setCell ⟨w.heap.size, 4, none⟩ u4) := by
  have h5 := @five_step w3 w.heap.size u0 u1 u2 u3 u4
  exact ⟨h.keep h5 (fun k hk e => by have := hF k hk; omega), h5.os.trans hs.os, h5.tape.trans hs.tape, h5.output.trans hs.output, Nat.le_trans hs.size h5.size, fun q hq hn => (h5.block q (Nat.lt_of_lt_of_le hq hs.size) (by omega)).trans (hs.block q hq hn), fun q hq => hs.sub q hq⟩

set_option maxRecDepth 100000 in
set_option maxHeartbeats 2000000 in
theorem loadG_any (base : Nat) (A : Nat → Addr) (db : Nat) (F : Nat → Prop) (d : V.Dev) (id : Int) (w : World) (hd : V.DevAt w db F d) (hE : Env base A w) (hF : ∀ k, F k → base ≤ k) :
    Calls Tryz.prog 9 #[.pointer (some ⟨db, 0, none⟩), .int .i64 id] w fun e w' => e = .returned (.tuple #[.agg (loadR d id).2.1.cells.toArray, V.errV A (loadR d id).2.2]) ∧ V.DevAt w' db F (loadR d id).1 ∧ V.Step F F w w' := by
  have HE := hide hE
  have HD := hide hd
  have HFB := hide hF
  have HB := hide (below_new w zshB)
  have HFl := hide hd.lt
  have HZ0 : Hid (∀ w3, V.Step F F w w3 → w3.heap[w.heap.size]? = some (.cells #[.int .i64 0, .int .i64 0, .int .u64 0, .int .i64 0, .string ⟨#[]⟩] 31 (0, 0)) → True) := fun _ _ _ => trivial
  have HR0 : Hid ((w.alloc zshB).heap[w.heap.size]? = some (.cells #[.int .i64 0, .int .i64 0, .int .u64 0, .int .i64 0, .string ⟨#[]⟩] 31 (0, 0))) := heap_alloc_new w _
  have HISI := hide (isID_any id)
  clear hE hd hF HZ0
  by_cases hid : 2 ≤ id ∧ id < 1048576
  · obtain ⟨hi1, hi2⟩ := hid
    have hi0 : 0 ≤ id := by omega
    have HIT : Hid (∀ w, Calls Tryz.prog 36 #[.int .i64 id] w fun e w' => e = .returned (.bool true) ∧ w = w') := fun w => by
      have h := HISI.out w
      rw [decide_eq_true ⟨hi1, hi2⟩] at h
      exact h
    clear HISI
    by_cases hfit : (id + 1) * 8 ≤ d.size
    · have HDF := hide (decide_eq_true hfit)
      have hcode := read_code (d := d) (s := id * 8) (n := 8) (by omega) (by omega) (by omega) (by omega)
      have HLR : Hid (loadR d id = if (d.read (id * 8) 8).2.2 = 0 then ((d.read (id * 8) 8).1, if okRead (d.read (id * 8) 8).2.1 id then (parse (d.read (id * 8) 8).2.1, 0) else (zSh, 2)) else ((d.read (id * 8) 8).1, zSh, (d.read (id * 8) 8).2.2)) := by
        show loadR d id = _
        unfold loadR
        rw [if_pos ⟨hi1, hi2, hfit⟩]
      have HDV := hide (HD.out.below HB.out)
      have HEV := hide (HE.out.up HB.out)
      have HRD := hide (V.read_any base A db F d (w.alloc zshB) HDV.out HEV.out.errs (id * 8) 8 (by decide))
      have HSH := hide (sholds_any db F d id (w.alloc zshB) HDV.out hi0 hi2)
      rw [HDF.out] at HSH
      have hcd : (d.read (id * 8) 8).2.2 = 8 ∨ (d.read (id * 8) 8).2.2 = 0 := by rw [hcode]; cases d.dead <;> simp
      clear hcode HDF hfit
      generalize d.read (id * 8) 8 = R at *
      obtain ⟨Rd, Rl, Rc⟩ := R
      simp only at hcd HLR
      obtain ⟨ev, hev⟩ : ∃ ev, ev = V.errV A Rc := ⟨_, rfl⟩
      have HRX : Hid (Calls Tryz.prog 37 #[.pointer (some ⟨db, 0, none⟩), .int .i64 (id * 8), .int .i64 8] (w.alloc zshB) fun e w' => ∃ va vc, e = .returned (.tuple #[.slice va Rl.length vc, ev]) ∧ w'.ownsRow (w.alloc zshB).heap.size 5 1 (.slice va Rl.length vc) Rl.length (u8s Rl) ∧ V.DevAt w' db F Rd ∧ V.Step F F (w.alloc zshB) w') := by
        refine HRD.out.mono ?_
        rintro e w2 ⟨v, P⟩
        obtain ⟨va, vc, rfl, -⟩ := V.owns_form P.row
        exact ⟨va, vc, by rw [hev]; exact P.ret, P.row, P.dev, P.step⟩
      have HEVE := hide hev
      clear HRD hev
      go_enter Tryz.func9, Tryz.ntmps9
      go_wp2_with fail
      refine (HIT.out _).mono ?_
      rintro e W0' ⟨rfl, rfl⟩
      go_wp2_with fail
      refine HSH.out.mono ?_
      rintro e W0' ⟨rfl, rfl⟩
      go_wp2_with fail
      refine (first_any id _ hi0 (by omega)).mono ?_
      rintro e W0' ⟨rfl, rfl⟩
      go_wp2_with fail
      refine HRX.out.mono ?_
      rintro e w2 ⟨va, vc, rfl, hrow, hdev, hstp⟩
      have HR2 : Hid (w2.heap[w.heap.size]? = some (.cells #[.int .i64 0, .int .i64 0, .int .u64 0, .int .i64 0, .string ⟨#[]⟩] 31 (0, 0))) := zrow_step hstp HFl.out
      have HRB := hide (rdb_of_owns hrow)
      have HP2 := hide hdev
      have HS2 : Hid (V.Step F F w w2) := (V.Step.of_below HB.out).trans hstp
      have HE2 := hide (HEV.out.step hstp HFB.out)
      clear hrow hdev hstp HRX HSH
      rcases hcd with rfl | rfl
      · have hr3 := HR2.out
        have z0 : w2.cell? ⟨w.heap.size, 0, none⟩ = some (.int .i64 0) := by rw [cell_of_row _ _ _ _ _ _ hr3]; rfl
        have z1 : w2.cell? ⟨w.heap.size, 1, none⟩ = some (.int .i64 0) := by rw [cell_of_row _ _ _ _ _ _ hr3]; rfl
        have z2 : w2.cell? ⟨w.heap.size, 2, none⟩ = some (.int .u64 0) := by rw [cell_of_row _ _ _ _ _ _ hr3]; rfl
        have z3 : w2.cell? ⟨w.heap.size, 3, none⟩ = some (.int .i64 0) := by rw [cell_of_row _ _ _ _ _ _ hr3]; rfl
        have z4 : w2.cell? ⟨w.heap.size, 4, none⟩ = some (.string ⟨#[]⟩) := by rw [cell_of_row _ _ _ _ _ _ hr3]; rfl
        have y0 : w2.frozen? ⟨w.heap.size, 0, none⟩ = false := frozen_of_row _ _ _ _ _ hr3
        have y1 : w2.frozen? ⟨w.heap.size, 1, none⟩ = false := frozen_of_row _ _ _ _ _ hr3
        have y2 : w2.frozen? ⟨w.heap.size, 2, none⟩ = false := frozen_of_row _ _ _ _ _ hr3
        have y3 : w2.frozen? ⟨w.heap.size, 3, none⟩ = false := frozen_of_row _ _ _ _ _ hr3
        have y4 : w2.frozen? ⟨w.heap.size, 4, none⟩ = false := frozen_of_row _ _ _ _ _ hr3
        have HLV : Hid (loadR d id = (Rd, zSh, 8)) := by show loadR d id = _; rw [HLR.out]; rfl
        obtain rfl : ev = .iface 158 (.pointer (some (A 7))) := HEVE.out
        clear HLR hr3
        go_wp2_with fail
        (try simp only [Exit.inBlock, Exit.then])
        rw [HLV.out]
        refine bodyPost_ret (results_row_tmp rfl _ _ w.heap.size 31 #[.int .i64 0, .int .i64 0, .int .u64 0, .int .i64 0, .string ⟨#[]⟩] (0, 0) _ rfl (set_five HR2.out) Tryz.underlying31 rfl (by kernel_rfl)) rfl ⟨rfl, ?_⟩
        exact five_keep2 HP2.out HS2.out HFl.out
      · obtain rfl : ev = .nilIface := HEVE.out
        have HLV : Hid (loadR d id = (Rd, if okRead Rl id then (parse Rl, 0) else (zSh, 2))) := by show loadR d id = _; rw [HLR.out]; rfl
        have HRA := hide (read_any (A 1) _ Rl id _ HRB.out HE2.out.lay HE2.out.tab HE2.out.text)
        rw [readV_cells] at HRA
        clear HLR
        obtain ⟨sh, hsh⟩ : ∃ sh, sh = if okRead Rl id then parse Rl else zSh := ⟨_, rfl⟩
        obtain ⟨er, her⟩ : ∃ er : Value, er = if okRead Rl id then .nilIface else .iface 158 (.pointer (some (A 1))) := ⟨_, rfl⟩
        rw [← hsh, ← her] at HRA
        have HLW : Hid ((loadR d id).2.1 = sh ∧ V.errV A (loadR d id).2.2 = er ∧ (loadR d id).1 = Rd) := by
          show _ ∧ _ ∧ _
          rw [HLV.out, hsh, her]
          split <;> exact ⟨rfl, rfl, rfl⟩
        clear hsh her HLV
        obtain ⟨k5, i5, t5, c5, b5⟩ := sh
        go_wp2_with fail
        refine HRA.out.mono ?_
        rintro e w3 ⟨rfl, hb3⟩
        have hr3 : w3.heap[w.heap.size]? = some (.cells #[.int .i64 0, .int .i64 0, .int .u64 0, .int .i64 0, .string ⟨#[]⟩] 31 (0, 0)) := (hb3.block _ ((Array.getElem?_eq_some_iff.1 HR2.out).1)).trans HR2.out
        have HR3 := hide hr3
        have HP3 := hide (HP2.out.below hb3)
        have HS3 : Hid (V.Step F F w w3) := HS2.out.trans (V.Step.of_below hb3)
        have z0 : w3.cell? ⟨w.heap.size, 0, none⟩ = some (.int .i64 0) := by rw [cell_of_row _ _ _ _ _ _ hr3]; rfl
        have z1 : w3.cell? ⟨w.heap.size, 1, none⟩ = some (.int .i64 0) := by rw [cell_of_row _ _ _ _ _ _ hr3]; rfl
        have z2 : w3.cell? ⟨w.heap.size, 2, none⟩ = some (.int .u64 0) := by rw [cell_of_row _ _ _ _ _ _ hr3]; rfl
        have z3 : w3.cell? ⟨w.heap.size, 3, none⟩ = some (.int .i64 0) := by rw [cell_of_row _ _ _ _ _ _ hr3]; rfl
        have z4 : w3.cell? ⟨w.heap.size, 4, none⟩ = some (.string ⟨#[]⟩) := by rw [cell_of_row _ _ _ _ _ _ hr3]; rfl
        have y0 : w3.frozen? ⟨w.heap.size, 0, none⟩ = false := frozen_of_row _ _ _ _ _ hr3
        have y1 : w3.frozen? ⟨w.heap.size, 1, none⟩ = false := frozen_of_row _ _ _ _ _ hr3
        have y2 : w3.frozen? ⟨w.heap.size, 2, none⟩ = false := frozen_of_row _ _ _ _ _ hr3
        have y3 : w3.frozen? ⟨w.heap.size, 3, none⟩ = false := frozen_of_row _ _ _ _ _ hr3
        have y4 : w3.frozen? ⟨w.heap.size, 4, none⟩ = false := frozen_of_row _ _ _ _ _ hr3
        have HSC : Hid ((⟨k5, i5, t5, c5, b5⟩ : Sh).cells.toArray = #[.int .i64 k5, .int .i64 i5, .int .u64 (t5 : Int), .int .i64 c5, .string b5]) := rfl
        rw [HSC.out]
        clear hr3 hb3
        go_wp2_with fail
        (try simp only [Exit.inBlock, Exit.then])
        rw [HLW.out.1, HLW.out.2.1, HLW.out.2.2]
        refine bodyPost_ret (results_row_tmp rfl _ _ w.heap.size 31 #[.int .i64 k5, .int .i64 i5, .int .u64 (t5 : Int), .int .i64 c5, .string b5] (0, 0) _ rfl (set_five HR3.out) Tryz.underlying31 rfl (by kernel_rfl)) rfl ⟨rfl, ?_⟩
        exact five_keep2 HP3.out HS3.out HFl.out
    · have HSH := hide (sholds_any db F d id (w.alloc zshB) (HD.out.below HB.out) hi0 hi2)
      rw [decide_eq_false hfit] at HSH
      have HLV : Hid (loadR d id = (d, zSh, 1)) := by show loadR d id = _; unfold loadR; rw [if_neg (fun h => hfit h.2.2)]
      have cE : (w.alloc (.cells #[.int .i64 0, .int .i64 0, .int .u64 0, .int .i64 0, .string ⟨#[]⟩] 31)).cell? ⟨0, 0, none⟩ = some (.iface 158 (.pointer (some (A 0)))) := (HE.out.up HB.out).errs.arg
      have hr3 := HR0.out
      unfold zshB at hr3
      have z0 : (w.alloc (.cells #[.int .i64 0, .int .i64 0, .int .u64 0, .int .i64 0, .string ⟨#[]⟩] 31)).cell? ⟨w.heap.size, 0, none⟩ = some (.int .i64 0) := by rw [cell_of_row _ _ _ _ _ _ hr3]; rfl
      have z1 : (w.alloc (.cells #[.int .i64 0, .int .i64 0, .int .u64 0, .int .i64 0, .string ⟨#[]⟩] 31)).cell? ⟨w.heap.size, 1, none⟩ = some (.int .i64 0) := by rw [cell_of_row _ _ _ _ _ _ hr3]; rfl
      have z2 : (w.alloc (.cells #[.int .i64 0, .int .i64 0, .int .u64 0, .int .i64 0, .string ⟨#[]⟩] 31)).cell? ⟨w.heap.size, 2, none⟩ = some (.int .u64 0) := by rw [cell_of_row _ _ _ _ _ _ hr3]; rfl
      have z3 : (w.alloc (.cells #[.int .i64 0, .int .i64 0, .int .u64 0, .int .i64 0, .string ⟨#[]⟩] 31)).cell? ⟨w.heap.size, 3, none⟩ = some (.int .i64 0) := by rw [cell_of_row _ _ _ _ _ _ hr3]; rfl
      have z4 : (w.alloc (.cells #[.int .i64 0, .int .i64 0, .int .u64 0, .int .i64 0, .string ⟨#[]⟩] 31)).cell? ⟨w.heap.size, 4, none⟩ = some (.string ⟨#[]⟩) := by rw [cell_of_row _ _ _ _ _ _ hr3]; rfl
      have y0 : (w.alloc (.cells #[.int .i64 0, .int .i64 0, .int .u64 0, .int .i64 0, .string ⟨#[]⟩] 31)).frozen? ⟨w.heap.size, 0, none⟩ = false := frozen_of_row _ _ _ _ _ hr3
      have y1 : (w.alloc (.cells #[.int .i64 0, .int .i64 0, .int .u64 0, .int .i64 0, .string ⟨#[]⟩] 31)).frozen? ⟨w.heap.size, 1, none⟩ = false := frozen_of_row _ _ _ _ _ hr3
      have y2 : (w.alloc (.cells #[.int .i64 0, .int .i64 0, .int .u64 0, .int .i64 0, .string ⟨#[]⟩] 31)).frozen? ⟨w.heap.size, 2, none⟩ = false := frozen_of_row _ _ _ _ _ hr3
      have y3 : (w.alloc (.cells #[.int .i64 0, .int .i64 0, .int .u64 0, .int .i64 0, .string ⟨#[]⟩] 31)).frozen? ⟨w.heap.size, 3, none⟩ = false := frozen_of_row _ _ _ _ _ hr3
      have y4 : (w.alloc (.cells #[.int .i64 0, .int .i64 0, .int .u64 0, .int .i64 0, .string ⟨#[]⟩] 31)).frozen? ⟨w.heap.size, 4, none⟩ = false := frozen_of_row _ _ _ _ _ hr3
      clear hr3
      clear hfit
      go_enter Tryz.func9, Tryz.ntmps9
      go_wp2_with fail
      refine (HIT.out _).mono ?_
      rintro e W0' ⟨rfl, rfl⟩
      go_wp2_with fail
      refine HSH.out.mono ?_
      rintro e W0' ⟨rfl, rfl⟩
      unfold zshB
      go_wp2_with fail
      go_region
      all_goals
        go_wp2_with fail
        (try simp only [Exit.inBlock, Exit.then])
        rw [HLV.out]
        refine bodyPost_ret (results_row_tmp rfl _ _ w.heap.size 31 #[.int .i64 0, .int .i64 0, .int .u64 0, .int .i64 0, .string ⟨#[]⟩] (0, 0) _ rfl HR0.out Tryz.underlying31 rfl (by kernel_rfl)) rfl ⟨rfl, ?_⟩
        exact ⟨HD.out.below (V.below_drewN HB.out 1), V.Step.of_below (V.below_drewN HB.out 1)⟩
  · have HIT : Hid (∀ w, Calls Tryz.prog 36 #[.int .i64 id] w fun e w' => e = .returned (.bool false) ∧ w = w') := fun w => by
      have h := HISI.out w
      rw [decide_eq_false hid] at h
      exact h
    have HLV : Hid (loadR d id = (d, zSh, 1)) := by show loadR d id = _; unfold loadR; rw [if_neg (fun h => hid ⟨h.1, h.2.1⟩)]
    have cE : (w.alloc (.cells #[.int .i64 0, .int .i64 0, .int .u64 0, .int .i64 0, .string ⟨#[]⟩] 31)).cell? ⟨0, 0, none⟩ = some (.iface 158 (.pointer (some (A 0)))) := (HE.out.up HB.out).errs.arg
    have hr3 := HR0.out
    unfold zshB at hr3
    have z0 : (w.alloc (.cells #[.int .i64 0, .int .i64 0, .int .u64 0, .int .i64 0, .string ⟨#[]⟩] 31)).cell? ⟨w.heap.size, 0, none⟩ = some (.int .i64 0) := by rw [cell_of_row _ _ _ _ _ _ hr3]; rfl
    have z1 : (w.alloc (.cells #[.int .i64 0, .int .i64 0, .int .u64 0, .int .i64 0, .string ⟨#[]⟩] 31)).cell? ⟨w.heap.size, 1, none⟩ = some (.int .i64 0) := by rw [cell_of_row _ _ _ _ _ _ hr3]; rfl
    have z2 : (w.alloc (.cells #[.int .i64 0, .int .i64 0, .int .u64 0, .int .i64 0, .string ⟨#[]⟩] 31)).cell? ⟨w.heap.size, 2, none⟩ = some (.int .u64 0) := by rw [cell_of_row _ _ _ _ _ _ hr3]; rfl
    have z3 : (w.alloc (.cells #[.int .i64 0, .int .i64 0, .int .u64 0, .int .i64 0, .string ⟨#[]⟩] 31)).cell? ⟨w.heap.size, 3, none⟩ = some (.int .i64 0) := by rw [cell_of_row _ _ _ _ _ _ hr3]; rfl
    have z4 : (w.alloc (.cells #[.int .i64 0, .int .i64 0, .int .u64 0, .int .i64 0, .string ⟨#[]⟩] 31)).cell? ⟨w.heap.size, 4, none⟩ = some (.string ⟨#[]⟩) := by rw [cell_of_row _ _ _ _ _ _ hr3]; rfl
    have y0 : (w.alloc (.cells #[.int .i64 0, .int .i64 0, .int .u64 0, .int .i64 0, .string ⟨#[]⟩] 31)).frozen? ⟨w.heap.size, 0, none⟩ = false := frozen_of_row _ _ _ _ _ hr3
    have y1 : (w.alloc (.cells #[.int .i64 0, .int .i64 0, .int .u64 0, .int .i64 0, .string ⟨#[]⟩] 31)).frozen? ⟨w.heap.size, 1, none⟩ = false := frozen_of_row _ _ _ _ _ hr3
    have y2 : (w.alloc (.cells #[.int .i64 0, .int .i64 0, .int .u64 0, .int .i64 0, .string ⟨#[]⟩] 31)).frozen? ⟨w.heap.size, 2, none⟩ = false := frozen_of_row _ _ _ _ _ hr3
    have y3 : (w.alloc (.cells #[.int .i64 0, .int .i64 0, .int .u64 0, .int .i64 0, .string ⟨#[]⟩] 31)).frozen? ⟨w.heap.size, 3, none⟩ = false := frozen_of_row _ _ _ _ _ hr3
    have y4 : (w.alloc (.cells #[.int .i64 0, .int .i64 0, .int .u64 0, .int .i64 0, .string ⟨#[]⟩] 31)).frozen? ⟨w.heap.size, 4, none⟩ = false := frozen_of_row _ _ _ _ _ hr3
    clear hr3
    clear hid HISI
    go_enter Tryz.func9, Tryz.ntmps9
    go_wp2_with fail
    refine (HIT.out _).mono ?_
    rintro e W0' ⟨rfl, rfl⟩
    go_wp2_with fail
    go_region
    all_goals
      go_wp2_with fail
      (try simp only [Exit.inBlock, Exit.then])
      rw [HLV.out]
      refine bodyPost_ret (results_row_tmp rfl _ _ w.heap.size 31 #[.int .i64 0, .int .i64 0, .int .u64 0, .int .i64 0, .string ⟨#[]⟩] (0, 0) _ rfl HR0.out Tryz.underlying31 rfl (by kernel_rfl)) rfl ⟨rfl, ?_⟩
      exact ⟨HD.out.below (V.below_drewN HB.out 1), V.Step.of_below (V.below_drewN HB.out 1)⟩

end Go.Proofs.YtmifadjgmjnkgaaGreatDoor
