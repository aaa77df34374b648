import Derived.Test.YtmifadjgmjnkgaaGreatDoorLStore
import Derived.Test.YtmifadjgmjnkgaaGreatDoorMay
namespace Go.Proofs.YtmifadjgmjnkgaaGreatDoor
open Go.RowKit

theorem rdb_of_owns {w : World} {base n : Nat} {v : Value} {l : List UInt8} (h : w.ownsRow base 5 1 v n (u8s l)) : RdB w v l := by
  rcases rd_of_owns h with h | ⟨g, cap, hv, h1, h2, h3, h4⟩
  · exact .inl h
  · exact .inr ⟨g, cap, hv, h1, Nat.le_trans h2 (by decide), h3, h4⟩
theorem five_step {w : World} {b : Nat} {u0 u1 u2 u3 u4 : Value} : V.Step (fun k => k = b) (fun k => k = b) w (((((w.setCell ⟨b, 0, none⟩ u0).setCell ⟨b, 1, none⟩ u1).setCell ⟨b, 2, none⟩ u2).setCell ⟨b, 3, none⟩ u3).setCell ⟨b, 4, none⟩ u4) := by
  have hs : Sole b w (((((w.setCell ⟨b, 0, none⟩ u0).setCell ⟨b, 1, none⟩ u1).setCell ⟨b, 2, none⟩ u2).setCell ⟨b, 3, none⟩ u3).setCell ⟨b, 4, none⟩ u4) :=
    ((((Sole.set b 0 w u0).trans (Sole.set b 1 _ u1)).trans (Sole.set b 2 _ u2)).trans (Sole.set b 3 _ u3)).trans (Sole.set b 4 _ u4)
  exact ⟨hs.os, hs.tape, hs.output, hs.size, hs.block, fun k h => .inl h⟩
/-- The device behind a Load. -/
def loadedD (d : V.Dev) : V.Dev := { d with nr := wrap64 (d.nr + 8) }
theorem read_page (d : V.Dev) (s : Sh) (hm : May s) (hdd : d.dead = false) (hfit : (s.id + 1) * 8 ≤ d.size) (hrd : V.readB d (s.id * 8) 8 = page s) : d.read (s.id * 8) 8 = (loadedD d, page s, 0) := by
  have hid := hm.2.2.1
  have hf : d.fits (s.id * 8) 8 = true := by
    unfold V.Dev.fits
    exact decide_eq_true ⟨by omega, by omega, by omega⟩
  obtain ⟨sz, dur, pend, arms, dead, nr, nw, ns⟩ := d
  simp only at hdd
  subst hdd
  unfold V.Dev.read
  rw [hf]
  simp only [Bool.false_eq_true, if_false, Bool.true_eq_false]
  rw [if_neg (by decide)]
  show (_, V.readB ⟨sz, dur, pend, arms, false, nr, nw, ns⟩ (s.id * 8) 8, _) = _
  rw [hrd]; rfl

set_option maxRecDepth 100000 in
set_option maxHeartbeats 1000000 in
theorem load_any (base : Nat) (A : Nat → Addr) (db : Nat) (F : Nat → Prop) (d : V.Dev) (s : Sh) (w : World) (hm : May s) (hx : s.txid < 18446744073709551616) (hd : V.DevAt w db F d) (hE : Env base A w) (hF : ∀ k, F k → base ≤ k)
    (hdd : d.dead = false) (hfit : (s.id + 1) * 8 ≤ d.size) (hrd : V.readB d (s.id * 8) 8 = page s) :
    Calls Tryz.prog 9 #[.pointer (some ⟨db, 0, none⟩), .int .i64 s.id] w fun e w' => e = .returned (.tuple #[.agg s.cells.toArray, .nilIface]) ∧ V.DevAt w' db F (loadedD d) ∧ V.Step F F w w' := by
  have HRP := hide (read_page d s hm hdd hfit hrd)
  have HPP := hide (parse_page s hm hx)
  have HOK : Hid (okRead (page s) s.id) := (okRead_page s hm hx s.id).2 rfl
  have HPL := hide (page_len s hm)
  obtain ⟨k, i, t, c, b⟩ := s
  have hi1 : 2 ≤ i := hm.2.2.1.1
  have hi2 : i < 1048576 := hm.2.2.1.2
  have hi0 : 0 ≤ i := by omega
  have HE := hide hE
  have HD := hide hd
  have HFB := hide hF
  have HB := hide (below_new w (.cells #[.int .i64 0, .int .i64 0, .int .u64 0, .int .i64 0, .string ⟨#[]⟩] 31))
  have HR0 : Hid ((w.alloc (.cells #[.int .i64 0, .int .i64 0, .int .u64 0, .int .i64 0, .string ⟨#[]⟩] 31)).heap[w.heap.size]? = some (.cells #[.int .i64 0, .int .i64 0, .int .u64 0, .int .i64 0, .string ⟨#[]⟩] 31 (0, 0))) := heap_alloc_new w _
  have HSZ : Hid (w.heap.size < (w.alloc (.cells #[.int .i64 0, .int .i64 0, .int .u64 0, .int .i64 0, .string ⟨#[]⟩] 31)).heap.size) := by show _ < _; simp
  have hdf : decide ((i + 1) * 8 ≤ d.size) = true := decide_eq_true hfit
  have HDF := hide hdf
  have HISI : Hid (∀ w, Calls Tryz.prog 36 #[.int .i64 i] w fun e w' => e = .returned (.bool true) ∧ w = w') := fun w => by
    have h := isID_any i w
    rw [decide_eq_true ⟨hi1, hi2⟩] at h
    exact h
  simp only at *
  clear hE hd hF hm hx hdd hfit hrd hdf
  generalize hpg : page ⟨k, i, t, c, b⟩ = pg at *
  clear hpg
  go_enter Tryz.func9, Tryz.ntmps9
  go_wp2_with fail
  generalize w.alloc (.cells #[.int .i64 0, .int .i64 0, .int .u64 0, .int .i64 0, .string ⟨#[]⟩] 31) = W0 at *
  refine (HISI.out _).mono ?_
  rintro e W0' ⟨rfl, rfl⟩
  have HDV := hide (HD.out.below HB.out)
  go_wp2_with fail
  refine (sholds_any db F d i _ HDV.out hi0 hi2).mono ?_
  rintro e W0' ⟨rfl, rfl⟩
  rw [HDF.out]
  go_wp2_with fail
  refine (first_any i _ hi0 (by omega)).mono ?_
  rintro e W0' ⟨rfl, rfl⟩
  have R := V.read_any base A db F d W0 HDV.out (HE.out.up HB.out).errs (i * 8) 8 (by decide)
  rw [HRP.out] at R
  have HRD : Hid (Calls Tryz.prog 37 #[.pointer (some ⟨db, 0, none⟩), .int .i64 (i * 8), .int .i64 8] W0 fun e w' => ∃ v, e = .returned (.tuple #[v, .nilIface]) ∧ w'.ownsRow W0.heap.size 5 1 v pg.length (u8s pg) ∧ V.DevAt w' db F (loadedD d) ∧ V.Step F F W0 w') := Calls.mono R (fun e w' ⟨v, h⟩ => ⟨v, h.ret, h.row, h.dev, h.step⟩)
  clear R
  go_wp2_with fail
  refine Calls.mono HRD.out ?_
  rintro e w2 ⟨v, rfl, hrow, hdev, hst⟩
  have HRB := hide (rdb_of_owns hrow)
  have HD2 := hide hdev
  have HS2 := hide hst
  have HE2 := hide ((HE.out.up HB.out).step hst HFB.out)
  have HR2 : Hid (w2.heap[w.heap.size]? = some (.cells #[.int .i64 0, .int .i64 0, .int .u64 0, .int .i64 0, .string ⟨#[]⟩] 31 (0, 0))) := by
    show _ = _
    rw [hst.block w.heap.size HSZ.out (fun hf => by have := HD.out.lt _ hf; omega)]; exact HR0.out
  clear hrow hdev hst
  obtain ⟨va, vn, vc, rfl⟩ : ∃ a n c, v = .slice a n c := by
    rcases HRB.out with ⟨h, _⟩ | ⟨g, cap, h, _⟩
    · exact ⟨_, _, _, h⟩
    · exact ⟨_, _, _, h⟩
  go_wp2_with fail
  refine (read_any (A 1) _ pg i _ HRB.out HE2.out.lay HE2.out.tab HE2.out.text).mono ?_
  rintro e w3 ⟨rfl, hb3⟩
  have hv : readV (A 1) pg i = #[.agg #[.int .i64 k, .int .i64 i, .int .u64 (t : Int), .int .i64 c, .string b], .nilIface] := by
    unfold readV
    rw [if_pos HOK.out, HPP.out]; rfl
  rw [hv]
  have hr3 : w3.heap[w.heap.size]? = some (.cells #[.int .i64 0, .int .i64 0, .int .u64 0, .int .i64 0, .string ⟨#[]⟩] 31 (0, 0)) := (hb3.block _ ((Array.getElem?_eq_some_iff.1 HR2.out).1)).trans HR2.out
  have HR3 := hide hr3
  have HD3 := hide (HD2.out.below hb3)
  have HS3 : Hid (V.Step F F w w3) := ((V.Step.of_below HB.out).trans HS2.out).trans (V.Step.of_below hb3)
  have z0 : w3.cell? ⟨w.heap.size, 0, none⟩ = some (.int .i64 0) := by rw [cell_of_row _ _ _ _ _ _ hr3]; rfl
  have z1 : w3.cell? ⟨w.heap.size, 1, none⟩ = some (.int .i64 0) := by rw [cell_of_row _ _ _ _ _ _ hr3]; rfl
  have z2 : w3.cell? ⟨w.heap.size, 2, none⟩ = some (.int .u64 0) := by rw [cell_of_row _ _ _ _ _ _ hr3]; rfl
  have z3 : w3.cell? ⟨w.heap.size, 3, none⟩ = some (.int .i64 0) := by rw [cell_of_row _ _ _ _ _ _ hr3]; rfl
  have z4 : w3.cell? ⟨w.heap.size, 4, none⟩ = some (.string ⟨#[]⟩) := by rw [cell_of_row _ _ _ _ _ _ hr3]; rfl
  have y0 : w3.frozen? ⟨w.heap.size, 0, none⟩ = false := frozen_of_row _ _ _ _ _ hr3
  have y1 : w3.frozen? ⟨w.heap.size, 1, none⟩ = false := frozen_of_row _ _ _ _ _ hr3
  have y2 : w3.frozen? ⟨w.heap.size, 2, none⟩ = false := frozen_of_row _ _ _ _ _ hr3
  have y3 : w3.frozen? ⟨w.heap.size, 3, none⟩ = false := frozen_of_row _ _ _ _ _ hr3
  have y4 : w3.frozen? ⟨w.heap.size, 4, none⟩ = false := frozen_of_row _ _ _ _ _ hr3
  clear hv hr3 hb3
  go_wp2_with fail
  (try simp only [Exit.inBlock, Exit.then])
  refine bodyPost_ret (results_row_tmp rfl _ _ w.heap.size 31 #[.int .i64 k, .int .i64 i, .int .u64 (t : Int), .int .i64 c, .string b] (0, 0) _ rfl (set_five HR3.out) Tryz.underlying31 rfl (by kernel_rfl)) rfl ⟨rfl, HD3.out.keep five_step (fun k hk e => by have := HD.out.lt k hk; omega), ?_⟩
  have h5 := @five_step w3 w.heap.size (.int .i64 k) (.int .i64 i) (.int .u64 (t : Int)) (.int .i64 c) (.string b)
  exact ⟨h5.os.trans HS3.out.os, h5.tape.trans HS3.out.tape, h5.output.trans HS3.out.output, Nat.le_trans HS3.out.size h5.size, fun q hq hn => (h5.block q (Nat.lt_of_lt_of_le hq HS3.out.size) (by omega)).trans (HS3.out.block q hq hn), fun q hq => HS3.out.sub q hq⟩

end Go.Proofs.YtmifadjgmjnkgaaGreatDoor
