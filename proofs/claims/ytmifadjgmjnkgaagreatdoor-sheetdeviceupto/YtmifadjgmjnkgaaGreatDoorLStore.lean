import Derived.Test.YtmifadjgmjnkgaaGreatDoorA8
import Derived.Test.YtmifadjgmjnkgaaGreatDoorSeal
import Derived.Test.YtmifadjgmjnkgaaGreatDoorReadA
import Derived.Test.YtmifadjgmjnkgaaGreatDoorPageMath
import Derived.Test.YtmifadjgmjnkgaaGreatDoorHide
namespace Go.Proofs.YtmifadjgmjnkgaaGreatDoor
open Go.RowKit

theorem u8s_V (l : List UInt8) : V.u8s l = u8s l := rfl

/-- What a call over a device finds: the refusals, the tables, all below base. -/
structure Env (base : Nat) (A : Nat → Addr) (w : World) : Prop where
  errs : V.ErrsB base A w
  text : w.cell? ⟨1, 0, none⟩ = some (.iface 158 (.pointer (some (A 1))))
  lo : 1 < base ∧ 13 < base ∧ 14 < base
  lay : Lay w
  tab : Tab w
theorem Env.keep {base : Nat} {A : Nat → Addr} {w w' : World} (h : Env base A w) (hb : Below base w w') : Env base A w' := by
  obtain ⟨he, ht, ⟨l1, l2, l3⟩, ⟨h0, c0, c1, c2, c3, c4, c5, c6, c7, c8, c9⟩, hT⟩ := h
  exact ⟨he.keep hb, (hb.cell l1).trans ht, ⟨l1, l2, l3⟩, ⟨Nat.lt_of_lt_of_le h0 hb.size, (hb.cell l2).trans c0, (hb.cell l2).trans c1, (hb.cell l2).trans c2, (hb.cell l2).trans c3, (hb.cell l2).trans c4, (hb.cell l2).trans c5, (hb.cell l2).trans c6, (hb.cell l2).trans c7, (hb.cell l2).trans c8, (hb.cell l2).trans c9⟩,
    ⟨fun j hj => (hb.cell (p := ⟨14, j, none⟩) l3).trans (hT.1 j hj), Nat.lt_of_lt_of_le hT.2 hb.size⟩⟩
theorem Env.up {base : Nat} {A : Nat → Addr} {w w' : World} (h : Env base A w) (hb : Below w.heap.size w w') : Env base A w' := h.keep (hb.mono h.errs.size)
theorem Env.step {base : Nat} {A : Nat → Addr} {w w' : World} {F F' : Nat → Prop} (h : Env base A w) (hs : V.Step F F' w w') (hF : ∀ k, F k → base ≤ k) : Env base A w' := h.keep (hs.below hF h.errs.size)

set_option maxHeartbeats 400000 in
theorem first_any (i : Int) (w : World) (h1 : 0 ≤ i) (h2 : i ≤ 1048576) : Calls Tryz.prog 32 #[.int .i64 i] w fun e w' => e = .returned (.int .i64 (i * 8)) ∧ w = w' := by
  go_enter Tryz.func32, Tryz.ntmps32
  go_wp2
  go_ret
  exact ⟨rfl, rfl⟩

set_option maxHeartbeats 400000 in
theorem sholds_any (b : Nat) (F : Nat → Prop) (d : V.Dev) (i : Int) (w : World) (h : V.DevAt w b F d) (h1 : 0 ≤ i) (h2 : i < 1048576) :
    Calls Tryz.prog 31 #[.pointer (some ⟨b, 0, none⟩), .int .i64 i] w fun e w' => e = .returned (.bool (decide ((i + 1) * 8 ≤ d.size))) ∧ w = w' := by
  have S := V.size_any b F d w h
  have HS : Hid (Calls Tryz.prog 54 #[.pointer (some ⟨b, 0, none⟩)] w fun e w' => e = .returned (.int .i64 d.size) ∧ w = w') := S
  have FS := first_any (i + 1) w (by omega) (by omega)
  have HF : Hid (Calls Tryz.prog 32 #[.int .i64 (i + 1)] w fun e w' => e = .returned (.int .i64 ((i + 1) * 8)) ∧ w = w') := FS
  clear S FS h
  generalize d.size = sz at *
  go_enter Tryz.func31, Tryz.ntmps31
  go_wp2_with fail
  refine Calls.mono HS.out ?_
  rintro e w' ⟨rfl, rfl⟩
  go_wp2_with fail
  refine Calls.mono HF.out ?_
  rintro e w' ⟨rfl, rfl⟩
  go_wp2_with fail
  go_ret
  exact ⟨rfl, rfl⟩

/-- The device behind a Store that succeeds. -/
def storedD (d : V.Dev) (s : Sh) : V.Dev := { d with pend := V.chunks (s.id * 8) (page s) 8, nw := wrap64 (d.nw + 8) }

theorem write_page (d : V.Dev) (s : Sh) (hm : May s) (hp : d.pend = []) (hd : d.dead = false) (ha : d.arms = []) (hfit : (s.id + 1) * 8 ≤ d.size) : d.write (s.id * 8) (page s) = (storedD d s, 0) := by
  obtain ⟨sz, dur, pend, arms, dead, nr, nw, ns⟩ := d
  simp only at hp hd ha hfit
  subst hp hd ha
  have hl := page_len s hm
  have hid := hm.2.2.1
  have hf : V.Dev.fits ⟨sz, dur, [], [], false, nr, nw, ns⟩ (s.id * 8) ((4096 / 512 : Nat) : Int) = true := by
    unfold V.Dev.fits
    refine decide_eq_true ⟨by omega, by omega, ?_⟩
    show s.id * 8 ≤ sz - 8
    omega
  unfold V.Dev.write
  rw [hl]
  simp only [Bool.false_eq_true, if_false]
  rw [if_neg (by rw [hf]; simp)]
  rfl

set_option maxRecDepth 100000 in
set_option maxHeartbeats 1000000 in
theorem store_any (base : Nat) (A : Nat → Addr) (db : Nat) (F : Nat → Prop) (d : V.Dev) (s : Sh) (w : World) (hs : s.body.size ≤ 140737488355328) (hx : s.txid < 18446744073709551616) (hd : V.DevAt w db F d) (hE : Env base A w) (hF : ∀ k, F k → base ≤ k)
    (hp : d.pend = []) (hdd : d.dead = false) (ha : d.arms = []) :
    Calls Tryz.prog 6 #[.pointer (some ⟨db, 0, none⟩), .agg s.cells.toArray] w fun e w' =>
      (e = .returned .nilIface ∧ (May s ∧ (s.id + 1) * 8 ≤ d.size) ∧ ∃ F', V.DevAt w' db F' (storedD d s) ∧ V.Step F F' w w') ∨ (e = .returned (.iface 158 (.pointer (some (A 0)))) ∧ Below w.heap.size w w') := by
  have HE := hide hE
  have HD := hide hd
  have HFB := hide hF
  obtain ⟨k, i, t, c, b⟩ := s
  have HX : Hid (Boxed w.heap.size [.int .i64 k, .int .i64 i, .int .u64 (t : Int), .int .i64 c, .string b] (w.alloc (.cells #[.int .i64 k, .int .i64 i, .int .u64 (t : Int), .int .i64 c, .string b] 31))) := boxed_new w _ _
  have HB := hide (below_new w (.cells #[.int .i64 k, .int .i64 i, .int .u64 (t : Int), .int .i64 c, .string b] 31))
  by_cases hm : May ⟨k, i, t, c, b⟩
  · have HS : Hid (∀ w, Lay w → Tab w → Calls Tryz.prog 30 #[.agg #[.int .i64 k, .int .i64 i, .int .u64 (t : Int), .int .i64 c, .string b]] w fun e w' => ∃ g, e = .returned (.tuple #[.slice (some ⟨g, 0, none⟩) 4096 4096, .nilIface]) ∧ RowB w' g (page ⟨k, i, t, c, b⟩) ∧ w.heap.size ≤ g ∧ Below w.heap.size w w') := fun w h1 h2 => seal_ok ⟨k, i, t, c, b⟩ w hm hx h1 h2
    have HPL : Hid ((page ⟨k, i, t, c, b⟩).length = 4096) := page_len _ hm
    have hi1 : 0 ≤ i := by have := hm.2.2.1; simp only at this; omega
    have hi2 : i < 1048576 := hm.2.2.1.2
    have HM := hide hm
    have HWR : Hid ((i + 1) * 8 ≤ d.size → d.write (i * 8) (page ⟨k, i, t, c, b⟩) = (storedD d ⟨k, i, t, c, b⟩, 0)) := fun h => write_page d ⟨k, i, t, c, b⟩ hm hp hdd ha h
    have HPN : Hid (d.pend.length = 0 ∧ d.arms = []) := ⟨by rw [hp]; rfl, ha⟩
    clear hE hd hF hs hx hm hp hdd ha
    generalize hpg : page ⟨k, i, t, c, b⟩ = pg at *
    clear hpg
    show Calls Tryz.prog 6 #[.pointer (some ⟨db, 0, none⟩), .agg #[.int .i64 k, .int .i64 i, .int .u64 (t : Int), .int .i64 c, .string b]] w _
    go_enter Tryz.func6, Tryz.ntmps6
    go_wp2_with fail
    refine (HS.out _ (HE.out.up HB.out).lay (HE.out.up HB.out).tab).mono ?_
    rintro e w1 ⟨g, rfl, hrow, hg, hb1⟩
    have HX1 := hide (HX.out.below hb1)
    have HB1 := hide (Below.next HB.out hb1)
    have HROW := hide hrow
    have HG : Hid (w.heap.size < g) := by have := HX.out.1; show _ < _; omega
    have c1 : w1.cell? ⟨w.heap.size, 1, none⟩ = some (.int .i64 i) := HX1.out.2 1 (by simp)
    clear hrow hg hb1 HX HB
    have HDV := hide (HD.out.below HB1.out)
    by_cases hfit : (i + 1) * 8 ≤ d.size
    · go_wp2_with fail
      refine (sholds_any db F d i _ HDV.out hi1 hi2).mono ?_
      rintro e w1' ⟨rfl, rfl⟩
      rw [decide_eq_true hfit]
      go_wp2_with fail
      refine (first_any i _ hi1 (by omega)).mono ?_
      rintro e w1' ⟨rfl, rfl⟩
      have W := V.write_any base A db F d w1 HDV.out (HE.out.up HB1.out).errs HFB.out (i * 8) (.slice (some ⟨g, 0, none⟩) 4096 4096) pg ⟨some ⟨g, 0, none⟩, 4096, g, by rw [HPL.out], by rw [HPL.out]; decide, by rw [HPL.out]; decide, fun _ => ⟨rfl, fun hf => by have := HD.out.lt g hf; have := HG.out; omega⟩, HROW.out.cell⟩ (by rw [HPL.out, HPN.out.1]; decide) (by rw [HPN.out.2]; exact V.opdone_nil base A db)
      rw [HWR.out hfit] at W
      have HW : Hid (Calls Tryz.prog 11 #[.pointer (some ⟨db, 0, none⟩), .int .i64 (i * 8), .slice (some ⟨g, 0, none⟩) 4096 4096] w1 fun e w' => e = .returned .nilIface ∧ ∃ F', V.DevAt w' db F' (storedD d ⟨k, i, t, c, b⟩) ∧ V.Step F F' w1 w') := W
      clear W
      go_wp2_with fail
      refine Calls.mono HW.out ?_
      rintro e w2 ⟨rfl, F', hd2, hs2⟩
      have HFIN : Hid (∃ F', V.DevAt w2 db F' (storedD d ⟨k, i, t, c, b⟩) ∧ V.Step F F' w w2) := ⟨F', hd2, (V.Step.of_below HB1.out).trans hs2⟩
      clear hd2 hs2
      go_wp2_with fail
      go_ret
      exact .inl ⟨rfl, ⟨HM.out, hfit⟩, HFIN.out⟩
    · have cE : w1.cell? ⟨0, 0, none⟩ = some (.iface 158 (.pointer (some (A 0)))) := (HE.out.up HB1.out).errs.arg
      have HDF : Hid (decide ((i + 1) * 8 ≤ d.size) = false) := decide_eq_false hfit
      clear hfit
      go_wp2_with fail
      refine (sholds_any db F d i _ HDV.out hi1 hi2).mono ?_
      rintro e w1' ⟨rfl, rfl⟩
      rw [HDF.out]
      go_wp2_with fail
      go_ret
      exact .inr ⟨rfl, HB1.out⟩
  · have HS : Hid (∀ w, w.cell? ⟨0, 0, none⟩ = some (.iface 158 (.pointer (some (A 0)))) → Calls Tryz.prog 30 #[.agg #[.int .i64 k, .int .i64 i, .int .u64 (t : Int), .int .i64 c, .string b]] w fun e w' => e = .returned (.tuple #[.slice none 0 0, .iface 158 (.pointer (some (A 0)))]) ∧ Below w.heap.size w w') := fun w hc => seal_no (A 0) ⟨k, i, t, c, b⟩ w hs hm hc
    clear hE hd hF hs hx hm hp hdd ha
    show Calls Tryz.prog 6 #[.pointer (some ⟨db, 0, none⟩), .agg #[.int .i64 k, .int .i64 i, .int .u64 (t : Int), .int .i64 c, .string b]] w _
    go_enter Tryz.func6, Tryz.ntmps6
    go_wp2_with fail
    refine (HS.out _ (HE.out.up HB.out).errs.arg).mono ?_
    rintro e w1 ⟨rfl, hb1⟩
    have HB1 := hide (Below.next HB.out hb1)
    clear hb1
    go_wp2_with fail
    go_ret
    exact .inr ⟨rfl, HB1.out⟩

end Go.Proofs.YtmifadjgmjnkgaaGreatDoor
