import Derived.Test.YtlopimdnjookeabGreatDoorA8
import Derived.Test.YtlopimdnjookeabGreatDoorB3
import Derived.Test.YtlopimdnjookeabGreatDoorA4
namespace Go.Proofs.YtlopimdnjookeabGreatDoor
open Go.RowKit

/-- What a call over a device finds: the refusals, the table, all below base. -/
structure EnvT (base : Nat) (A : Nat → Addr) (ac : Addr) (w : World) : Prop where
  errs : V.ErrsB base A w
  corr : w.cell? ⟨0, 0, none⟩ = some (.iface 153 (.pointer (some ac)))
  lo : 0 < base ∧ 13 < base
  tab : Tab w
theorem EnvT.keep {base : Nat} {A : Nat → Addr} {ac : Addr} {w w' : World} (h : EnvT base A ac w) (hb : Below base w w') : EnvT base A ac w' := by
  obtain ⟨he, ht, ⟨l1, l3⟩, hT⟩ := h
  exact ⟨he.keep hb, (hb.cell l1).trans ht, ⟨l1, l3⟩, ⟨fun j hj => (hb.cell (p := ⟨13, j, none⟩) l3).trans (hT.1 j hj), Nat.lt_of_lt_of_le hT.2 hb.size⟩⟩
theorem EnvT.up {base : Nat} {A : Nat → Addr} {ac : Addr} {w w' : World} (h : EnvT base A ac w) (hb : Below w.heap.size w w') : EnvT base A ac w' := h.keep (hb.mono h.errs.size)
theorem EnvT.step {base : Nat} {A : Nat → Addr} {ac : Addr} {w w' : World} {F F' : Nat → Prop} (h : EnvT base A ac w) (hs : V.Step F F' w w') (hF : ∀ k, F k → base ≤ k) : EnvT base A ac w' := h.keep (hs.below hF h.errs.size)

set_option maxHeartbeats 400000 in
theorem sectorOf_any (i : Int) (w : World) (h1 : 0 ≤ i) (h2 : i ≤ 1) : Calls Tryz.prog 38 #[.int .i64 i] w fun e w' => e = .returned (.int .i64 (i * 8)) ∧ w = w' := by
  go_enter Tryz.func38, Tryz.ntmps38
  go_wp2
  go_ret
  exact ⟨rfl, rfl⟩

set_option maxHeartbeats 400000 in
theorem pagesOf_any (b : Nat) (F : Nat → Prop) (d : V.Dev) (w : World) (h : V.DevAt w b F d) :
    Calls Tryz.prog 35 #[.pointer (some ⟨b, 0, none⟩)] w fun e w' => e = .returned (.int .i64 (d.size / 8)) ∧ w = w' := by
  have h0 := h.ok.s0
  have h1 := h.ok.s1
  have HS := hide (V.size_any b F d w h)
  have hq : d.size.tdiv 8 = d.size / 8 := Int.tdiv_eq_ediv_of_nonneg h0
  clear h
  generalize d.size = sz at *
  go_enter Tryz.func35, Tryz.ntmps35
  go_wp2_with fail
  refine Calls.mono HS.out ?_
  rintro e w' ⟨rfl, rfl⟩
  go_wp2_with fail
  go_ret
  refine ⟨?_, rfl⟩
  first
    | rfl
    | (simp [hq])

/-- The device behind a read of one sector. -/
def readD (d : V.Dev) : V.Dev := { d with nr := wrap64 (d.nr + 1) }
theorem readD_B (d : V.Dev) (s : Int) (n : Nat) : V.readB (readD d) s n = V.readB d s n := rfl
theorem read_one (d : V.Dev) (s : Int) (hd : d.dead = false) (h0 : 0 ≤ s) (h1 : s + 1 ≤ d.size) : d.read s 1 = (readD d, V.readB d s 1, 0) := by
  have hf : d.fits s 1 = true := decide_eq_true ⟨h0, by decide, by omega⟩
  obtain ⟨sz, dur, pend, arms, dead, nr, nw, ns⟩ := d
  simp only at hd
  subst hd
  unfold V.Dev.read
  rw [hf]
  rfl

set_option maxRecDepth 100000 in
set_option maxHeartbeats 2000000 in
theorem load_any (base : Nat) (A : Nat → Addr) (ac : Addr) (db : Nat) (F : Nat → Prop) (d : V.Dev) (w : World) (hd : V.DevAt w db F d) (hE : EnvT base A ac w) (hF : ∀ k, F k → base ≤ k)
    (hdd : d.dead = false) (hpg : PagesOk (d.size / 8)) (m : Mt) (hla : (V.readB d 0 1).length = 512) (hlb : (V.readB d 8 1).length = 512) (hch : choV (A 0) ac (V.readB d 0 1) (V.readB d 8 1) (d.size / 8) = #[.agg m.cells.toArray, .nilIface]) :
    Calls Tryz.prog 15 #[.pointer (some ⟨db, 0, none⟩)] w fun e w' => e = .returned (.tuple #[.agg m.cells.toArray, .nilIface]) ∧ V.DevAt w' db F (readD (readD d)) ∧ V.Step F F w w' := by
  have HR1 := hide (read_one d 0 hdd (by decide) (by have := hpg.1; omega))
  have HR2 := hide (read_one (readD d) 8 hdd (by decide) (by show (8 : Int) + 1 ≤ d.size; have := hpg.1; omega))
  have HE := hide hE
  have HD := hide hd
  have HFB := hide hF
  have HLA := hide hla
  have HLB := hide hlb
  have HCH := hide hch
  have hp1 := hpg.1
  have HB := hide (below_new w (.cells #[.int .i64 0, .int .i64 0, .int .u64 0] 32))
  have HZ0 : Hid ((w.alloc (.cells #[.int .i64 0, .int .i64 0, .int .u64 0] 32)).heap[w.heap.size]? = some (.cells #[.int .i64 0, .int .i64 0, .int .u64 0] 32 (0, 0))) := heap_alloc_new w _
  have HSZ : Hid (w.heap.size < (w.alloc (.cells #[.int .i64 0, .int .i64 0, .int .u64 0] 32)).heap.size) := by show _ < _; simp
  have HPM : Hid (∀ w, Calls Tryz.prog 36 #[.int .i64 (d.size / 8)] w fun e w' => e = .returned (.bool true) ∧ w = w') := fun w => by
    have h := pmay_any (d.size / 8) w
    rw [decide_eq_true hpg] at h
    exact h
  obtain ⟨pgs, hpgs⟩ : ∃ pgs, d.size / 8 = pgs := ⟨_, rfl⟩
  have HPO : Hid (∀ w, V.DevAt w db F d → Calls Tryz.prog 35 #[.pointer (some ⟨db, 0, none⟩)] w fun e w' => e = .returned (.int .i64 pgs) ∧ w = w') := fun w h => by
    rw [← hpgs]; exact pagesOf_any db F d w h
  rw [hpgs] at HPM HCH
  obtain ⟨P, R, T⟩ := m
  simp only [Mt.cells] at HCH ⊢
  clear hE hd hF hdd hpg hla hlb hch hpgs hp1
  go_enter Tryz.func15, Tryz.ntmps15
  go_wp2_with fail
  generalize w.alloc (.cells #[.int .i64 0, .int .i64 0, .int .u64 0] 32) = W0 at *
  refine (HPO.out _ (HD.out.below HB.out)).mono ?_
  rintro e w' ⟨rfl, rfl⟩
  go_wp2_with fail
  refine (HPM.out _).mono ?_
  rintro e w' ⟨rfl, rfl⟩
  go_wp2_with fail
  refine (sectorOf_any 0 _ (by decide) (by decide)).mono ?_
  rintro e w' ⟨rfl, rfl⟩
  have HDV := hide (HD.out.below HB.out)
  have R1 := V.read_any base A db F d W0 HDV.out (HE.out.up HB.out).errs 0 1 (by decide)
  rw [HR1.out] at R1
  have HRD1 : Hid (Calls Tryz.prog 37 #[.pointer (some ⟨db, 0, none⟩), .int .i64 0, .int .i64 1] W0 fun e w' => ∃ v, e = .returned (.tuple #[v, .nilIface]) ∧ w'.ownsRow W0.heap.size 5 1 v (V.readB d 0 1).length (u8s (V.readB d 0 1)) ∧ V.DevAt w' db F (readD d) ∧ V.Step F F W0 w') := Calls.mono R1 (fun e w' ⟨v, h⟩ => ⟨v, h.ret, h.row, h.dev, h.step⟩)
  clear R1
  go_wp2_with fail
  refine Calls.mono HRD1.out ?_
  rintro e w1 ⟨v1, rfl, hrow1, hdev1, hst1⟩
  rw [HLA.out] at hrow1
  obtain ⟨g1, c1, rfl, _, _⟩ := hrow1.form (by decide)
  have HRO1 := hide hrow1
  have HD1 := hide hdev1
  have HS1 := hide hst1
  clear hrow1 hdev1 hst1 HRD1
  go_wp2_with fail
  refine (sectorOf_any 1 _ (by decide) (by decide)).mono ?_
  rintro e w' ⟨rfl, rfl⟩
  have R2 := V.read_any base A db F (readD d) w1 HD1.out ((HE.out.up HB.out).step HS1.out HFB.out).errs 8 1 (by decide)
  rw [HR2.out] at R2
  have HRD2 : Hid (Calls Tryz.prog 37 #[.pointer (some ⟨db, 0, none⟩), .int .i64 8, .int .i64 1] w1 fun e w' => ∃ v, e = .returned (.tuple #[v, .nilIface]) ∧ w'.ownsRow w1.heap.size 5 1 v (V.readB d 8 1).length (u8s (V.readB d 8 1)) ∧ V.DevAt w' db F (readD (readD d)) ∧ V.Step F F w1 w') := Calls.mono R2 (fun e w' ⟨v, h⟩ => ⟨v, h.ret, h.row, h.dev, h.step⟩)
  clear R2
  go_wp2_with fail
  refine Calls.mono HRD2.out ?_
  rintro e w2 ⟨v2, rfl, hrow2, hdev2, hst2⟩
  rw [HLB.out] at hrow2
  obtain ⟨g2, c2, rfl, _, _⟩ := hrow2.form (by decide)
  have HRB := hide (rd_of_owns hrow2).any
  have hown1 := V.owns_step HRO1.out hst2 (fun q hq hf => by
    have h1 := (V.owns_blk HRO1.out q hq).1
    have h2 := HD.out.lt q hf
    have h3 := HB.out.size
    omega)
  have HRA := hide (rd_of_owns hown1).any
  have HD2 := hide hdev2
  have hst := HS1.out.trans hst2
  have HE2 := hide ((HE.out.up HB.out).step hst HFB.out)
  have HZ2 : Hid (w2.heap[w.heap.size]? = some (.cells #[.int .i64 0, .int .i64 0, .int .u64 0] 32 (0, 0))) := by
    show _ = _
    rw [hst.block w.heap.size HSZ.out (fun hf => by have := HD.out.lt _ hf; omega)]; exact HZ0.out
  have HS2 := hide hst
  have HLT2 : Hid (w.heap.size < w2.heap.size) := Nat.lt_of_lt_of_le HSZ.out hst.size
  clear hrow2 hdev2 hst2 hown1 hst HRD2
  go_wp2_with fail
  refine (choose_any (A 0) ac _ _ (V.readB d 0 1) (V.readB d 8 1) pgs _ HRA.out HRB.out (by rw [HLA.out]; decide) (by rw [HLB.out]; decide) HE2.out.tab HE2.out.errs.arg HE2.out.corr).mono ?_
  rintro e w3 ⟨rfl, hb3⟩
  rw [HCH.out]
  have hz3 := (hb3.block _ HLT2.out).trans HZ2.out
  obtain ⟨z0, z1, z2, y0, y1, y2⟩ := zero_cells hz3
  have HZ3 := hide hz3
  have HD3 := hide (HD2.out.below hb3)
  have HS3 : Hid (V.Step F F w w3) := ((V.Step.of_below HB.out).trans HS2.out).trans (V.Step.of_below hb3)
  clear hb3 hz3
  go_wp2_with fail
  have h3 : V.Step (fun k => k = w.heap.size) (fun k => k = w.heap.size) w3 (((w3.setCell ⟨w.heap.size, 0, none⟩ (.int .i64 P)).setCell ⟨w.heap.size, 1, none⟩ (.int .i64 R)).setCell ⟨w.heap.size, 2, none⟩ (.int .u64 (T : Int))) := by
    have hs := ((Sole.set w.heap.size 0 w3 (.int .i64 P)).trans (Sole.set w.heap.size 1 _ (.int .i64 R))).trans (Sole.set w.heap.size 2 _ (.int .u64 (T : Int)))
    exact ⟨hs.os, hs.tape, hs.output, hs.size, hs.block, fun k h => .inl h⟩
  refine bodyPost_ret (results_row_tmp rfl _ _ w.heap.size 32 #[.int .i64 P, .int .i64 R, .int .u64 (T : Int)] (0, 0) _ rfl (set_three HZ3.out) Tryz.underlying32 rfl (by kernel_rfl)) rfl ⟨rfl, HD3.out.keep h3 (fun k hk e => by have := HD.out.lt k hk; omega), ?_⟩
  exact ⟨h3.os.trans HS3.out.os, h3.tape.trans HS3.out.tape, h3.output.trans HS3.out.output, Nat.le_trans HS3.out.size h3.size, fun q hq hn => (h3.block q (Nat.lt_of_lt_of_le hq HS3.out.size) (by omega)).trans (HS3.out.block q hq hn), fun q hq => HS3.out.sub q hq⟩

end Go.Proofs.YtlopimdnjookeabGreatDoor

namespace Go.Proofs.YtlopimdnjookeabGreatDoor
open Go.RowKit

/-- The device behind a Store that succeeds. -/
def storedM (d : V.Dev) (m : Mt) : V.Dev := { d with pend := V.chunks (((m.txid % 2 : Nat) : Int) * 8) (mpage m) 1, nw := wrap64 (d.nw + 1) }

theorem write_meta (d : V.Dev) (m : Mt) (hp : d.pend = []) (hd : d.dead = false) (ha : d.arms = []) (hs : 32 ≤ d.size) : d.write (((m.txid % 2 : Nat) : Int) * 8) (mpage m) = (storedM d m, 0) := by
  obtain ⟨sz, dur, pend, arms, dead, nr, nw, ns⟩ := d
  simp only at hp hd ha hs
  subst hp hd ha
  have hl := mpage_len m
  have hf : V.Dev.fits ⟨sz, dur, [], [], false, nr, nw, ns⟩ (((m.txid % 2 : Nat) : Int) * 8) ((512 / 512 : Nat) : Int) = true := by
    unfold V.Dev.fits
    refine decide_eq_true ⟨by omega, by omega, ?_⟩
    show ((m.txid % 2 : Nat) : Int) * 8 ≤ sz - 1
    omega
  unfold V.Dev.write
  rw [hl]
  simp only [Bool.false_eq_true, if_false]
  rw [if_neg (by rw [hf]; simp)]
  rfl

set_option maxRecDepth 100000 in
set_option maxHeartbeats 4000000 in
theorem store_ok (base : Nat) (A : Nat → Addr) (ac : Addr) (db : Nat) (F : Nat → Prop) (d : V.Dev) (m : Mt) (w : World) (hm : MayM m) (hx : m.txid < 18446744073709551616) (hd : V.DevAt w db F d) (hE : EnvT base A ac w) (hF : ∀ k, F k → base ≤ k)
    (hp : d.pend = []) (hdd : d.dead = false) (ha : d.arms = []) (hsz : d.size / 8 = m.pages) :
    Calls Tryz.prog 18 #[.pointer (some ⟨db, 0, none⟩), .agg m.cells.toArray] w fun e w' => e = .returned .nilIface ∧ ∃ F', V.DevAt w' db F' (storedM d m) ∧ V.Step F F' w w' := by
  have HE := hide hE
  have HD := hide hd
  have HFB := hide hF
  have HWM := hide (write_meta d m hp hdd ha (by have := hm.1.1; omega))
  have HPN : Hid (d.pend.length = 0 ∧ d.arms = []) := ⟨by rw [hp]; rfl, ha⟩
  have HMB : Hid (∀ w, Calls Tryz.prog 45 #[.agg m.cells.toArray] w fun e w' => e = .returned (.bool true) ∧ Below w.heap.size w w') := fun w => by
    have h := mayBe_any m w
    rw [decide_eq_true hm] at h
    exact h
  have HBY : Hid (∀ w, Tab w → Calls Tryz.prog 46 #[.agg m.cells.toArray] w fun e w' => e = .returned (.agg (u8s (mpage m)).toArray) ∧ Below w.heap.size w w') := fun w h => bytesOf_any m w hm hx h
  have HPL := hide (mpage_len m)
  obtain ⟨S, hS⟩ : ∃ S : Int, S = ((m.txid % 2 : Nat) : Int) := ⟨_, rfl⟩
  have hS0 : 0 ≤ S := by omega
  have hS1 : S ≤ 1 := by omega
  have HSLOT : Hid (∀ w, Calls Tryz.prog 47 #[.int .u64 (m.txid : Int)] w fun e w' => e = .returned (.int .i64 S) ∧ w = w') := fun w => by rw [hS]; exact slot_any m.txid w hx
  have HSEC : Hid (∀ w, Calls Tryz.prog 38 #[.int .i64 S] w fun e w' => e = .returned (.int .i64 (S * 8)) ∧ w = w') := fun w => sectorOf_any S w hS0 hS1
  rw [← hS] at HWM
  have HPO : Hid (∀ w, V.DevAt w db F d → Calls Tryz.prog 35 #[.pointer (some ⟨db, 0, none⟩)] w fun e w' => e = .returned (.int .i64 m.pages) ∧ w = w') := fun w h => by
    rw [← hsz]; exact pagesOf_any db F d w h
  obtain ⟨pg, hpg⟩ : ∃ pg, pg = mpage m := ⟨_, rfl⟩
  rw [← hpg] at HBY HPL HWM
  obtain ⟨dn, hdn⟩ : ∃ dn, dn = storedM d m := ⟨_, rfl⟩
  rw [← hdn] at HWM ⊢
  obtain ⟨zc, hzc, z512⟩ : ∃ zc, zc = (u8s (List.replicate 512 0)).toArray ∧ ∀ w, (zeroValue 87).run Tryz.prog w = .ok (.agg zc) w := ⟨_, rfl, zero512⟩
  have HZC := hide hzc
  clear hpg hdn hm hx hd hE hF hp hdd ha hsz hS hS0 hS1 hzc
  obtain ⟨P, R, T⟩ := m
  simp only [Mt.cells] at HMB HBY HPO HSLOT ⊢
  have HX := hide (boxed_new w #[.int .i64 P, .int .i64 R, .int .u64 (T : Int)] 32)
  have HB := hide (below_new w (.cells #[.int .i64 P, .int .i64 R, .int .u64 (T : Int)] 32))
  go_enter Tryz.func18, Tryz.ntmps18
  go_wp2_with fail
  generalize w.alloc (.cells #[.int .i64 P, .int .i64 R, .int .u64 (T : Int)] 32) = W0 at *
  have HX0 := HX.out
  have c0 := HX0.2 0 (by simp)
  have c1 := HX0.2 1 (by simp)
  have c2 := HX0.2 2 (by simp)
  simp only [List.getElem_cons_zero, List.getElem_cons_succ] at c0 c1 c2
  have hne : (P != P) = false := by simp
  have HDV := hide (HD.out.below HB.out)
  have HE0 := hide (HE.out.up HB.out)
  have HS0 : Hid (V.Step F F w W0) := V.Step.of_below HB.out
  have HNF : Hid (∀ k, F k → k < w.heap.size) := fun k hk => HD.out.lt k hk
  have HLE : Hid (w.heap.size ≤ W0.heap.size) := HB.out.size
  clear HX0 HB HE HD
  generalize w.heap.size = xb at *
  go_region_held3 (fun w' => w'.cell? ⟨xb, 0, none⟩ = some (.int .i64 P) ∧ w'.cell? ⟨xb, 1, none⟩ = some (.int .i64 R) ∧ w'.cell? ⟨xb, 2, none⟩ = some (.int .u64 (T : Int))) (go_keep)
    (first
      | (go_at_call 45; refine (HMB.out _).mono ?_; rintro e w1 ⟨rfl, hb1d⟩; have hb1 : Below W0.heap.size W0 w1 := ⟨hb1d.os, hb1d.tape, hb1d.output, hb1d.size, hb1d.block⟩; have HB1 := hide hb1; have HX1 := hide (HX.out.below hb1); have q0 : w1.cell? ⟨xb, 0, none⟩ = some (.int .i64 P) := HX1.out.2 0 (by simp); have q1 : w1.cell? ⟨xb, 1, none⟩ = some (.int .i64 R) := HX1.out.2 1 (by simp); have q2 : w1.cell? ⟨xb, 2, none⟩ = some (.int .u64 (T : Int)) := HX1.out.2 2 (by simp); clear hb1 hb1d)
      | (go_at_call 35; refine (HPO.out _ ?_).mono ?_; (exact HDV.out.below HB1.out); rintro e w' ⟨rfl, rfl⟩))
  clear c0 c1 c2
  go_wp2_with fail
  refine (HBY.out _ (HE0.out.up HB1.out).tab).mono ?_
  rintro e w2 ⟨rfl, hb2⟩
  have HB2 := hide (Below.next HB1.out hb2)
  have HX2 := hide (HX1.out.below hb2)
  have hrow2 : RowT 87 (w2.alloc (.cells zc 87)) w2.heap.size (List.replicate 512 0) := by rw [HZC.out]; exact rowT_new _ _ _
  obtain ⟨w3, hst, hr3, hs3⟩ := store512 hrow2 (List.length_replicate ..) HPL.out
  have HR3 := hide hr3
  have hb3 : Below w2.heap.size w2 w3 := hs3.below (below_new w2 _) (Nat.le_refl _)
  have HB3 := hide (Below.next HB2.out hb3)
  have HX3 := hide (HX2.out.below hb3)
  have HGE : Hid (W0.heap.size ≤ w2.heap.size) := HB2.out.size
  have hLA : (u8s pg).toArray.size = 512 := by simp [u8s_length, HPL.out]
  have s0 := sl_all w2.heap.size
  have k2 : w3.cell? ⟨xb, 2, none⟩ = some (.int .u64 (T : Int)) := HX3.out.2 2 (by simp)
  clear hb2 hrow2 hr3 hs3 hb3 HZC q0 q1 q2 HX1 HX2 HB1 HB2
  generalize hCS : (u8s pg).toArray = CS at *
  clear hCS
  go_wp2_with fail
  generalize w2.heap.size = g at *
  have HWR : Hid (∀ W, Below w3.heap.size w3 W → Calls Tryz.prog 30 #[.pointer (some ⟨db, 0, none⟩), .int .i64 (S * 8), .slice (some ⟨g, 0, none⟩) 512 512] W fun e w' => e = .returned .nilIface ∧ ∃ F', V.DevAt w' db F' dn ∧ V.Step F F' W w') := fun W hW => by
    have h := V.write_any base A db F d W ((HDV.out.below HB3.out).below hW) ((HE0.out.up HB3.out).up hW).errs HFB.out (S * 8) (.slice (some ⟨g, 0, none⟩) 512 512) pg ⟨some ⟨g, 0, none⟩, 512, g, by rw [HPL.out], by rw [HPL.out]; decide, by rw [HPL.out]; decide, fun _ => ⟨rfl, fun hf => by have h1 := HNF.out g hf; have h2 := HGE.out; have h3 := HLE.out; omega⟩, (HR3.out.below hW).cell⟩ (by rw [HPL.out, HPN.out.1]; decide) (by rw [HPN.out.2]; exact V.opdone_nil base A db)
    rw [HWM.out] at h
    exact h
  clear hst hLA z512
  go_region_held3 (fun w' => w'.cell? ⟨xb, 2, none⟩ = some (.int .u64 (T : Int))) (first | go_keep | trivial)
    (first
      | (go_at_call 47; refine (HSLOT.out _).mono ?_; rintro e w' ⟨rfl, rfl⟩)
      | (go_at_call 38; refine (HSEC.out _).mono ?_; rintro e w' ⟨rfl, rfl⟩)
      | (go_at_call 30; refine (HWR.out _ ((Below.refl _ _).drew)).mono ?_; rintro e w4 ⟨rfl, F', hd4, hs4d⟩; have HF4 : Hid (∃ F', V.DevAt w4 db F' dn ∧ V.Step F F' w w4) := ⟨F', hd4, (HS0.out.trans (V.Step.of_below (Below.next HB3.out ((Below.refl _ _).drew)))).trans hs4d⟩; have r2 : w4.cell? ⟨xb, 2, none⟩ = some (.int .u64 (T : Int)) := hs4d.cell k2 (fun hf => Nat.lt_irrefl _ (HNF.out _ hf)); clear hd4 hs4d))
  go_wp2_with fail
  go_ret
  exact ⟨rfl, HF4.out⟩

end Go.Proofs.YtlopimdnjookeabGreatDoor

namespace Go.Proofs.YtlopimdnjookeabGreatDoor
open Go.RowKit

/-- What Store does to a device, with its refusal's number. -/
def storeMD (d : V.Dev) (m : Mt) : V.Dev × Nat := if MayM m ∧ m.pages = d.size / 8 then d.write (((m.txid % 2 : Nat) : Int) * 8) (mpage m) else (d, 1)
/-- What Wipe does. -/
def wipeMD (d : V.Dev) (s : Int) : V.Dev × Nat := if (0 ≤ s ∧ s < 2) ∧ PagesOk (d.size / 8) then d.write (s * 8) (List.replicate 512 0) else (d, 1)

set_option maxRecDepth 100000 in
set_option maxHeartbeats 4000000 in
theorem storeMG_any (base : Nat) (A : Nat → Addr) (ac : Addr) (db : Nat) (F : Nat → Prop) (d : V.Dev) (m : Mt) (w : World) (hx : m.txid < 18446744073709551616) (hd : V.DevAt w db F d) (hE : EnvT base A ac w) (hF : ∀ k, F k → base ≤ k)
    (hp : d.pend.length + 1 ≤ 5864062014805) :
    Calls Tryz.prog 18 #[.pointer (some ⟨db, 0, none⟩), .agg m.cells.toArray] w fun e w' => e = .returned (V.errV A (storeMD d m).2) ∧ V.DevPost w db F (storeMD d m).1 w' := by
  have HE := hide hE
  have HD := hide hd
  have HFB := hide hF
  have HNF : Hid (∀ k, F k → k < w.heap.size) := fun k hk => HD.out.lt k hk
  have HMB : Hid (∀ w, Calls Tryz.prog 45 #[.agg m.cells.toArray] w fun e w' => e = .returned (.bool (decide (MayM m))) ∧ Below w.heap.size w w') := fun w => mayBe_any m w
  have HPO : Hid (∀ w, V.DevAt w db F d → Calls Tryz.prog 35 #[.pointer (some ⟨db, 0, none⟩)] w fun e w' => e = .returned (.int .i64 (d.size / 8)) ∧ w = w') := fun w h => pagesOf_any db F d w h
  by_cases hm : MayM m
  · rw [decide_eq_true hm] at HMB
    by_cases hsz : m.pages = d.size / 8
    · have HSD : Hid (storeMD d m = d.write (((m.txid % 2 : Nat) : Int) * 8) (mpage m)) := by show storeMD d m = _; unfold storeMD; rw [if_pos ⟨hm, hsz⟩]
      have HPN := hide hp
      have HBY : Hid (∀ w, Tab w → Calls Tryz.prog 46 #[.agg m.cells.toArray] w fun e w' => e = .returned (.agg (u8s (mpage m)).toArray) ∧ Below w.heap.size w w') := fun w h => bytesOf_any m w hm hx h
      have HPL := hide (mpage_len m)
      obtain ⟨S, hS⟩ : ∃ S : Int, S = ((m.txid % 2 : Nat) : Int) := ⟨_, rfl⟩
      have hS0 : 0 ≤ S := by omega
      have hS1 : S ≤ 1 := by omega
      have HSLOT : Hid (∀ w, Calls Tryz.prog 47 #[.int .u64 (m.txid : Int)] w fun e w' => e = .returned (.int .i64 S) ∧ w = w') := fun w => by rw [hS]; exact slot_any m.txid w hx
      have HSEC : Hid (∀ w, Calls Tryz.prog 38 #[.int .i64 S] w fun e w' => e = .returned (.int .i64 (S * 8)) ∧ w = w') := fun w => sectorOf_any S w hS0 hS1
      rw [← hS] at HSD
      rw [← hsz] at HPO
      obtain ⟨pg, hpg⟩ : ∃ pg, pg = mpage m := ⟨_, rfl⟩
      rw [← hpg] at HBY HPL HSD
      obtain ⟨dn, hdn⟩ : ∃ dn, dn = storeMD d m := ⟨_, rfl⟩
      rw [← hdn] at HSD ⊢
      obtain ⟨zc, hzc, z512⟩ : ∃ zc, zc = (u8s (List.replicate 512 0)).toArray ∧ ∀ w, (zeroValue 87).run Tryz.prog w = .ok (.agg zc) w := ⟨_, rfl, zero512⟩
      have HZC := hide hzc
      clear hpg hdn hm hx hd hE hF hp hsz hS hS0 hS1 hzc
      obtain ⟨P, R, T⟩ := m
      simp only [Mt.cells] at HMB HBY HPO HSLOT ⊢
      have HX := hide (boxed_new w #[.int .i64 P, .int .i64 R, .int .u64 (T : Int)] 32)
      have HB := hide (below_new w (.cells #[.int .i64 P, .int .i64 R, .int .u64 (T : Int)] 32))
      go_enter Tryz.func18, Tryz.ntmps18
      go_wp2_with fail
      generalize w.alloc (.cells #[.int .i64 P, .int .i64 R, .int .u64 (T : Int)] 32) = W0 at *
      have HX0 := HX.out
      have c0 := HX0.2 0 (by simp)
      have c1 := HX0.2 1 (by simp)
      have c2 := HX0.2 2 (by simp)
      simp only [List.getElem_cons_zero, List.getElem_cons_succ] at c0 c1 c2
      have hne : (P != P) = false := by simp
      have HDV := hide (HD.out.below HB.out)
      have HE0 := hide (HE.out.up HB.out)
      have HS0 : Hid (V.Step F F w W0) := V.Step.of_below HB.out
      have HLE : Hid (w.heap.size ≤ W0.heap.size) := HB.out.size
      clear HX0 HB HE HD
      generalize w.heap.size = xb at *
      go_region_held3 (fun w' => w'.cell? ⟨xb, 0, none⟩ = some (.int .i64 P) ∧ w'.cell? ⟨xb, 1, none⟩ = some (.int .i64 R) ∧ w'.cell? ⟨xb, 2, none⟩ = some (.int .u64 (T : Int))) (go_keep)
        (first
          | (go_at_call 45; refine (HMB.out _).mono ?_; rintro e w1 ⟨rfl, hb1d⟩; have hb1 : Below W0.heap.size W0 w1 := ⟨hb1d.os, hb1d.tape, hb1d.output, hb1d.size, hb1d.block⟩; have HB1 := hide hb1; have HX1 := hide (HX.out.below hb1); have q0 : w1.cell? ⟨xb, 0, none⟩ = some (.int .i64 P) := HX1.out.2 0 (by simp); have q1 : w1.cell? ⟨xb, 1, none⟩ = some (.int .i64 R) := HX1.out.2 1 (by simp); have q2 : w1.cell? ⟨xb, 2, none⟩ = some (.int .u64 (T : Int)) := HX1.out.2 2 (by simp); clear hb1 hb1d)
          | (go_at_call 35; refine (HPO.out _ ?_).mono ?_; (exact HDV.out.below HB1.out); rintro e w' ⟨rfl, rfl⟩))
      clear c0 c1 c2
      go_wp2_with fail
      refine (HBY.out _ (HE0.out.up HB1.out).tab).mono ?_
      rintro e w2 ⟨rfl, hb2⟩
      have HB2 := hide (Below.next HB1.out hb2)
      have HX2 := hide (HX1.out.below hb2)
      have hrow2 : RowT 87 (w2.alloc (.cells zc 87)) w2.heap.size (List.replicate 512 0) := by rw [HZC.out]; exact rowT_new _ _ _
      obtain ⟨w3, hst, hr3, hs3⟩ := store512 hrow2 (List.length_replicate ..) HPL.out
      have HR3 := hide hr3
      have hb3 : Below w2.heap.size w2 w3 := hs3.below (below_new w2 _) (Nat.le_refl _)
      have HB3 := hide (Below.next HB2.out hb3)
      have HX3 := hide (HX2.out.below hb3)
      have HGE : Hid (W0.heap.size ≤ w2.heap.size) := HB2.out.size
      have hLA : (u8s pg).toArray.size = 512 := by simp [u8s_length, HPL.out]
      have s0 := sl_all w2.heap.size
      have k2 : w3.cell? ⟨xb, 2, none⟩ = some (.int .u64 (T : Int)) := HX3.out.2 2 (by simp)
      clear hb2 hrow2 hr3 hs3 hb3 HZC q0 q1 q2 HX1 HX2 HB1 HB2
      generalize hCS : (u8s pg).toArray = CS at *
      clear hCS
      go_wp2_with fail
      generalize w2.heap.size = g at *
      obtain ⟨ev, hev⟩ : ∃ ev, ev = V.errV A dn.2 := ⟨_, rfl⟩
      have HEV := hide hev
      have HWR : Hid (∀ W, Below w3.heap.size w3 W → Calls Tryz.prog 30 #[.pointer (some ⟨db, 0, none⟩), .int .i64 (S * 8), .slice (some ⟨g, 0, none⟩) 512 512] W fun e w' => e = .returned ev ∧ V.DevPost W db F dn.1 w') := fun W hW => by
        have h := V.write_any base A db F d W ((HDV.out.below HB3.out).below hW) ((HE0.out.up HB3.out).up hW).errs HFB.out (S * 8) (.slice (some ⟨g, 0, none⟩) 512 512) pg ⟨some ⟨g, 0, none⟩, 512, g, by rw [HPL.out], by rw [HPL.out]; decide, by rw [HPL.out]; decide, fun _ => ⟨rfl, fun hf => by have h1 := HNF.out g hf; have h2 := HGE.out; have h3 := HLE.out; omega⟩, (HR3.out.below hW).cell⟩ (by rw [HPL.out]; exact HPN.out) (V.opdone_any base A db d.arms)
        rw [HEV.out, HSD.out]
        exact h
      clear hst hLA z512 hev
      go_region_held3 (fun w' => w'.cell? ⟨xb, 2, none⟩ = some (.int .u64 (T : Int))) (first | go_keep | trivial)
        (first
          | (go_at_call 47; refine (HSLOT.out _).mono ?_; rintro e w' ⟨rfl, rfl⟩)
          | (go_at_call 38; refine (HSEC.out _).mono ?_; rintro e w' ⟨rfl, rfl⟩)
          | (go_at_call 30; refine (HWR.out _ ((Below.refl _ _).drew)).mono ?_; rintro e w4 ⟨rfl, F', hd4, hs4d⟩; have HF4 : Hid (V.DevPost w db F dn.1 w4) := ⟨F', hd4, (HS0.out.trans (V.Step.of_below (Below.next HB3.out ((Below.refl _ _).drew)))).trans hs4d⟩; have r2 : w4.cell? ⟨xb, 2, none⟩ = some (.int .u64 (T : Int)) := hs4d.cell k2 (fun hf => Nat.lt_irrefl _ (HNF.out _ hf)); clear hd4 hs4d))
      go_wp2_with fail
      go_ret
      obtain rfl := HEV.out
      exact ⟨rfl, HF4.out⟩
    · have HSD : Hid (storeMD d m = (d, 1)) := by show storeMD d m = _; unfold storeMD; rw [if_neg (fun h => hsz h.2)]
      have HNE : Hid (m.pages ≠ d.size / 8) := hsz
      clear hm hx hd hE hF hp hsz
      obtain ⟨P, R, T⟩ := m
      simp only [Mt.cells] at HMB HNE ⊢
      have HX := hide (boxed_new w #[.int .i64 P, .int .i64 R, .int .u64 (T : Int)] 32)
      have HB := hide (below_new w (.cells #[.int .i64 P, .int .i64 R, .int .u64 (T : Int)] 32))
      obtain ⟨Q, hQ⟩ : ∃ Q, Q = d.size / 8 := ⟨_, rfl⟩
      rw [← hQ] at HPO HNE
      have hne : (P != Q) = true := by simpa using HNE.out
      clear hQ
      go_enter Tryz.func18, Tryz.ntmps18
      go_wp2_with fail
      generalize w.alloc (.cells #[.int .i64 P, .int .i64 R, .int .u64 (T : Int)] 32) = W0 at *
      have HX0 := HX.out
      have c0 := HX0.2 0 (by simp)
      have c1 := HX0.2 1 (by simp)
      have c2 := HX0.2 2 (by simp)
      simp only [List.getElem_cons_zero, List.getElem_cons_succ] at c0 c1 c2
      have HDV := hide (HD.out.below HB.out)
      have HE0 := hide (HE.out.up HB.out)
      have HB0 := HB
      clear HX0 HB HE
      go_region_held3 (fun w' => w'.cell? ⟨w.heap.size, 0, none⟩ = some (.int .i64 P) ∧ w'.cell? ⟨w.heap.size, 1, none⟩ = some (.int .i64 R) ∧ w'.cell? ⟨w.heap.size, 2, none⟩ = some (.int .u64 (T : Int))) (go_keep)
        (first
          | (go_at_call 45; refine (HMB.out _).mono ?_; rintro e w1 ⟨rfl, hb1d⟩; have hb1 : Below W0.heap.size W0 w1 := ⟨hb1d.os, hb1d.tape, hb1d.output, hb1d.size, hb1d.block⟩; have HB1 := hide hb1; have HX1 := hide (HX.out.below hb1); have q0 : w1.cell? ⟨w.heap.size, 0, none⟩ = some (.int .i64 P) := HX1.out.2 0 (by simp); have q1 : w1.cell? ⟨w.heap.size, 1, none⟩ = some (.int .i64 R) := HX1.out.2 1 (by simp); have q2 : w1.cell? ⟨w.heap.size, 2, none⟩ = some (.int .u64 (T : Int)) := HX1.out.2 2 (by simp); clear hb1 hb1d)
          | (go_at_call 35; refine (HPO.out _ ?_).mono ?_; (exact HDV.out.below HB1.out); rintro e w' ⟨rfl, rfl⟩))
      have cE : w1.cell? ⟨1, 0, none⟩ = some (.iface 153 (.pointer (some (A 0)))) := (HE0.out.up HB1.out).errs.arg
      clear c0 c1 c2 q0 q1 q2
      go_wp2_with fail
      go_ret
      rw [HSD.out]
      exact ⟨rfl, F, HDV.out.below HB1.out, V.Step.of_below (Below.next HB0.out HB1.out)⟩
  · rw [decide_eq_false hm] at HMB
    have HSD : Hid (storeMD d m = (d, 1)) := by show storeMD d m = _; unfold storeMD; rw [if_neg (fun h => hm h.1)]
    clear hm hx hd hE hF hp
    obtain ⟨P, R, T⟩ := m
    simp only [Mt.cells] at HMB ⊢
    have HX := hide (boxed_new w #[.int .i64 P, .int .i64 R, .int .u64 (T : Int)] 32)
    have HB := hide (below_new w (.cells #[.int .i64 P, .int .i64 R, .int .u64 (T : Int)] 32))
    go_enter Tryz.func18, Tryz.ntmps18
    go_wp2_with fail
    generalize w.alloc (.cells #[.int .i64 P, .int .i64 R, .int .u64 (T : Int)] 32) = W0 at *
    have HX0 := HX.out
    have c0 := HX0.2 0 (by simp)
    have c1 := HX0.2 1 (by simp)
    have c2 := HX0.2 2 (by simp)
    simp only [List.getElem_cons_zero, List.getElem_cons_succ] at c0 c1 c2
    have HDV := hide (HD.out.below HB.out)
    have HE0 := hide (HE.out.up HB.out)
    have HB0 := HB
    clear HX0 HB HE
    first
      | (go_region_with (go_at_call 45; refine (HMB.out _).mono ?_; rintro e w1 ⟨rfl, hb1d⟩; have hb1 : Below W0.heap.size W0 w1 := (by first | exact hb1d | exact ⟨hb1d.os, hb1d.tape, hb1d.output, hb1d.size, hb1d.block⟩); have HB1 := hide hb1; have cE : w1.cell? ⟨1, 0, none⟩ = some (.iface 153 (.pointer (some (A 0)))) := (HE0.out.up HB1.out).errs.arg; clear hb1 hb1d))
      | fail
    all_goals
      go_wp2_with fail
      go_ret
      rw [HSD.out]
      first
        | exact ⟨rfl, F, HDV.out.below HB1.out, V.Step.of_below (Below.next HB0.out HB1.out)⟩
        | exact ⟨rfl, F, HDV.out.below HB1.out.drew, V.Step.of_below (Below.next HB0.out HB1.out.drew)⟩

set_option maxRecDepth 100000 in
set_option maxHeartbeats 4000000 in
theorem wipeMG_any (base : Nat) (A : Nat → Addr) (ac : Addr) (db : Nat) (F : Nat → Prop) (d : V.Dev) (s : Int) (w : World) (hd : V.DevAt w db F d) (hE : EnvT base A ac w) (hF : ∀ k, F k → base ≤ k)
    (hp : d.pend.length + 1 ≤ 5864062014805) :
    Calls Tryz.prog 20 #[.pointer (some ⟨db, 0, none⟩), .int .i64 s] w fun e w' => e = .returned (V.errV A (wipeMD d s).2) ∧ V.DevPost w db F (wipeMD d s).1 w' := by
  have HE := hide hE
  have HD := hide hd
  have HFB := hide hF
  have HIS : Hid (∀ w, Calls Tryz.prog 50 #[.int .i64 s] w fun e w' => e = .returned (.bool (decide (0 ≤ s ∧ s < 2))) ∧ w = w') := fun w => isSlot_any s w
  have HPO : Hid (∀ w, V.DevAt w db F d → Calls Tryz.prog 35 #[.pointer (some ⟨db, 0, none⟩)] w fun e w' => e = .returned (.int .i64 (d.size / 8)) ∧ w = w') := fun w h => pagesOf_any db F d w h
  have HPM : Hid (∀ w, Calls Tryz.prog 36 #[.int .i64 (d.size / 8)] w fun e w' => e = .returned (.bool (decide (PagesOk (d.size / 8)))) ∧ w = w') := fun w => pmay_any _ w
  have cE : w.cell? ⟨1, 0, none⟩ = some (.iface 153 (.pointer (some (A 0)))) := hE.errs.arg
  by_cases hs : 0 ≤ s ∧ s < 2
  · rw [decide_eq_true hs] at HIS
    by_cases hpo : PagesOk (d.size / 8)
    · rw [decide_eq_true hpo] at HPM
      have HWD : Hid (wipeMD d s = d.write (s * 8) (List.replicate 512 0)) := by show wipeMD d s = _; unfold wipeMD; rw [if_pos ⟨hs, hpo⟩]
      have HPN := hide hp
      obtain ⟨dn, hdn⟩ : ∃ dn, dn = wipeMD d s := ⟨_, rfl⟩
      rw [← hdn] at HWD ⊢
      obtain ⟨zc, hzc, z512⟩ : ∃ zc, zc = (u8s (List.replicate 512 0)).toArray ∧ ∀ w, (zeroValue 87).run Tryz.prog w = .ok (.agg zc) w := ⟨_, rfl, zero512⟩
      have hrow2 : RowT 87 (w.alloc (.cells zc 87)) w.heap.size (List.replicate 512 0) := by rw [hzc]; exact rowT_new _ _ _
      have HROW := hide hrow2
      have HB := hide (below_new w (.cells zc 87))
      have hS0 : 0 ≤ s := hs.1
      have hS1 : s ≤ 1 := by omega
      have HSEC : Hid (∀ w, Calls Tryz.prog 38 #[.int .i64 s] w fun e w' => e = .returned (.int .i64 (s * 8)) ∧ w = w') := fun w => sectorOf_any s w hS0 hS1
      have HNF : Hid (∀ k, F k → k < w.heap.size) := fun k hk => HD.out.lt k hk
      obtain ⟨ev, hev⟩ : ∃ ev, ev = V.errV A dn.2 := ⟨_, rfl⟩
      have HEV := hide hev
      have HWR : Hid (∀ W, Below (w.alloc (.cells zc 87)).heap.size (w.alloc (.cells zc 87)) W → Calls Tryz.prog 30 #[.pointer (some ⟨db, 0, none⟩), .int .i64 (s * 8), .slice (some ⟨w.heap.size, 0, none⟩) 512 512] W fun e w' => e = .returned ev ∧ V.DevPost W db F dn.1 w') := fun W hW => by
        have h := V.write_any base A db F d W ((HD.out.below HB.out).below hW) ((HE.out.up HB.out).up hW).errs HFB.out (s * 8) (.slice (some ⟨w.heap.size, 0, none⟩) 512 512) (List.replicate 512 0) ⟨some ⟨w.heap.size, 0, none⟩, 512, w.heap.size, by rw [List.length_replicate], by rw [List.length_replicate]; decide, by rw [List.length_replicate]; decide, fun _ => ⟨rfl, fun hf => by have h1 := HNF.out _ hf; omega⟩, (HROW.out.below hW).cell⟩ (by rw [List.length_replicate]; exact HPN.out) (V.opdone_any base A db d.arms)
        rw [HEV.out, HWD.out]
        exact h
      have HS0 : Hid (V.Step F F w (w.alloc (.cells zc 87))) := V.Step.of_below HB.out
      have s0 := sl_all w.heap.size
      clear hd hE hF hp hs hpo hdn hzc hrow2 hS0 hS1 hev
      obtain ⟨Q, hQ⟩ : ∃ Q, Q = d.size / 8 := ⟨_, rfl⟩
      rw [← hQ] at HPO HPM
      clear hQ
      go_enter Tryz.func20, Tryz.ntmps20
      go_wp2_with fail
      refine (HIS.out _).mono ?_
      rintro e w' ⟨rfl, rfl⟩
      go_wp2_with fail
      refine (HPO.out _ HD.out).mono ?_
      rintro e w' ⟨rfl, rfl⟩
      go_wp2_with fail
      refine (HPM.out _).mono ?_
      rintro e w' ⟨rfl, rfl⟩
      go_wp2_with fail
      generalize w.alloc (.cells zc 87) = W1 at *
      generalize w.heap.size = g at *
      go_region_held3 (fun w' => True) (first | go_keep | trivial)
        (first
          | (go_at_call 38; refine (HSEC.out _).mono ?_; rintro e w' ⟨rfl, rfl⟩)
          | (go_at_call 30; refine (HWR.out _ ((Below.refl _ _).drew)).mono ?_; rintro e w4 ⟨rfl, F', hd4, hs4d⟩; have HF4 : Hid (V.DevPost w db F dn.1 w4) := ⟨F', hd4, (HS0.out.trans (V.Step.of_below ((Below.refl _ _).drew))).trans hs4d⟩; clear hd4 hs4d))
      go_wp2_with fail
      go_ret
      obtain rfl := HEV.out
      exact ⟨rfl, HF4.out⟩
    · rw [decide_eq_false hpo] at HPM
      have HWD : Hid (wipeMD d s = (d, 1)) := by show wipeMD d s = _; unfold wipeMD; rw [if_neg (fun h => hpo h.2)]
      clear hd hE hF hp hs hpo
      obtain ⟨Q, hQ⟩ : ∃ Q, Q = d.size / 8 := ⟨_, rfl⟩
      rw [← hQ] at HPO HPM
      clear hQ
      go_enter Tryz.func20, Tryz.ntmps20
      go_wp2_with fail
      refine (HIS.out _).mono ?_
      rintro e w' ⟨rfl, rfl⟩
      go_wp2_with fail
      refine (HPO.out _ HD.out).mono ?_
      rintro e w' ⟨rfl, rfl⟩
      go_wp2_with fail
      refine (HPM.out _).mono ?_
      rintro e w' ⟨rfl, rfl⟩
      go_wp2_with fail
      go_ret
      rw [HWD.out]
      exact ⟨rfl, F, HD.out, V.Step.refl _ _⟩
  · rw [decide_eq_false hs] at HIS
    have HWD : Hid (wipeMD d s = (d, 1)) := by show wipeMD d s = _; unfold wipeMD; rw [if_neg (fun h => hs h.1)]
    clear hd hE hF hp hs HPO HPM
    go_enter Tryz.func20, Tryz.ntmps20
    go_wp2_with fail
    refine (HIS.out _).mono ?_
    rintro e w' ⟨rfl, rfl⟩
    go_wp2_with fail
    go_ret
    rw [HWD.out]
    exact ⟨rfl, F, HD.out, V.Step.refl _ _⟩

end Go.Proofs.YtlopimdnjookeabGreatDoor
