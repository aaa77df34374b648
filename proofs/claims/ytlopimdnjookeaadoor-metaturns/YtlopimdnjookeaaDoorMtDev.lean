import Derived.Test.YtlopimdnjookeaaDoorVCrash
import Derived.Test.YtlopimdnjookeaaDoorVLast
import Derived.Test.YtlopimdnjookeaaDoorMtChoose
import Derived.Test.YtlopimdnjookeaaDoorMtEnc
namespace Go.Proofs.YtlopimdnjookeaaDoor
open Go.RowKit

/-- What a call over a device finds: the refusals, the table, all below base. -/
structure EnvT (base : Nat) (A : Nat → Addr) (ac : Addr) (w : World) : Prop where
  errs : V.ErrsB base A w
  corr : w.cell? ⟨2, 0, none⟩ = some (.iface 108 (.pointer (some ac)))
  lo : 2 < base ∧ 13 < base
  tab : Tab w
theorem EnvT.keep {base : Nat} {A : Nat → Addr} {ac : Addr} {w w' : World} (h : EnvT base A ac w) (hb : Below base w w') : EnvT base A ac w' := by
  obtain ⟨he, ht, ⟨l1, l3⟩, hT⟩ := h
  exact ⟨he.keep hb, (hb.cell l1).trans ht, ⟨l1, l3⟩, ⟨fun j hj => (hb.cell (p := ⟨13, j, none⟩) l3).trans (hT.1 j hj), Nat.lt_of_lt_of_le hT.2 hb.size⟩⟩
theorem EnvT.up {base : Nat} {A : Nat → Addr} {ac : Addr} {w w' : World} (h : EnvT base A ac w) (hb : Below w.heap.size w w') : EnvT base A ac w' := h.keep (hb.mono h.errs.size)
theorem EnvT.step {base : Nat} {A : Nat → Addr} {ac : Addr} {w w' : World} {F F' : Nat → Prop} (h : EnvT base A ac w) (hs : V.Step F F' w w') (hF : ∀ k, F k → base ≤ k) : EnvT base A ac w' := h.keep (hs.below hF h.errs.size)

set_option maxHeartbeats 400000 in
theorem sectorOf_any (i : Int) (w : World) (h1 : 0 ≤ i) (h2 : i ≤ 1) : Calls Tryd.prog 31 #[.int .i64 i] w fun e w' => e = .returned (.int .i64 (i * 8)) ∧ w = w' := by
  go_enter Tryd.func31, Tryd.ntmps31
  go_wp2
  go_ret
  exact ⟨rfl, rfl⟩

set_option maxHeartbeats 400000 in
theorem pagesOf_any (b : Nat) (F : Nat → Prop) (d : V.Dev) (w : World) (h : V.DevAt w b F d) :
    Calls Tryd.prog 28 #[.pointer (some ⟨b, 0, none⟩)] w fun e w' => e = .returned (.int .i64 (d.size / 8)) ∧ w = w' := by
  have h0 := h.ok.s0
  have h1 := h.ok.s1
  have HS := hide (V.size_any b F d w h)
  have hq : d.size.tdiv 8 = d.size / 8 := Int.tdiv_eq_ediv_of_nonneg h0
  clear h
  generalize d.size = sz at *
  go_enter Tryd.func28, Tryd.ntmps28
  go_wp2_with fail
  refine Calls.mono HS.out ?_
  rintro e w' ⟨rfl, rfl⟩
  go_wp2_with fail
  go_ret
  refine ⟨?_, rfl⟩
  first
    | rfl
    | (simp [hq])

/-- The device behind a read of one sector. -/
def readD (d : V.Dev) : V.Dev := { d with nr := wrap64 (d.nr + 1) }
theorem readD_B (d : V.Dev) (s : Int) (n : Nat) : V.readB (readD d) s n = V.readB d s n := rfl
theorem read_one (d : V.Dev) (s : Int) (hd : d.dead = false) (h0 : 0 ≤ s) (h1 : s + 1 ≤ d.size) : d.read s 1 = (readD d, V.readB d s 1, 0) := by
  have hf : d.fits s 1 = true := decide_eq_true ⟨h0, by decide, by omega⟩
  obtain ⟨sz, dur, pend, arms, dead, nr, nw, ns⟩ := d
  simp only at hd
  subst hd
  unfold V.Dev.read
  rw [hf]
  rfl

set_option maxRecDepth 100000 in
set_option maxHeartbeats 2000000 in
theorem load_any (base : Nat) (A : Nat → Addr) (ac : Addr) (db : Nat) (F : Nat → Prop) (d : V.Dev) (w : World) (hd : V.DevAt w db F d) (hE : EnvT base A ac w) (hF : ∀ k, F k → base ≤ k)
    (hdd : d.dead = false) (hpg : PagesOk (d.size / 8)) (m : Mt) (hla : (V.readB d 0 1).length = 512) (hlb : (V.readB d 8 1).length = 512) (hch : choV (A 0) ac (V.readB d 0 1) (V.readB d 8 1) (d.size / 8) = #[.agg m.cells.toArray, .nilIface]) :
    Calls Tryd.prog 13 #[.pointer (some ⟨db, 0, none⟩)] w fun e w' => e = .returned (.tuple #[.agg m.cells.toArray, .nilIface]) ∧ V.DevAt w' db F (readD (readD d)) ∧ V.Step F F w w' := by
  have HR1 := hide (read_one d 0 hdd (by decide) (by have := hpg.1; omega))
  have HR2 := hide (read_one (readD d) 8 hdd (by decide) (by show (8 : Int) + 1 ≤ d.size; have := hpg.1; omega))
  have HE := hide hE
  have HD := hide hd
  have HFB := hide hF
  have HLA := hide hla
  have HLB := hide hlb
  have HCH := hide hch
  have hp1 := hpg.1
  have HB := hide (below_new w (.cells #[.int .i64 0, .int .i64 0, .int .u64 0] 31))
  have HZ0 : Hid ((w.alloc (.cells #[.int .i64 0, .int .i64 0, .int .u64 0] 31)).heap[w.heap.size]? = some (.cells #[.int .i64 0, .int .i64 0, .int .u64 0] 31 (0, 0))) := heap_alloc_new w _
  have HSZ : Hid (w.heap.size < (w.alloc (.cells #[.int .i64 0, .int .i64 0, .int .u64 0] 31)).heap.size) := by show _ < _; simp
  have HPM : Hid (∀ w, Calls Tryd.prog 35 #[.int .i64 (d.size / 8)] w fun e w' => e = .returned (.bool true) ∧ w = w') := fun w => by
    have h := pmay_any (d.size / 8) w
    rw [decide_eq_true hpg] at h
    exact h
  obtain ⟨pgs, hpgs⟩ : ∃ pgs, d.size / 8 = pgs := ⟨_, rfl⟩
  have HPO : Hid (∀ w, V.DevAt w db F d → Calls Tryd.prog 28 #[.pointer (some ⟨db, 0, none⟩)] w fun e w' => e = .returned (.int .i64 pgs) ∧ w = w') := fun w h => by
    rw [← hpgs]; exact pagesOf_any db F d w h
  rw [hpgs] at HPM HCH
  obtain ⟨P, R, T⟩ := m
  simp only [Mt.cells] at HCH ⊢
  clear hE hd hF hdd hpg hla hlb hch hpgs hp1
  go_enter Tryd.func13, Tryd.ntmps13
  go_wp2_with fail
  generalize w.alloc (.cells #[.int .i64 0, .int .i64 0, .int .u64 0] 31) = W0 at *
  refine (HPO.out _ (HD.out.below HB.out)).mono ?_
  rintro e w' ⟨rfl, rfl⟩
  go_wp2_with fail
  refine (HPM.out _).mono ?_
  rintro e w' ⟨rfl, rfl⟩
  go_wp2_with fail
  refine (sectorOf_any 0 _ (by decide) (by decide)).mono ?_
  rintro e w' ⟨rfl, rfl⟩
  have HDV := hide (HD.out.below HB.out)
  have R1 := V.read_any base A db F d W0 HDV.out (HE.out.up HB.out).errs 0 1 (by decide)
  rw [HR1.out] at R1
  have HRD1 : Hid (Calls Tryd.prog 36 #[.pointer (some ⟨db, 0, none⟩), .int .i64 0, .int .i64 1] W0 fun e w' => ∃ v, e = .returned (.tuple #[v, .nilIface]) ∧ w'.ownsRow W0.heap.size 5 1 v (V.readB d 0 1).length (u8s (V.readB d 0 1)) ∧ V.DevAt w' db F (readD d) ∧ V.Step F F W0 w') := Calls.mono R1 (fun e w' ⟨v, h⟩ => ⟨v, h.ret, h.row, h.dev, h.step⟩)
  clear R1
  go_wp2_with fail
  refine Calls.mono HRD1.out ?_
  rintro e w1 ⟨v1, rfl, hrow1, hdev1, hst1⟩
  rw [HLA.out] at hrow1
  obtain ⟨g1, c1, rfl, _, _⟩ := hrow1.form (by decide)
  have HRO1 := hide hrow1
  have HD1 := hide hdev1
  have HS1 := hide hst1
  clear hrow1 hdev1 hst1 HRD1
  go_wp2_with fail
  refine (sectorOf_any 1 _ (by decide) (by decide)).mono ?_
  rintro e w' ⟨rfl, rfl⟩
  have R2 := V.read_any base A db F (readD d) w1 HD1.out ((HE.out.up HB.out).step HS1.out HFB.out).errs 8 1 (by decide)
  rw [HR2.out] at R2
  have HRD2 : Hid (Calls Tryd.prog 36 #[.pointer (some ⟨db, 0, none⟩), .int .i64 8, .int .i64 1] w1 fun e w' => ∃ v, e = .returned (.tuple #[v, .nilIface]) ∧ w'.ownsRow w1.heap.size 5 1 v (V.readB d 8 1).length (u8s (V.readB d 8 1)) ∧ V.DevAt w' db F (readD (readD d)) ∧ V.Step F F w1 w') := Calls.mono R2 (fun e w' ⟨v, h⟩ => ⟨v, h.ret, h.row, h.dev, h.step⟩)
  clear R2
  go_wp2_with fail
  refine Calls.mono HRD2.out ?_
  rintro e w2 ⟨v2, rfl, hrow2, hdev2, hst2⟩
  rw [HLB.out] at hrow2
  obtain ⟨g2, c2, rfl, _, _⟩ := hrow2.form (by decide)
  have HRB := hide (rd_of_owns hrow2).any
  have hown1 := V.owns_step HRO1.out hst2 (fun q hq hf => by
    have h1 := (V.owns_blk HRO1.out q hq).1
    have h2 := HD.out.lt q hf
    have h3 := HB.out.size
    omega)
  have HRA := hide (rd_of_owns hown1).any
  have HD2 := hide hdev2
  have hst := HS1.out.trans hst2
  have HE2 := hide ((HE.out.up HB.out).step hst HFB.out)
  have HZ2 : Hid (w2.heap[w.heap.size]? = some (.cells #[.int .i64 0, .int .i64 0, .int .u64 0] 31 (0, 0))) := by
    show _ = _
    rw [hst.block w.heap.size HSZ.out (fun hf => by have := HD.out.lt _ hf; omega)]; exact HZ0.out
  have HS2 := hide hst
  have HLT2 : Hid (w.heap.size < w2.heap.size) := Nat.lt_of_lt_of_le HSZ.out hst.size
  clear hrow2 hdev2 hst2 hown1 hst HRD2
  go_wp2_with fail
  refine (choose_any (A 0) ac _ _ (V.readB d 0 1) (V.readB d 8 1) pgs _ HRA.out HRB.out (by rw [HLA.out]; decide) (by rw [HLB.out]; decide) HE2.out.tab HE2.out.errs.arg HE2.out.corr).mono ?_
  rintro e w3 ⟨rfl, hb3⟩
  rw [HCH.out]
  have hz3 := (hb3.block _ HLT2.out).trans HZ2.out
  obtain ⟨z0, z1, z2, y0, y1, y2⟩ := zero_cells hz3
  have HZ3 := hide hz3
  have HD3 := hide (HD2.out.below hb3)
  have HS3 : Hid (V.Step F F w w3) := ((V.Step.of_below HB.out).trans HS2.out).trans (V.Step.of_below hb3)
  clear hb3 hz3
  go_wp2_with fail
  have h3 : V.Step (fun k => k = w.heap.size) (fun k => k = w.heap.size) w3 (((w3.setCell ⟨w.heap.size, 0, none⟩ (.int .i64 P)).setCell ⟨w.heap.size, 1, none⟩ (.int .i64 R)).setCell ⟨w.heap.size, 2, none⟩ (.int .u64 (T : Int))) := by
    have hs := ((Sole.set w.heap.size 0 w3 (.int .i64 P)).trans (Sole.set w.heap.size 1 _ (.int .i64 R))).trans (Sole.set w.heap.size 2 _ (.int .u64 (T : Int)))
    exact ⟨hs.os, hs.tape, hs.output, hs.size, hs.block, fun k h => .inl h⟩
  refine bodyPost_ret (results_row_tmp rfl _ _ w.heap.size 31 #[.int .i64 P, .int .i64 R, .int .u64 (T : Int)] (0, 0) _ rfl (set_three HZ3.out) Tryd.underlying31 rfl (by kernel_rfl)) rfl ⟨rfl, HD3.out.keep h3 (fun k hk e => by have := HD.out.lt k hk; omega), ?_⟩
  exact ⟨h3.os.trans HS3.out.os, h3.tape.trans HS3.out.tape, h3.output.trans HS3.out.output, Nat.le_trans HS3.out.size h3.size, fun q hq hn => (h3.block q (Nat.lt_of_lt_of_le hq HS3.out.size) (by omega)).trans (HS3.out.block q hq hn), fun q hq => HS3.out.sub q hq⟩

end Go.Proofs.YtlopimdnjookeaaDoor
