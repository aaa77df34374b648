import Derived.Test.YtlopimdnjookeabGreatDoorB4
import Derived.Test.YtlopimdnjookeabGreatDoorRMStore
import Derived.Test.YtlopimdnjookeabGreatDoorB6
namespace Go.Proofs.YtlopimdnjookeabGreatDoor
open Go.RowKit

def zM0 : Mt := ⟨0, 0, 0⟩
/-- What Choose answers, as data. -/
def choM (la lb : List UInt8) (pages : Int) : Mt × Nat :=
  if okM la pages 0 ∧ (¬ okM lb pages 1 ∨ (parseM lb).txid < (parseM la).txid) then (parseM la, 0) else if okM lb pages 1 then (parseM lb, 0) else (zM0, 9)
theorem choV_cells (A : Nat → Addr) (la lb : List UInt8) (pages : Int) (h : PagesOk pages) : choV (A 0) (A 8) la lb pages = #[.agg (choM la lb pages).1.cells.toArray, V.errV A (choM la lb pages).2] := by
  unfold choV choM
  rw [if_neg (fun h' => h' h)]
  split
  · rfl
  · split <;> rfl
/-- What Load does to a device, its meta and its refusal's number. -/
def loadMR (d : V.Dev) : V.Dev × Mt × Nat :=
  if PagesOk (d.size / 8) then if d.dead then (d, zM0, 8) else (readD (readD d), choM (V.readB d 0 1) (V.readB d 8 1) (d.size / 8)) else (d, zM0, 9)
theorem read_dead (d : V.Dev) (s n : Int) (h : d.dead = true) : d.read s n = (d, [], 8) := by unfold V.Dev.read; rw [h]; rfl
theorem threeD_keep {w w3 : World} {b : Nat} {F : Nat → Prop} {d : V.Dev} {u0 u1 u2 : Value} (h : V.DevAt w3 b F d) (hs : V.Step F F w w3) (hF : ∀ k, F k → k < w.heap.size) :
    V.DevAt (((w3.setCell ⟨w.heap.size, 0, none⟩ u0).setCell ⟨w.heap.size, 1, none⟩ u1).setCell ⟨w.heap.size, 2, none⟩ u2) b F d ∧ V.Step F F w (((w3.setCell ⟨w.heap.size, 0, none⟩ u0).setCell ⟨w.heap.size, 1, none⟩ u1).setCell ⟨w.heap.size, 2, none⟩ u2) := by
  have hs' := ((Sole.set w.heap.size 0 w3 u0).trans (Sole.set w.heap.size 1 _ u1)).trans (Sole.set w.heap.size 2 _ u2)
  have h3 : V.Step (fun k => k = w.heap.size) (fun k => k = w.heap.size) w3 (((w3.setCell ⟨w.heap.size, 0, none⟩ u0).setCell ⟨w.heap.size, 1, none⟩ u1).setCell ⟨w.heap.size, 2, none⟩ u2) := ⟨hs'.os, hs'.tape, hs'.output, hs'.size, hs'.block, fun k h => .inl h⟩
  exact ⟨h.keep h3 (fun k hk e => by have := hF k hk; omega), h3.os.trans hs.os, h3.tape.trans hs.tape, h3.output.trans hs.output, Nat.le_trans hs.size h3.size, fun q hq hn => (h3.block q (Nat.lt_of_lt_of_le hq hs.size) (by omega)).trans (hs.block q hq hn), fun q hq => hs.sub q hq⟩

set_option maxRecDepth 100000 in
set_option maxHeartbeats 2000000 in
theorem loadM_live (base : Nat) (A : Nat → Addr) (ac : Addr) (db : Nat) (F : Nat → Prop) (d : V.Dev) (w : World) (hd : V.DevAt w db F d) (hE : EnvT base A ac w) (hF : ∀ k, F k → base ≤ k)
    (hdd : d.dead = false) (hpg : PagesOk (d.size / 8)) (m : Mt) (er : Value) (hla : (V.readB d 0 1).length = 512) (hlb : (V.readB d 8 1).length = 512) (hch : choV (A 0) ac (V.readB d 0 1) (V.readB d 8 1) (d.size / 8) = #[.agg m.cells.toArray, er]) :
    Calls Tryz.prog 15 #[.pointer (some ⟨db, 0, none⟩)] w fun e w' => e = .returned (.tuple #[.agg m.cells.toArray, er]) ∧ V.DevAt w' db F (readD (readD d)) ∧ V.Step F F w w' := by
  have HR1 := hide (read_one d 0 hdd (by decide) (by have := hpg.1; omega))
  have HR2 := hide (read_one (readD d) 8 hdd (by decide) (by show (8 : Int) + 1 ≤ d.size; have := hpg.1; omega))
  have HE := hide hE
  have HD := hide hd
  have HFB := hide hF
  have HLA := hide hla
  have HLB := hide hlb
  have HCH := hide hch
  have hp1 := hpg.1
  have HB := hide (below_new w (.cells #[.int .i64 0, .int .i64 0, .int .u64 0] 32))
  have HZ0 : Hid ((w.alloc (.cells #[.int .i64 0, .int .i64 0, .int .u64 0] 32)).heap[w.heap.size]? = some (.cells #[.int .i64 0, .int .i64 0, .int .u64 0] 32 (0, 0))) := heap_alloc_new w _
  have HSZ : Hid (w.heap.size < (w.alloc (.cells #[.int .i64 0, .int .i64 0, .int .u64 0] 32)).heap.size) := by show _ < _; simp
  have HPM : Hid (∀ w, Calls Tryz.prog 36 #[.int .i64 (d.size / 8)] w fun e w' => e = .returned (.bool true) ∧ w = w') := fun w => by
    have h := pmay_any (d.size / 8) w
    rw [decide_eq_true hpg] at h
    exact h
  obtain ⟨pgs, hpgs⟩ : ∃ pgs, d.size / 8 = pgs := ⟨_, rfl⟩
  have HPO : Hid (∀ w, V.DevAt w db F d → Calls Tryz.prog 35 #[.pointer (some ⟨db, 0, none⟩)] w fun e w' => e = .returned (.int .i64 pgs) ∧ w = w') := fun w h => by
    rw [← hpgs]; exact pagesOf_any db F d w h
  rw [hpgs] at HPM HCH
  obtain ⟨P, R, T⟩ := m
  simp only [Mt.cells] at HCH ⊢
  clear hE hd hF hdd hpg hla hlb hch hpgs hp1
  go_enter Tryz.func15, Tryz.ntmps15
  go_wp2_with fail
  generalize w.alloc (.cells #[.int .i64 0, .int .i64 0, .int .u64 0] 32) = W0 at *
  refine (HPO.out _ (HD.out.below HB.out)).mono ?_
  rintro e w' ⟨rfl, rfl⟩
  go_wp2_with fail
  refine (HPM.out _).mono ?_
  rintro e w' ⟨rfl, rfl⟩
  go_wp2_with fail
  refine (sectorOf_any 0 _ (by decide) (by decide)).mono ?_
  rintro e w' ⟨rfl, rfl⟩
  have HDV := hide (HD.out.below HB.out)
  have R1 := V.read_any base A db F d W0 HDV.out (HE.out.up HB.out).errs 0 1 (by decide)
  rw [HR1.out] at R1
  have HRD1 : Hid (Calls Tryz.prog 37 #[.pointer (some ⟨db, 0, none⟩), .int .i64 0, .int .i64 1] W0 fun e w' => ∃ v, e = .returned (.tuple #[v, .nilIface]) ∧ w'.ownsRow W0.heap.size 5 1 v (V.readB d 0 1).length (u8s (V.readB d 0 1)) ∧ V.DevAt w' db F (readD d) ∧ V.Step F F W0 w') := Calls.mono R1 (fun e w' ⟨v, h⟩ => ⟨v, h.ret, h.row, h.dev, h.step⟩)
  clear R1
  go_wp2_with fail
  refine Calls.mono HRD1.out ?_
  rintro e w1 ⟨v1, rfl, hrow1, hdev1, hst1⟩
  rw [HLA.out] at hrow1
  obtain ⟨g1, c1, rfl, _, _⟩ := hrow1.form (by decide)
  have HRO1 := hide hrow1
  have HD1 := hide hdev1
  have HS1 := hide hst1
  clear hrow1 hdev1 hst1 HRD1
  go_wp2_with fail
  refine (sectorOf_any 1 _ (by decide) (by decide)).mono ?_
  rintro e w' ⟨rfl, rfl⟩
  have R2 := V.read_any base A db F (readD d) w1 HD1.out ((HE.out.up HB.out).step HS1.out HFB.out).errs 8 1 (by decide)
  rw [HR2.out] at R2
  have HRD2 : Hid (Calls Tryz.prog 37 #[.pointer (some ⟨db, 0, none⟩), .int .i64 8, .int .i64 1] w1 fun e w' => ∃ v, e = .returned (.tuple #[v, .nilIface]) ∧ w'.ownsRow w1.heap.size 5 1 v (V.readB d 8 1).length (u8s (V.readB d 8 1)) ∧ V.DevAt w' db F (readD (readD d)) ∧ V.Step F F w1 w') := Calls.mono R2 (fun e w' ⟨v, h⟩ => ⟨v, h.ret, h.row, h.dev, h.step⟩)
  clear R2
  go_wp2_with fail
  refine Calls.mono HRD2.out ?_
  rintro e w2 ⟨v2, rfl, hrow2, hdev2, hst2⟩
  rw [HLB.out] at hrow2
  obtain ⟨g2, c2, rfl, _, _⟩ := hrow2.form (by decide)
  have HRB := hide (rd_of_owns hrow2).any
  have hown1 := V.owns_step HRO1.out hst2 (fun q hq hf => by
    have h1 := (V.owns_blk HRO1.out q hq).1
    have h2 := HD.out.lt q hf
    have h3 := HB.out.size
    omega)
  have HRA := hide (rd_of_owns hown1).any
  have HD2 := hide hdev2
  have hst := HS1.out.trans hst2
  have HE2 := hide ((HE.out.up HB.out).step hst HFB.out)
  have HZ2 : Hid (w2.heap[w.heap.size]? = some (.cells #[.int .i64 0, .int .i64 0, .int .u64 0] 32 (0, 0))) := by
    show _ = _
    rw [hst.block w.heap.size HSZ.out (fun hf => by have := HD.out.lt _ hf; omega)]; exact HZ0.out
  have HS2 := hide hst
  have HLT2 : Hid (w.heap.size < w2.heap.size) := Nat.lt_of_lt_of_le HSZ.out hst.size
  clear hrow2 hdev2 hst2 hown1 hst HRD2
  go_wp2_with fail
  refine (choose_any (A 0) ac _ _ (V.readB d 0 1) (V.readB d 8 1) pgs _ HRA.out HRB.out (by rw [HLA.out]; decide) (by rw [HLB.out]; decide) HE2.out.tab HE2.out.errs.arg HE2.out.corr).mono ?_
  rintro e w3 ⟨rfl, hb3⟩
  rw [HCH.out]
  have hz3 := (hb3.block _ HLT2.out).trans HZ2.out
  obtain ⟨z0, z1, z2, y0, y1, y2⟩ := zero_cells hz3
  have HZ3 := hide hz3
  have HD3 := hide (HD2.out.below hb3)
  have HS3 : Hid (V.Step F F w w3) := ((V.Step.of_below HB.out).trans HS2.out).trans (V.Step.of_below hb3)
  clear hb3 hz3
  go_wp2_with fail
  have h3 : V.Step (fun k => k = w.heap.size) (fun k => k = w.heap.size) w3 (((w3.setCell ⟨w.heap.size, 0, none⟩ (.int .i64 P)).setCell ⟨w.heap.size, 1, none⟩ (.int .i64 R)).setCell ⟨w.heap.size, 2, none⟩ (.int .u64 (T : Int))) := by
    have hs := ((Sole.set w.heap.size 0 w3 (.int .i64 P)).trans (Sole.set w.heap.size 1 _ (.int .i64 R))).trans (Sole.set w.heap.size 2 _ (.int .u64 (T : Int)))
    exact ⟨hs.os, hs.tape, hs.output, hs.size, hs.block, fun k h => .inl h⟩
  refine bodyPost_ret (results_row_tmp rfl _ _ w.heap.size 32 #[.int .i64 P, .int .i64 R, .int .u64 (T : Int)] (0, 0) _ rfl (set_three HZ3.out) Tryz.underlying32 rfl (by kernel_rfl)) rfl ⟨rfl, HD3.out.keep h3 (fun k hk e => by have := HD.out.lt k hk; omega), ?_⟩
  exact ⟨h3.os.trans HS3.out.os, h3.tape.trans HS3.out.tape, h3.output.trans HS3.out.output, Nat.le_trans HS3.out.size h3.size, fun q hq hn => (h3.block q (Nat.lt_of_lt_of_le hq HS3.out.size) (by omega)).trans (HS3.out.block q hq hn), fun q hq => HS3.out.sub q hq⟩

set_option maxRecDepth 100000 in
set_option maxHeartbeats 2000000 in
theorem loadMG_any (base : Nat) (A : Nat → Addr) (db : Nat) (F : Nat → Prop) (d : V.Dev) (w : World) (hd : V.DevAt w db F d) (hE : EnvT base A (A 8) w) (hF : ∀ k, F k → base ≤ k) :
    Calls Tryz.prog 15 #[.pointer (some ⟨db, 0, none⟩)] w fun e w' => e = .returned (.tuple #[.agg (loadMR d).2.1.cells.toArray, V.errV A (loadMR d).2.2]) ∧ V.DevAt w' db F (loadMR d).1 ∧ V.Step F F w w' := by
  have HE := hide hE
  have HD := hide hd
  have HFl := hide hd.lt
  have HB := hide (below_new w (.cells #[.int .i64 0, .int .i64 0, .int .u64 0] 32))
  have HZ0 : Hid ((w.alloc (.cells #[.int .i64 0, .int .i64 0, .int .u64 0] 32)).heap[w.heap.size]? = some (.cells #[.int .i64 0, .int .i64 0, .int .u64 0] 32 (0, 0))) := heap_alloc_new w _
  have HPO : Hid (∀ w, V.DevAt w db F d → Calls Tryz.prog 35 #[.pointer (some ⟨db, 0, none⟩)] w fun e w' => e = .returned (.int .i64 (d.size / 8)) ∧ w = w') := fun w h => pagesOf_any db F d w h
  have HPM : Hid (∀ w, Calls Tryz.prog 36 #[.int .i64 (d.size / 8)] w fun e w' => e = .returned (.bool (decide (PagesOk (d.size / 8)))) ∧ w = w') := fun w => pmay_any _ w
  by_cases hpg : PagesOk (d.size / 8)
  · cases hdd : d.dead with
    | false =>
      have hl : ∀ s, (V.readB d s 1).length = 512 := fun s => by rw [V.readB_len hd.ok]
      have e : loadMR d = (readD (readD d), choM (V.readB d 0 1) (V.readB d 8 1) (d.size / 8)) := by unfold loadMR; rw [if_pos hpg, hdd]; rfl
      rw [e]
      exact loadM_live base A (A 8) db F d w hd hE hF hdd hpg _ _ (hl 0) (hl 8) (choV_cells A _ _ _ hpg)
    | true =>
      have HLV : Hid (loadMR d = (d, zM0, 8)) := by show loadMR d = _; unfold loadMR; rw [if_pos hpg, hdd]; rfl
      have HRD := hide (V.read_any base A db F d (w.alloc (.cells #[.int .i64 0, .int .i64 0, .int .u64 0] 32)) (HD.out.below HB.out) (HE.out.up HB.out).errs 0 1 (by decide))
      rw [read_dead d 0 1 hdd] at HRD
      have HRX : Hid (Calls Tryz.prog 37 #[.pointer (some ⟨db, 0, none⟩), .int .i64 0, .int .i64 1] (w.alloc (.cells #[.int .i64 0, .int .i64 0, .int .u64 0] 32)) fun e w' => ∃ va vc, e = .returned (.tuple #[.slice va 0 vc, .iface 153 (.pointer (some (A 7)))]) ∧ V.DevAt w' db F d ∧ V.Step F F (w.alloc (.cells #[.int .i64 0, .int .i64 0, .int .u64 0] 32)) w') := by
        refine HRD.out.mono ?_
        rintro e w2 ⟨v, P⟩
        have hr := P.row
        simp only [List.length_nil] at hr
        obtain ⟨va, vc, rfl, -⟩ := V.owns_form hr
        exact ⟨va, vc, P.ret, P.dev, P.step⟩
      rw [decide_eq_true hpg] at HPM
      clear hd hE hF hpg hdd HRD
      obtain ⟨Q, hQ⟩ : ∃ Q, Q = d.size / 8 := ⟨_, rfl⟩
      rw [← hQ] at HPO HPM
      clear hQ
      go_enter Tryz.func15, Tryz.ntmps15
      go_wp2_with fail
      refine (HPO.out _ (HD.out.below HB.out)).mono ?_
      rintro e w' ⟨rfl, rfl⟩
      go_wp2_with fail
      refine (HPM.out _).mono ?_
      rintro e w' ⟨rfl, rfl⟩
      go_wp2_with fail
      refine (sectorOf_any 0 _ (by decide) (by decide)).mono ?_
      rintro e w' ⟨rfl, rfl⟩
      go_wp2_with fail
      refine HRX.out.mono ?_
      rintro e w2 ⟨va, vc, rfl, hdev, hstp⟩
      have hr3 : w2.heap[w.heap.size]? = some (.cells #[.int .i64 0, .int .i64 0, .int .u64 0] 32 (0, 0)) := (hstp.block _ ((Array.getElem?_eq_some_iff.1 HZ0.out).1) (fun hf => by have := HFl.out _ hf; omega)).trans HZ0.out
      obtain ⟨z0, z1, z2, y0, y1, y2⟩ := zero_cells hr3
      have HR2 := hide hr3
      have HP2 := hide hdev
      have HS2 : Hid (V.Step F F w w2) := (V.Step.of_below HB.out).trans hstp
      clear hdev hstp HRX hr3
      go_wp2_with fail
      (try simp only [Exit.inBlock, Exit.then])
      rw [HLV.out]
      refine bodyPost_ret (results_row_tmp rfl _ _ w.heap.size 32 #[.int .i64 0, .int .i64 0, .int .u64 0] (0, 0) _ rfl (set_three HR2.out) Tryz.underlying32 rfl (by kernel_rfl)) rfl ⟨rfl, ?_⟩
      exact threeD_keep HP2.out HS2.out HFl.out
  · have HLV : Hid (loadMR d = (d, zM0, 9)) := by show loadMR d = _; unfold loadMR; rw [if_neg hpg]
    rw [decide_eq_false hpg] at HPM
    have cE : (w.alloc (.cells #[.int .i64 0, .int .i64 0, .int .u64 0] 32)).cell? ⟨0, 0, none⟩ = some (.iface 153 (.pointer (some (A 8)))) := (HE.out.up HB.out).corr
    have hr3 := HZ0.out
    obtain ⟨z0, z1, z2, y0, y1, y2⟩ := zero_cells hr3
    clear hd hE hF hpg hr3
    obtain ⟨Q, hQ⟩ : ∃ Q, Q = d.size / 8 := ⟨_, rfl⟩
    rw [← hQ] at HPO HPM
    clear hQ
    have HDV := hide (HD.out.below HB.out)
    have HS0 : Hid (V.Step F F w (w.alloc (.cells #[.int .i64 0, .int .i64 0, .int .u64 0] 32))) := V.Step.of_below HB.out
    go_enter Tryz.func15, Tryz.ntmps15
    go_wp2_with fail
    refine (HPO.out _ HDV.out).mono ?_
    rintro e w' ⟨rfl, rfl⟩
    go_wp2_with fail
    refine (HPM.out _).mono ?_
    rintro e w' ⟨rfl, rfl⟩
    go_wp2_with fail
    go_region
    all_goals
      go_wp2_with fail
      (try simp only [Exit.inBlock, Exit.then])
      rw [HLV.out]
      refine bodyPost_ret (results_row_tmp rfl _ _ w.heap.size 32 #[.int .i64 0, .int .i64 0, .int .u64 0] (0, 0) _ rfl (by first | exact HZ0.out | exact set_three HZ0.out | exact drew_heap HZ0.out | exact drew_heap (set_three HZ0.out)) Tryz.underlying32 rfl (by kernel_rfl)) rfl ⟨rfl, ?_⟩
      first
        | exact ⟨HD.out.below (V.below_drewN HB.out 1), V.Step.of_below (V.below_drewN HB.out 1)⟩
        | exact threeD_keep HDV.out HS0.out HFl.out
        | exact ⟨HDV.out, HS0.out⟩

end Go.Proofs.YtlopimdnjookeabGreatDoor

namespace Go.Proofs.YtlopimdnjookeabGreatDoor
open Go.RowKit

set_option maxRecDepth 100000 in
set_option maxHeartbeats 2000000 in
theorem rmwipe_any (b : Nat) (F : Nat → Prop) (d : V.Dev) (T : Nat) (s : Int) (w : World) (hd : V.RAll w b F d T)
    (hp : d.pend.length + 1 ≤ 5864062014805) (hT : T ≤ 1048576) (hA : ∀ a ∈ d.arms, a.fates.length ≤ 1048576 ∧ ∀ f ∈ a.fates, f.junk.size ≤ 1048576) :
    Calls Tryz.prog 21 #[.pointer (some ⟨b, 0, none⟩), .int .i64 s] w fun e w' => e = .returned (.int .i64 ((wipeMD d s).2 : Int)) ∧ ∃ F' T', V.RAll w' b F' (wipeMD d s).1 T' ∧ V.Step F F' w w' ∧ T' + V.armSum (wipeMD d s).1.arms ≤ T + V.armSum d.arms := by
  have HD := hide hd
  have HFl := hide (RAll_lt hd)
  have hs0 := (RAll_ok hd).s0
  have hs1 := (RAll_ok hd).s1
  have hq : d.size.tdiv 8 = d.size / 8 := Int.tdiv_eq_ediv_of_nonneg hs0
  have hwr : IntKind.i64.wrap (d.size / 8) = d.size / 8 := V.wrap_i64 _ (by omega) (by omega)
  have HSZ : Hid (Calls Tryz.prog 40 #[.pointer (some ⟨b, 0, none⟩)] w fun e w' => e = .returned (.int .i64 d.size) ∧ w = w') := RAll_size hd
  have HPM : Hid (∀ w, Calls Tryz.prog 41 #[.int .i64 (d.size / 8)] w fun e w' => e = .returned (.bool (decide (PagesOk (d.size / 8)))) ∧ w = w') := fun w => rpmay_any _ w
  by_cases hpo : PagesOk (d.size / 8)
  · rw [decide_eq_true hpo] at HPM
    by_cases hs : 0 ≤ s ∧ s < 2
    · obtain ⟨i0, hi, hz0, hz1, hz2⟩ := info_parts Tryz.info5
      have HWD : Hid (wipeMD d s = d.write (s * 8) (List.replicate 512 0)) := by show wipeMD d s = _; unfold wipeMD; rw [if_pos ⟨hs, hpo⟩]
      have HWR : Hid (∀ w1 g cap, Below w.heap.size w w1 → w1.ownsRow w.heap.size 5 1 (.slice (some ⟨g, 0, none⟩) 512 cap) 512 (u8s (List.replicate 512 0)) → Calls Tryz.prog 32 #[.pointer (some ⟨b, 0, none⟩), .int .i64 (s * 8), .slice (some ⟨g, 0, none⟩) 512 cap] w1 fun e w' => e = .returned (.int .i64 ((wipeMD d s).2 : Int)) ∧ ∃ F' T', V.RAll w' b F' (wipeMD d s).1 T' ∧ V.Step F F' w1 w' ∧ T' + V.armSum (wipeMD d s).1.arms ≤ T + V.armSum d.arms) := fun w1 g cap hb hrow => by
        rw [HWD.out]
        have hl : (List.replicate 512 (0 : UInt8)).length = 512 := List.length_replicate ..
        exact V.rwrite_any b F d T w1 (HD.out.below hb) (s * 8) ⟨by omega, by omega⟩ (.slice (some ⟨g, 0, none⟩) 512 cap) (List.replicate 512 0) (V.bytesAt_own (base := w.heap.size) (by rw [hl]; exact hrow) (by rw [hl]; decide) (fun g' hg' hf => by
          have h1 := (V.owns_blk hrow g' hg').1
          have := HFl.out g' hf; omega)) (by rw [hl]; exact hp) hT hA
      have h1 : 0 ≤ s := hs.1
      have h2 : s ≤ 1 := by omega
      have h3 : decide (s < 0) = false := decide_eq_false (by omega)
      have h4 : decide (1 < s) = false := decide_eq_false (by omega)
      have e8 : 8 * s = s * 8 := by omega
      generalize wipeMD d s = dn at *
      clear hd hp hT hA hpo hs HWD
      generalize d.size / 8 = Q at *
      generalize d.size = SZ at *
      go_enter Tryz.func21, Tryz.ntmps21
      go_wp2_with fail
      refine HSZ.out.mono ?_
      rintro e w' ⟨rfl, rfl⟩
      go_wp2_with fail
      refine (HPM.out _).mono ?_
      rintro e w' ⟨rfl, rfl⟩
      go_wp2_with fail
      go_loopw [6, 7] (fun v i wr => ∃ k : Nat, k ≤ 512 ∧ i = .int .i64 (k : Int) ∧ wr.ownsRow w.heap.size 5 1 v k (u8s (List.replicate k 0)) ∧ Below w.heap.size w wr)
        (fun _ i _ => 512 - (intOf i).toNat)
      case atStart => exact ⟨0, Nat.zero_le _, rfl, World.ownsRow_nil _ _ _ _, Below.refl _ _⟩
      case round =>
        obtain ⟨k, hk, rfl, hown, hnx⟩ := hrel
        by_cases hlt : k < 512
        · have hk1 : (k : Int) < 512 := by omega
          have HS := hide (rep_snoc k)
          go_wp2_with (first
            | (at_builtin; refine wpList_append_lies _ rfl _ _ 33 rfl w.heap.size 5 i0 (.int .u8 0) 1 1 Tryz.underlying33 hi hz0 hz1 hz2 rfl (by decide) _ _ _ rfl (hown.alloc _) ⟨wr.heap.size, 0, none⟩ 1 1 [.int .u8 0] rfl rfl ?c1 ?c2 ?c3 ?c4 ?c5 ?c6 (wr.heap.size + 1) ?c7 ?_))
          case c1 =>
            intro j u hj
            match j, hj with
            | 0, hj => simp at hj; subst hj; simp [Addr.add]
          case c2 => intro u hu; simp at hu; subst hu; rfl
          case c3 => decide
          case c4 => unfold maxLen; omega
          case c5 => omega
          case c6 => have := hnx.size; simp; omega
          case c7 => simp
          intro g' cap' w1 hown' hgrow hat hlg
          have hb1 : Below w.heap.size w w1 := (hnx.alloc (by have := hnx.size; omega) _).grown hgrow (by have := hnx.size; simp; omega) (fun j hj => (hown.lt j hj).1)
          have HO2 : Hid (w1.ownsRow w.heap.size 5 1 (.slice (some ⟨g', 0, none⟩) (k + 1) cap') (k + 1) (u8s (List.replicate (k + 1) 0))) := by
            show World.ownsRow _ _ _ _ _ _ _
            rw [HS.out, u8s_append]; exact hown'
          have HB1 := hide hb1
          clear hown' hgrow hown hat hlg hnx hb1
          go_wp2_with fail
          go_roundw
          case rel => exact ⟨k + 1, by omega, by go_num, HO2.out, HB1.out⟩
          case measure => simp [intOf]; omega
        · obtain rfl : k = 512 := by omega
          obtain ⟨g, cap, rfl⟩ := owns_slice hown (by decide)
          have HWX := hide (HWR.out _ g cap hnx hown)
          have HST := hide (V.Step.of_below (F := F) hnx)
          clear hown hnx
          go_wp2_with fail
          try rw [e8]
          refine HWX.out.mono ?_
          rintro e w2 ⟨rfl, F', T', h2, s2, t2⟩
          have HFIN := hide (And.intro h2 (And.intro (HST.out.trans s2) t2))
          clear h2 s2 t2
          go_wp2_with fail
          go_ret
          exact ⟨rfl, F', T', HFIN.out⟩
    · have HWD : Hid (wipeMD d s = (d, 1)) := by show wipeMD d s = _; unfold wipeMD; rw [if_neg (fun h => hs h.1)]
      by_cases h1 : s < 0
      · have h3 : decide (s < 0) = true := decide_eq_true h1
        clear hd hp hT hA hpo hs
        generalize d.size / 8 = Q at *
        generalize d.size = SZ at *
        go_enter Tryz.func21, Tryz.ntmps21
        go_wp2_with fail
        refine HSZ.out.mono ?_
        rintro e w' ⟨rfl, rfl⟩
        go_wp2_with fail
        refine (HPM.out _).mono ?_
        rintro e w' ⟨rfl, rfl⟩
        go_wp2_with fail
        go_ret
        rw [HWD.out]
        exact ⟨rfl, F, T, HD.out, V.Step.refl _ _, Nat.le_refl _⟩
      · have h3 : decide (s < 0) = false := decide_eq_false h1
        have h4 : 1 < s := by omega
        clear hd hp hT hA hpo hs
        generalize d.size / 8 = Q at *
        generalize d.size = SZ at *
        go_enter Tryz.func21, Tryz.ntmps21
        go_wp2_with fail
        refine HSZ.out.mono ?_
        rintro e w' ⟨rfl, rfl⟩
        go_wp2_with fail
        refine (HPM.out _).mono ?_
        rintro e w' ⟨rfl, rfl⟩
        go_wp2_with fail
        go_ret
        rw [HWD.out]
        exact ⟨rfl, F, T, HD.out, V.Step.refl _ _, Nat.le_refl _⟩
  · rw [decide_eq_false hpo] at HPM
    have HWD : Hid (wipeMD d s = (d, 1)) := by show wipeMD d s = _; unfold wipeMD; rw [if_neg (fun h => hpo h.2)]
    clear hd hp hT hA hpo
    generalize d.size / 8 = Q at *
    generalize d.size = SZ at *
    go_enter Tryz.func21, Tryz.ntmps21
    go_wp2_with fail
    refine HSZ.out.mono ?_
    rintro e w' ⟨rfl, rfl⟩
    go_wp2_with fail
    refine (HPM.out _).mono ?_
    rintro e w' ⟨rfl, rfl⟩
    go_wp2_with fail
    go_ret
    rw [HWD.out]
    exact ⟨rfl, F, T, HD.out, V.Step.refl _ _, Nat.le_refl _⟩

end Go.Proofs.YtlopimdnjookeabGreatDoor

namespace Go.Proofs.YtlopimdnjookeabGreatDoor
open Go.RowKit

theorem rchoV_cells (la lb : List UInt8) (pages : Int) (h : PagesOk pages) : rchoV la lb pages = #[.agg (choM la lb pages).1.cells.toArray, .int .i64 ((choM la lb pages).2 : Int)] := by
  unfold rchoV choM
  rw [if_neg (fun h' => h' h)]
  split
  · rfl
  · split <;> rfl
theorem threeR_keep {w w3 : World} {b : Nat} {F : Nat → Prop} {d : V.Dev} {T : Nat} {u0 u1 u2 : Value} (h : V.RAll w3 b F d T) (hs : V.Step F F w w3) (hF : ∀ k, F k → k < w.heap.size) :
    V.RAll (((w3.setCell ⟨w.heap.size, 0, none⟩ u0).setCell ⟨w.heap.size, 1, none⟩ u1).setCell ⟨w.heap.size, 2, none⟩ u2) b F d T ∧ V.Step F F w (((w3.setCell ⟨w.heap.size, 0, none⟩ u0).setCell ⟨w.heap.size, 1, none⟩ u1).setCell ⟨w.heap.size, 2, none⟩ u2) := by
  have hs' := ((Sole.set w.heap.size 0 w3 u0).trans (Sole.set w.heap.size 1 _ u1)).trans (Sole.set w.heap.size 2 _ u2)
  have h3 : V.Step (fun k => k = w.heap.size) (fun k => k = w.heap.size) w3 (((w3.setCell ⟨w.heap.size, 0, none⟩ u0).setCell ⟨w.heap.size, 1, none⟩ u1).setCell ⟨w.heap.size, 2, none⟩ u2) := ⟨hs'.os, hs'.tape, hs'.output, hs'.size, hs'.block, fun k h => .inl h⟩
  exact ⟨h.keep h3 (fun k hk e => by have := hF k hk; omega), h3.os.trans hs.os, h3.tape.trans hs.tape, h3.output.trans hs.output, Nat.le_trans hs.size h3.size, fun q hq hn => (h3.block q (Nat.lt_of_lt_of_le hq hs.size) (by omega)).trans (hs.block q hq hn), fun q hq => hs.sub q hq⟩

set_option maxRecDepth 100000 in
set_option maxHeartbeats 2000000 in
theorem rmload_any (b : Nat) (F : Nat → Prop) (d : V.Dev) (T : Nat) (w : World) (hd : V.RAll w b F d T) (hp : d.pend.length ≤ 5864062014805) :
    Calls Tryz.prog 16 #[.pointer (some ⟨b, 0, none⟩)] w fun e w' => e = .returned (.tuple #[.agg (loadMR d).2.1.cells.toArray, .int .i64 ((loadMR d).2.2 : Int)]) ∧ V.RAll w' b F (loadMR d).1 T ∧ V.Step F F w w' := by
  have HD := hide hd
  have HFl := hide (RAll_lt hd)
  have hs0 := (RAll_ok hd).s0
  have hs1 := (RAll_ok hd).s1
  have HOK := hide (RAll_ok hd)
  have hq : d.size.tdiv 8 = d.size / 8 := Int.tdiv_eq_ediv_of_nonneg hs0
  have hwr : IntKind.i64.wrap (d.size / 8) = d.size / 8 := V.wrap_i64 _ (by omega) (by omega)
  obtain ⟨W0, hW0⟩ : ∃ W0, W0 = w.alloc (.cells #[.int .i64 0, .int .i64 0, .int .u64 0] 32) := ⟨_, rfl⟩
  have HB : Hid (Below w.heap.size w W0) := by rw [hW0]; exact below_new w _
  have HZ0 : Hid (W0.heap[w.heap.size]? = some (.cells #[.int .i64 0, .int .i64 0, .int .u64 0] 32 (0, 0))) := by rw [hW0]; exact heap_alloc_new w _
  have HSZ : Hid (Calls Tryz.prog 40 #[.pointer (some ⟨b, 0, none⟩)] W0 fun e w' => e = .returned (.int .i64 d.size) ∧ W0 = w') := RAll_size (HD.out.below HB.out)
  have HPM : Hid (∀ w, Calls Tryz.prog 41 #[.int .i64 (d.size / 8)] w fun e w' => e = .returned (.bool (decide (PagesOk (d.size / 8)))) ∧ w = w') := fun w => rpmay_any _ w
  have HSW := hide hW0
  by_cases hpg : PagesOk (d.size / 8)
  · rw [decide_eq_true hpg] at HPM
    have HRD := hide (fun w1 (h : V.RAll w1 b F d T) => V.rdev_read_any b F d T w1 h 0 1 hp ⟨by decide, by decide⟩ ⟨by decide, by decide⟩)
    cases hdd : d.dead with
    | true =>
      have HLV : Hid (loadMR d = (d, zM0, 8)) := by show loadMR d = _; unfold loadMR; rw [if_pos hpg, hdd]; rfl
      rw [read_dead d 0 1 hdd] at HRD
      have HRX : Hid (Calls Tryz.prog 42 #[.pointer (some ⟨b, 0, none⟩), .int .i64 0, .int .i64 1] W0 fun e w' => ∃ va vc, e = .returned (.tuple #[.slice va 0 vc, .int .i64 8]) ∧ V.RAll w' b F d T ∧ V.Step F F W0 w') := by
        refine (HRD.out W0 (HD.out.below HB.out)).mono ?_
        rintro e w2 ⟨v, he, hr, h1, h2⟩
        simp only [List.length_nil] at hr
        obtain ⟨va, vc, rfl, -⟩ := V.owns_form hr
        exact ⟨va, vc, he, h1, h2⟩
      clear hd hpg hdd HRD hp
      generalize d.size / 8 = Q at *
      generalize d.size = SZ at *
      go_enter Tryz.func16, Tryz.ntmps16
      go_wp2_with fail
      rw [← hW0]
      refine HSZ.out.mono ?_
      rintro e w' ⟨rfl, rfl⟩
      clear hW0
      go_wp2_with fail
      refine (HPM.out _).mono ?_
      rintro e w' ⟨rfl, rfl⟩
      go_wp2_with fail
      refine HRX.out.mono ?_
      rintro e w2 ⟨va, vc, rfl, hdev, hstp⟩
      have hr3 : w2.heap[w.heap.size]? = some (.cells #[.int .i64 0, .int .i64 0, .int .u64 0] 32 (0, 0)) := (hstp.block _ ((Array.getElem?_eq_some_iff.1 HZ0.out).1) (fun hf => by have := HFl.out _ hf; omega)).trans HZ0.out
      obtain ⟨z0, z1, z2, y0, y1, y2⟩ := zero_cells hr3
      have HR2 := hide hr3
      have HP2 := hide hdev
      have HS2 : Hid (V.Step F F w w2) := (V.Step.of_below HB.out).trans hstp
      clear hdev hstp HRX hr3
      go_wp2_with fail
      (try simp only [Exit.inBlock, Exit.then])
      rw [HLV.out]
      refine bodyPost_ret (results_row_tmp rfl _ _ w.heap.size 32 #[.int .i64 0, .int .i64 0, .int .u64 0] (0, 0) _ rfl (set_three HR2.out) Tryz.underlying32 rfl (by kernel_rfl)) rfl ⟨rfl, ?_⟩
      exact threeR_keep HP2.out HS2.out HFl.out
    | false =>
      have hl : ∀ s, (V.readB d s 1).length = 512 := fun s => by rw [V.readB_len HOK.out]
      have HLV : Hid (loadMR d = (readD (readD d), choM (V.readB d 0 1) (V.readB d 8 1) (d.size / 8))) := by show loadMR d = _; unfold loadMR; rw [if_pos hpg, hdd]; rfl
      have HLA := hide (hl 0)
      have HLB := hide (hl 8)
      have HCV := hide (rchoV_cells (V.readB d 0 1) (V.readB d 8 1) (d.size / 8) hpg)
      rw [read_one d 0 hdd (by decide) (by have := hpg.1; omega)] at HRD
      have HRE := hide (fun w1 (h : V.RAll w1 b F (readD d) T) => V.rdev_read_any b F (readD d) T w1 h 8 1 hp ⟨by decide, by decide⟩ ⟨by decide, by decide⟩)
      rw [read_one (readD d) 8 hdd (by decide) (by show (8 : Int) + 1 ≤ d.size; have := hpg.1; omega)] at HRE
      simp only [readD_B] at HRE
      have HRX : Hid (Calls Tryz.prog 42 #[.pointer (some ⟨b, 0, none⟩), .int .i64 0, .int .i64 1] W0 fun e w' => ∃ g cap, e = .returned (.tuple #[.slice (some ⟨g, 0, none⟩) 512 cap, .int .i64 0]) ∧ w'.ownsRow W0.heap.size 5 1 (.slice (some ⟨g, 0, none⟩) 512 cap) 512 (u8s (V.readB d 0 1)) ∧ V.RAll w' b F (readD d) T ∧ V.Step F F W0 w') := by
        refine (HRD.out W0 (HD.out.below HB.out)).mono ?_
        rintro e w2 ⟨v, he, hr, h1, h2⟩
        try simp only [] at hr he
        rw [HLA.out] at hr
        obtain ⟨g, cap, rfl, _, _⟩ := hr.form (by decide)
        exact ⟨g, cap, he, hr, h1, h2⟩
      have HRY : Hid (∀ w1, V.RAll w1 b F (readD d) T → Calls Tryz.prog 42 #[.pointer (some ⟨b, 0, none⟩), .int .i64 8, .int .i64 1] w1 fun e w' => ∃ g cap, e = .returned (.tuple #[.slice (some ⟨g, 0, none⟩) 512 cap, .int .i64 0]) ∧ w'.ownsRow w1.heap.size 5 1 (.slice (some ⟨g, 0, none⟩) 512 cap) 512 (u8s (V.readB d 8 1)) ∧ V.RAll w' b F (readD (readD d)) T ∧ V.Step F F w1 w') := fun w1 h => by
        refine (HRE.out w1 h).mono ?_
        rintro e w2 ⟨v, he, hr, h1, h2⟩
        try simp only [] at hr he
        rw [HLB.out] at hr
        obtain ⟨g, cap, rfl, _, _⟩ := hr.form (by decide)
        exact ⟨g, cap, he, hr, h1, h2⟩
      rw [HLV.out]
      clear HLV
      clear hd hpg hdd HRD HRE hp hl
      generalize V.readB d 0 1 = la at *
      generalize V.readB d 8 1 = lb at *
      generalize d.size / 8 = Q at *
      generalize d.size = SZ at *
      generalize choM la lb Q = M at *
      obtain ⟨⟨P, R, Tx⟩, cd⟩ := M
      simp only [Mt.cells] at HCV ⊢
      go_enter Tryz.func16, Tryz.ntmps16
      go_wp2_with fail
      rw [← hW0]
      refine HSZ.out.mono ?_
      rintro e w' ⟨rfl, rfl⟩
      clear hW0
      go_wp2_with fail
      refine (HPM.out _).mono ?_
      rintro e w' ⟨rfl, rfl⟩
      go_wp2_with fail
      refine HRX.out.mono ?_
      rintro e w1 ⟨g1, c1, rfl, hrow1, hdev1, hst1⟩
      have HRO1 := hide hrow1
      have HS1 := hide hst1
      have HR1 := hide (HRY.out w1 hdev1)
      clear hrow1 hdev1 hst1 HRX HRY
      go_wp2_with fail
      refine HR1.out.mono ?_
      rintro e w2 ⟨g2, c2, rfl, hrow2, hdev2, hst2⟩
      have HRB := hide (rd_of_owns hrow2).any
      have hown1 := V.owns_step HRO1.out hst2 (fun q hq hf => by
        have h1 := (V.owns_blk HRO1.out q hq).1
        have h2 := HFl.out q hf
        have h3 := HB.out.size
        omega)
      have HRA := hide (rd_of_owns hown1).any
      have HD2 := hide hdev2
      have hst := HS1.out.trans hst2
      have HZ2 : Hid (w2.heap[w.heap.size]? = some (.cells #[.int .i64 0, .int .i64 0, .int .u64 0] 32 (0, 0))) := (hst.block _ ((Array.getElem?_eq_some_iff.1 HZ0.out).1) (fun hf => by have := HFl.out _ hf; omega)).trans HZ0.out
      have HS2 : Hid (V.Step F F w w2) := (V.Step.of_below HB.out).trans hst
      have HC := hide (rchoose_any _ _ la lb Q w2 HRA.out HRB.out (by rw [HLA.out]; decide) (by rw [HLB.out]; decide))
      rw [HCV.out] at HC
      clear hrow2 hdev2 hst2 hown1 hst HR1 HCV
      go_wp2_with fail
      refine HC.out.mono ?_
      rintro e w3 ⟨rfl, hb3⟩
      have hz3 := (hb3.block _ ((Array.getElem?_eq_some_iff.1 HZ2.out).1)).trans HZ2.out
      obtain ⟨z0, z1, z2, y0, y1, y2⟩ := zero_cells hz3
      have HZ3 := hide hz3
      have HD3 := hide (HD2.out.below hb3)
      have HS3 : Hid (V.Step F F w w3) := HS2.out.trans (V.Step.of_below hb3)
      clear hb3 hz3
      go_wp2_with fail
      (try simp only [Exit.inBlock, Exit.then])
      refine bodyPost_ret (results_row_tmp rfl _ _ w.heap.size 32 #[.int .i64 P, .int .i64 R, .int .u64 (Tx : Int)] (0, 0) _ rfl (set_three HZ3.out) Tryz.underlying32 rfl (by kernel_rfl)) rfl ⟨rfl, ?_⟩
      exact threeR_keep HD3.out HS3.out HFl.out
  · have HLV : Hid (loadMR d = (d, zM0, 9)) := by show loadMR d = _; unfold loadMR; rw [if_neg hpg]
    rw [decide_eq_false hpg] at HPM
    obtain ⟨z0, z1, z2, y0, y1, y2⟩ := zero_cells HZ0.out
    have HDV := hide (HD.out.below HB.out)
    have HS0 : Hid (V.Step F F w W0) := V.Step.of_below HB.out
    clear hd hpg hp
    generalize d.size / 8 = Q at *
    generalize d.size = SZ at *
    go_enter Tryz.func16, Tryz.ntmps16
    go_wp2_with fail
    rw [← hW0]
    refine HSZ.out.mono ?_
    rintro e w' ⟨rfl, rfl⟩
    clear hW0
    go_wp2_with fail
    refine (HPM.out _).mono ?_
    rintro e w' ⟨rfl, rfl⟩
    go_wp2_with fail
    (try simp only [Exit.inBlock, Exit.then])
    rw [HLV.out]
    refine bodyPost_ret (results_row_tmp rfl _ _ w.heap.size 32 #[.int .i64 0, .int .i64 0, .int .u64 0] (0, 0) _ rfl (set_three HZ0.out) Tryz.underlying32 rfl (by kernel_rfl)) rfl ⟨rfl, ?_⟩
    exact threeR_keep HDV.out HS0.out HFl.out

end Go.Proofs.YtlopimdnjookeabGreatDoor
