import Derived.Test.YtlopimdnjookeaaDoorMtDev
namespace Go.Proofs.YtlopimdnjookeaaDoor
open Go.RowKit

/-- The device behind a Store that succeeds. -/
def storedM (d : V.Dev) (m : Mt) : V.Dev := { d with pend := V.chunks (((m.txid % 2 : Nat) : Int) * 8) (mpage m) 1, nw := wrap64 (d.nw + 1) }

theorem write_meta (d : V.Dev) (m : Mt) (hp : d.pend = []) (hd : d.dead = false) (ha : d.arms = []) (hs : 32 ≤ d.size) : d.write (((m.txid % 2 : Nat) : Int) * 8) (mpage m) = (storedM d m, 0) := by
  obtain ⟨sz, dur, pend, arms, dead, nr, nw, ns⟩ := d
  simp only at hp hd ha hs
  subst hp hd ha
  have hl := mpage_len m
  have hf : V.Dev.fits ⟨sz, dur, [], [], false, nr, nw, ns⟩ (((m.txid % 2 : Nat) : Int) * 8) ((512 / 512 : Nat) : Int) = true := by
    unfold V.Dev.fits
    refine decide_eq_true ⟨by omega, by omega, ?_⟩
    show ((m.txid % 2 : Nat) : Int) * 8 ≤ sz - 1
    omega
  unfold V.Dev.write
  rw [hl]
  simp only [Bool.false_eq_true, if_false]
  rw [if_neg (by rw [hf]; simp)]
  rfl

set_option maxRecDepth 100000 in
set_option maxHeartbeats 4000000 in
theorem store_ok (base : Nat) (A : Nat → Addr) (ac : Addr) (db : Nat) (F : Nat → Prop) (d : V.Dev) (m : Mt) (w : World) (hm : MayM m) (hx : m.txid < 18446744073709551616) (hd : V.DevAt w db F d) (hE : EnvT base A ac w) (hF : ∀ k, F k → base ≤ k)
    (hp : d.pend = []) (hdd : d.dead = false) (ha : d.arms = []) (hsz : d.size / 8 = m.pages) :
    Calls Tryd.prog 11 #[.pointer (some ⟨db, 0, none⟩), .agg m.cells.toArray] w fun e w' => e = .returned .nilIface ∧ ∃ F', V.DevAt w' db F' (storedM d m) ∧ V.Step F F' w w' := by
  have HE := hide hE
  have HD := hide hd
  have HFB := hide hF
  have HWM := hide (write_meta d m hp hdd ha (by have := hm.1.1; omega))
  have HPN : Hid (d.pend.length = 0 ∧ d.arms = []) := ⟨by rw [hp]; rfl, ha⟩
  have HMB : Hid (∀ w, Calls Tryd.prog 27 #[.agg m.cells.toArray] w fun e w' => e = .returned (.bool true) ∧ Below w.heap.size w w') := fun w => by
    have h := mayBe_any m w
    rw [decide_eq_true hm] at h
    exact h
  have HBY : Hid (∀ w, Tab w → Calls Tryd.prog 29 #[.agg m.cells.toArray] w fun e w' => e = .returned (.agg (u8s (mpage m)).toArray) ∧ Below w.heap.size w w') := fun w h => bytesOf_any m w hm hx h
  have HPL := hide (mpage_len m)
  obtain ⟨S, hS⟩ : ∃ S : Int, S = ((m.txid % 2 : Nat) : Int) := ⟨_, rfl⟩
  have hS0 : 0 ≤ S := by omega
  have hS1 : S ≤ 1 := by omega
  have HSLOT : Hid (∀ w, Calls Tryd.prog 20 #[.int .u64 (m.txid : Int)] w fun e w' => e = .returned (.int .i64 S) ∧ w = w') := fun w => by rw [hS]; exact slot_any m.txid w hx
  have HSEC : Hid (∀ w, Calls Tryd.prog 31 #[.int .i64 S] w fun e w' => e = .returned (.int .i64 (S * 8)) ∧ w = w') := fun w => sectorOf_any S w hS0 hS1
  rw [← hS] at HWM
  have HPO : Hid (∀ w, V.DevAt w db F d → Calls Tryd.prog 28 #[.pointer (some ⟨db, 0, none⟩)] w fun e w' => e = .returned (.int .i64 m.pages) ∧ w = w') := fun w h => by
    rw [← hsz]; exact pagesOf_any db F d w h
  obtain ⟨pg, hpg⟩ : ∃ pg, pg = mpage m := ⟨_, rfl⟩
  rw [← hpg] at HBY HPL HWM
  obtain ⟨dn, hdn⟩ : ∃ dn, dn = storedM d m := ⟨_, rfl⟩
  rw [← hdn] at HWM ⊢
  obtain ⟨zc, hzc, z512⟩ : ∃ zc, zc = (u8s (List.replicate 512 0)).toArray ∧ ∀ w, (zeroValue 69).run Tryd.prog w = .ok (.agg zc) w := ⟨_, rfl, zero512⟩
  have HZC := hide hzc
  clear hpg hdn hm hx hd hE hF hp hdd ha hsz hS hS0 hS1 hzc
  obtain ⟨P, R, T⟩ := m
  simp only [Mt.cells] at HMB HBY HPO HSLOT ⊢
  have HX := hide (boxed_new w #[.int .i64 P, .int .i64 R, .int .u64 (T : Int)] 31)
  have HB := hide (below_new w (.cells #[.int .i64 P, .int .i64 R, .int .u64 (T : Int)] 31))
  go_enter Tryd.func11, Tryd.ntmps11
  go_wp2_with fail
  generalize w.alloc (.cells #[.int .i64 P, .int .i64 R, .int .u64 (T : Int)] 31) = W0 at *
  have HX0 := HX.out
  have c0 := HX0.2 0 (by simp)
  have c1 := HX0.2 1 (by simp)
  have c2 := HX0.2 2 (by simp)
  simp only [List.getElem_cons_zero, List.getElem_cons_succ] at c0 c1 c2
  have hne : (P != P) = false := by simp
  have HDV := hide (HD.out.below HB.out)
  have HE0 := hide (HE.out.up HB.out)
  have HS0 : Hid (V.Step F F w W0) := V.Step.of_below HB.out
  have HNF : Hid (∀ k, F k → k < w.heap.size) := fun k hk => HD.out.lt k hk
  have HLE : Hid (w.heap.size ≤ W0.heap.size) := HB.out.size
  clear HX0 HB HE HD
  generalize w.heap.size = xb at *
  go_region_held3 (fun w' => w'.cell? ⟨xb, 0, none⟩ = some (.int .i64 P) ∧ w'.cell? ⟨xb, 1, none⟩ = some (.int .i64 R) ∧ w'.cell? ⟨xb, 2, none⟩ = some (.int .u64 (T : Int))) (go_keep)
    (first
      | (go_at_call 27; refine (HMB.out _).mono ?_; rintro e w1 ⟨rfl, hb1d⟩; have hb1 : Below W0.heap.size W0 w1 := ⟨hb1d.os, hb1d.tape, hb1d.output, hb1d.size, hb1d.block⟩; have HB1 := hide hb1; have HX1 := hide (HX.out.below hb1); have q0 : w1.cell? ⟨xb, 0, none⟩ = some (.int .i64 P) := HX1.out.2 0 (by simp); have q1 : w1.cell? ⟨xb, 1, none⟩ = some (.int .i64 R) := HX1.out.2 1 (by simp); have q2 : w1.cell? ⟨xb, 2, none⟩ = some (.int .u64 (T : Int)) := HX1.out.2 2 (by simp); clear hb1 hb1d)
      | (go_at_call 28; refine (HPO.out _ ?_).mono ?_; (exact HDV.out.below HB1.out); rintro e w' ⟨rfl, rfl⟩))
  clear c0 c1 c2
  go_wp2_with fail
  refine (HBY.out _ (HE0.out.up HB1.out).tab).mono ?_
  rintro e w2 ⟨rfl, hb2⟩
  have HB2 := hide (Below.next HB1.out hb2)
  have HX2 := hide (HX1.out.below hb2)
  have hrow2 : RowT 69 (w2.alloc (.cells zc 69)) w2.heap.size (List.replicate 512 0) := by rw [HZC.out]; exact rowT_new _ _ _
  obtain ⟨w3, hst, hr3, hs3⟩ := store512 hrow2 (List.length_replicate ..) HPL.out
  have HR3 := hide hr3
  have hb3 : Below w2.heap.size w2 w3 := hs3.below (below_new w2 _) (Nat.le_refl _)
  have HB3 := hide (Below.next HB2.out hb3)
  have HX3 := hide (HX2.out.below hb3)
  have HGE : Hid (W0.heap.size ≤ w2.heap.size) := HB2.out.size
  have hLA : (u8s pg).toArray.size = 512 := by simp [u8s_length, HPL.out]
  have s0 := sl_all w2.heap.size
  have k2 : w3.cell? ⟨xb, 2, none⟩ = some (.int .u64 (T : Int)) := HX3.out.2 2 (by simp)
  clear hb2 hrow2 hr3 hs3 hb3 HZC q0 q1 q2 HX1 HX2 HB1 HB2
  generalize hCS : (u8s pg).toArray = CS at *
  clear hCS
  go_wp2_with fail
  generalize w2.heap.size = g at *
  have HWR : Hid (∀ W, Below w3.heap.size w3 W → Calls Tryd.prog 30 #[.pointer (some ⟨db, 0, none⟩), .int .i64 (S * 8), .slice (some ⟨g, 0, none⟩) 512 512] W fun e w' => e = .returned .nilIface ∧ ∃ F', V.DevAt w' db F' dn ∧ V.Step F F' W w') := fun W hW => by
    have h := V.write_any base A db F d W ((HDV.out.below HB3.out).below hW) ((HE0.out.up HB3.out).up hW).errs HFB.out (S * 8) (.slice (some ⟨g, 0, none⟩) 512 512) pg ⟨some ⟨g, 0, none⟩, 512, g, by rw [HPL.out], by rw [HPL.out]; decide, by rw [HPL.out]; decide, fun _ => ⟨rfl, fun hf => by have h1 := HNF.out g hf; have h2 := HGE.out; have h3 := HLE.out; omega⟩, (HR3.out.below hW).cell⟩ (by rw [HPL.out, HPN.out.1]; decide) (by rw [HPN.out.2]; exact V.opdone_nil base A db)
    rw [HWM.out] at h
    exact h
  clear hst hLA z512
  go_region_held3 (fun w' => w'.cell? ⟨xb, 2, none⟩ = some (.int .u64 (T : Int))) (first | go_keep | trivial)
    (first
      | (go_at_call 20; refine (HSLOT.out _).mono ?_; rintro e w' ⟨rfl, rfl⟩)
      | (go_at_call 31; refine (HSEC.out _).mono ?_; rintro e w' ⟨rfl, rfl⟩)
      | (go_at_call 30; refine (HWR.out _ ((Below.refl _ _).drew)).mono ?_; rintro e w4 ⟨rfl, F', hd4, hs4d⟩; have HF4 : Hid (∃ F', V.DevAt w4 db F' dn ∧ V.Step F F' w w4) := ⟨F', hd4, (HS0.out.trans (V.Step.of_below (Below.next HB3.out ((Below.refl _ _).drew)))).trans hs4d⟩; have r2 : w4.cell? ⟨xb, 2, none⟩ = some (.int .u64 (T : Int)) := hs4d.cell k2 (fun hf => Nat.lt_irrefl _ (HNF.out _ hf)); clear hd4 hs4d))
  go_wp2_with fail
  go_ret
  exact ⟨rfl, HF4.out⟩

end Go.Proofs.YtlopimdnjookeaaDoor
