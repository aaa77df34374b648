import Derived.Test.YtlopimdnjookeabGreatDoorB10
import Derived.Test.YtlopimdnjookeabGreatDoorB6
import Derived.Deep.RegionHeld3
namespace Go.Proofs.YtlopimdnjookeabGreatDoor
open Go.RowKit

/-- What a step leaves of the bounds. -/
structure NextOf (d : V.Dev) (T : Nat) (x : SStp) (d' : V.Dev) (T' : Nat) : Prop where
  pend : d'.pend.length ≤ d.pend.length + 2048
  more : d'.arms.length ≤ d.arms.length + 1
  sum : T' + V.armSum d'.arms ≤ T + V.armSum d.arms + x.fates.length
  arms : ∀ a ∈ d'.arms, FatesFew a.fates

set_option maxRecDepth 100000 in
set_option maxHeartbeats 16000000 in
theorem plays_any (A : Nat → Addr) (W wr : World) (hE : EnvT W.heap.size A (A 8) W) (hER : ErrsAt A W) (b c : Nat) (F G : Nat → Prop) (d : V.Dev) (T : Nat) (P0 : SDuo W wr b F (V.shortD d) c G d T) (x : SStp) (pv fv : Value) (hpv : PIn W pv x.data) (hfv : V.FatesIn W fv x.fates) (hxb : SStepB x)
    (hro : d.pend.length + 2048 ≤ 5864062014805 ∧ T ≤ 1048576 ∧ (d.arms.length + 1) * 32 ≤ 140737488355328) (hA : ∀ a ∈ d.arms, FatesFew a.fates) :
    Calls Tryz.prog 6 #[.pointer (some ⟨b, 0, none⟩), .pointer (some ⟨c, 0, none⟩), .agg #[.int .i64 x.kind, .int .i64 x.n, .int .i64 x.m.pages, .int .i64 x.m.root, .int .u64 (x.m.txid : Int), pv, fv]] wr fun e w' => e = .returned (.bool true) ∧ ∃ F' G' d' T', SDuo W w' b F' (V.shortD d') c G' d' T' ∧ NextOf d T x d' T' := by
  obtain ⟨K, n, ⟨P, R, Tx⟩, Dt, fl⟩ := x
  simp only [] at hpv hfv ⊢
  obtain ⟨pa, pc, rfl⟩ : ∃ a c, pv = .slice a Dt.length c := by obtain ⟨a, c, _, _, h, _⟩ := hpv; exact ⟨a, c, h⟩
  obtain ⟨fka, fkc, rfl⟩ : ∃ a c, fv = .slice a fl.length c := by obtain ⟨a, c, _, _, h, _⟩ := hfv; exact ⟨a, c, h⟩
  have HE := hide hE
  have HER := hide hER
  have HXB := hide hxb
  have HRO := hide hro
  have HAA := hide hA
  have HPX := hide hpv
  have HFX := hide hfv
  obtain ⟨W1, hW1⟩ : ∃ W1, W1 = (wr.alloc (.cells #[.int .i64 K, .int .i64 n, .int .i64 P, .int .i64 R, .int .u64 (Tx : Int), .slice pa Dt.length pc, .slice fka fl.length fkc] 36)) := ⟨_, rfl⟩
  have hbw : Below wr.heap.size wr W1 := by rw [hW1]; exact below_new _ _
  have hbx1 : Boxed wr.heap.size [.int .i64 K, .int .i64 n, .int .i64 P, .int .i64 R, .int .u64 (Tx : Int), .slice pa Dt.length pc, .slice fka fl.length fkc] W1 := by rw [hW1]; exact boxed_new wr #[.int .i64 K, .int .i64 n, .int .i64 P, .int .i64 R, .int .u64 (Tx : Int), .slice pa Dt.length pc, .slice fka fl.length fkc] 36
  have HM1 : Hid (SMid W W1 b F (V.shortD d) c G d T wr.heap.size ⟨K, n, ⟨P, R, Tx⟩, Dt, fl⟩ (.slice pa Dt.length pc) (.slice fka fl.length fkc)) := ⟨P0.up hbw, ⟨hbx1.2 0 (by simp), hbx1.2 1 (by simp), hbx1.2 2 (by simp), hbx1.2 3 (by simp), hbx1.2 4 (by simp), hbx1.2 5 (by simp), hbx1.2 6 (by simp)⟩, hbx1.1, fun hf => by have := P0.dev.lt _ hf; omega, fun hg => by have := RAll_lt P0.ref _ hg; omega⟩
  have HW1 := hide hW1
  have e0 : (wr.alloc (.cells #[.int .i64 K, .int .i64 n, .int .i64 P, .int .i64 R, .int .u64 (Tx : Int), .slice pa Dt.length pc, .slice fka fl.length fkc] 36)).cell? ⟨wr.heap.size, 0, none⟩ = some (.int .i64 K) := by rw [← hW1]; exact hbx1.2 0 (by simp)
  have f1 : (wr.alloc (.cells #[.int .i64 K, .int .i64 n, .int .i64 P, .int .i64 R, .int .u64 (Tx : Int), .slice pa Dt.length pc, .slice fka fl.length fkc] 36)).cell? ⟨wr.heap.size, 1, none⟩ = some (.int .i64 n) := by rw [← hW1]; exact hbx1.2 1 (by simp)
  have f2 : (wr.alloc (.cells #[.int .i64 K, .int .i64 n, .int .i64 P, .int .i64 R, .int .u64 (Tx : Int), .slice pa Dt.length pc, .slice fka fl.length fkc] 36)).cell? ⟨wr.heap.size, 2, none⟩ = some (.int .i64 P) := by rw [← hW1]; exact hbx1.2 2 (by simp)
  have f3 : (wr.alloc (.cells #[.int .i64 K, .int .i64 n, .int .i64 P, .int .i64 R, .int .u64 (Tx : Int), .slice pa Dt.length pc, .slice fka fl.length fkc] 36)).cell? ⟨wr.heap.size, 3, none⟩ = some (.int .i64 R) := by rw [← hW1]; exact hbx1.2 3 (by simp)
  have f4 : (wr.alloc (.cells #[.int .i64 K, .int .i64 n, .int .i64 P, .int .i64 R, .int .u64 (Tx : Int), .slice pa Dt.length pc, .slice fka fl.length fkc] 36)).cell? ⟨wr.heap.size, 4, none⟩ = some (.int .u64 (Tx : Int)) := by rw [← hW1]; exact hbx1.2 4 (by simp)
  have f5 : (wr.alloc (.cells #[.int .i64 K, .int .i64 n, .int .i64 P, .int .i64 R, .int .u64 (Tx : Int), .slice pa Dt.length pc, .slice fka fl.length fkc] 36)).cell? ⟨wr.heap.size, 5, none⟩ = some (.slice pa Dt.length pc) := by rw [← hW1]; exact hbx1.2 5 (by simp)
  have f6 : (wr.alloc (.cells #[.int .i64 K, .int .i64 n, .int .i64 P, .int .i64 R, .int .u64 (Tx : Int), .slice pa Dt.length pc, .slice fka fl.length fkc] 36)).cell? ⟨wr.heap.size, 6, none⟩ = some (.slice fka fl.length fkc) := by rw [← hW1]; exact hbx1.2 6 (by simp)
  clear P0 hpv hfv hxb hE hER hro hA hbw hbx1 hW1
  go_enter Tryz.func6, Tryz.ntmps6
  rcases (show K = 1 ∨ K = 2 ∨ K = 3 ∨ K = 4 ∨ K = 5 ∨ K = 6 ∨ K = 7 ∨ K = 8 ∨ (K ≠ 1 ∧ K ≠ 2 ∧ K ≠ 3 ∧ K ≠ 4 ∧ K ≠ 5 ∧ K ≠ 6 ∧ K ≠ 7 ∧ K ≠ 8) by omega) with hk | hk | hk | hk | hk | hk | hk | hk | hk
  · have e1 : (K == 1) = true := by simp [hk]
    have HKK := hide hk
    clear hk
    have HS : Hid (Calls Tryz.prog 15 #[.pointer (some ⟨b, 0, none⟩)] W1 fun e w'' => e = .returned (.tuple #[.agg (loadMR d).2.1.cells.toArray, V.errV A (loadMR d).2.2]) ∧ ∃ F', SMid W w'' b F' (V.shortD (loadMR d).1) c G d T wr.heap.size ⟨K, n, ⟨P, R, Tx⟩, Dt, fl⟩ (.slice pa Dt.length pc) (.slice fka fl.length fkc)) := HM1.out.load HE.out W1 (Below.refl _ _)
    have HNX : Hid (NextOf d T ⟨K, n, ⟨P, R, Tx⟩, Dt, fl⟩ (loadMR d).1 T) := ⟨by rw [(load_same d).1]; omega, by rw [(load_same d).2]; omega, by rw [(load_same d).2]; omega, by rw [(load_same d).2]; exact HAA.out⟩
    obtain ⟨cd, hcd⟩ : ∃ cd, cd = (loadMR d).2.2 := ⟨_, rfl⟩
    obtain ⟨ev, hev⟩ : ∃ ev, ev = V.errV A cd := ⟨_, rfl⟩
    have HNM : Hid (∀ w', Below W.heap.size W w' → Calls Tryz.prog 17 #[ev] w' fun e w'' => e = .returned (.int .i64 (cd : Int)) ∧ w' = w'') := fun w' hb' => by rw [hev]; exact mnum_any A w' (HER.out.keep hb') cd (by rw [hcd]; exact load_code d)
    have HRS : Hid (∀ w2 F2, SMid W w2 b F2 (V.shortD (loadMR d).1) c G d T wr.heap.size ⟨K, n, ⟨P, R, Tx⟩, Dt, fl⟩ (.slice pa Dt.length pc) (.slice fka fl.length fkc) → ∀ w', Below w2.heap.size w2 w' → Calls Tryz.prog 16 #[.pointer (some ⟨c, 0, none⟩)] w' fun e w'' => e = .returned (.tuple #[.agg (loadMR d).2.1.cells.toArray, .int .i64 (cd : Int)]) ∧ SMid W w'' b F2 (V.shortD (loadMR d).1) c G (loadMR d).1 T wr.heap.size ⟨K, n, ⟨P, R, Tx⟩, Dt, fl⟩ (.slice pa Dt.length pc) (.slice fka fl.length fkc) ∧ V.Step G G w' w'') := fun w2 F2 M w' hb' => by rw [hcd]; exact M.rload HRO.out.1 w' hb'
    rw [← hcd, ← hev] at HS
    generalize (loadMR d).1 = dz at *
    generalize (loadMR d).2.1 = sh at *
    obtain ⟨P5, R5, T5⟩ := sh
    simp only [Mt.cells] at HS HRS
    have hcc : ((cd : Int) == (cd : Int)) = true := by simp
    have HNS := hide (fun w => mt_self w P5 R5 (T5 : Int))
    clear hcd hev
    go_wp2_with fail
    rw [← HW1.out]
    refine HS.out.mono ?_
    rintro e w2 ⟨rfl, F2, M2⟩
    obtain ⟨W3, hW3⟩ : ∃ W3, W3 = w2.alloc (.cells #[.int .i64 P5, .int .i64 R5, .int .u64 (T5 : Int)] 32) := ⟨_, rfl⟩
    have hb3 : Below w2.heap.size w2 W3 := by rw [hW3]; exact below_new _ _
    have HBQ : Hid (Boxed w2.heap.size [.int .i64 P5, .int .i64 R5, .int .u64 (T5 : Int)] W3) := by rw [hW3]; exact boxed_new w2 #[.int .i64 P5, .int .i64 R5, .int .u64 (T5 : Int)] 32
    have HRL := hide (HRS.out w2 F2 M2 W3 hb3)
    have HGL : Hid (¬ G w2.heap.size) := fun hg => by have := RAll_lt M2.duo.ref _ hg; omega
    have HW3 := hide hW3
    clear M2 hb3 HS HRS e0 f1 f2 f3 f4 f5 f6 hW3
    go_wp2_with fail
    rw [← HW3.out]
    refine HRL.out.mono ?_
    rintro e w4 ⟨rfl, M4, S4⟩
    obtain ⟨W5, hW5⟩ : ∃ W5, W5 = w4.alloc (.cells #[.int .i64 P5, .int .i64 R5, .int .u64 (T5 : Int)] 32) := ⟨_, rfl⟩
    have hb5' : Below w4.heap.size w4 W5 := by rw [hW5]; exact below_new _ _
    have hbq := HBQ.out
    have hbr : Boxed w4.heap.size [.int .i64 P5, .int .i64 R5, .int .u64 (T5 : Int)] W5 := by rw [hW5]; exact boxed_new w4 #[.int .i64 P5, .int .i64 R5, .int .u64 (T5 : Int)] 32
    have q0 : W5.cell? ⟨w2.heap.size, 0, none⟩ = some (.int .i64 P5) := V.cell_below hb5' (S4.cell (hbq.2 0 (by simp)) HGL.out)
    have q1 : W5.cell? ⟨w2.heap.size, 1, none⟩ = some (.int .i64 R5) := V.cell_below hb5' (S4.cell (hbq.2 1 (by simp)) HGL.out)
    have q2 : W5.cell? ⟨w2.heap.size, 2, none⟩ = some (.int .u64 (T5 : Int)) := V.cell_below hb5' (S4.cell (hbq.2 2 (by simp)) HGL.out)
    have r0 : W5.cell? ⟨w4.heap.size, 0, none⟩ = some (.int .i64 P5) := hbr.2 0 (by simp)
    have r1 : W5.cell? ⟨w4.heap.size, 1, none⟩ = some (.int .i64 R5) := hbr.2 1 (by simp)
    have r2 : W5.cell? ⟨w4.heap.size, 2, none⟩ = some (.int .u64 (T5 : Int)) := hbr.2 2 (by simp)
    have HNW : Hid (Calls Tryz.prog 17 #[ev] W5 fun e w'' => e = .returned (.int .i64 (cd : Int)) ∧ W5 = w'') := HNM.out W5 (M4.up hb5').duo.bel
    have hns := HNS.out W5
    have HM := hide (M4.up hb5')
    have HW5 := hide hW5
    rw [hW5] at q0 q1 q2 r0 r1 r2 hns
    clear M4 S4 hbq hbr hb5' hW5 HRL HNM HBQ HNS
    go_wp2_with fail
    rw [← HW5.out]
    refine HNW.out.mono ?_
    rintro e w6' ⟨rfl, rfl⟩
    clear HNW q0 q1 q2 r0 r1 r2 hns

    go_wp2_with fail
    go_ret
    exact ⟨rfl, F2, G, dz, T, HM.out.duo, HNX.out⟩
  · have e1 : (K == 1) = false := by simp; omega
    have e2 : (K == 2) = true := by simp [hk]
    have HKK := hide hk
    clear hk
    have HS : Hid (∀ w', Below W1.heap.size W1 w' → Calls Tryz.prog 18 #[.pointer (some ⟨b, 0, none⟩), .agg #[.int .i64 P, .int .i64 R, .int .u64 (Tx : Int)]] w' fun e w'' => e = .returned (V.errV A (storeMD d ⟨P, R, Tx⟩).2) ∧ ∃ F', SMid W w'' b F' (V.shortD (storeMD d ⟨P, R, Tx⟩).1) c G d T wr.heap.size ⟨K, n, ⟨P, R, Tx⟩, Dt, fl⟩ (.slice pa Dt.length pc) (.slice fka fl.length fkc)) := fun w' hb' => HM1.out.store HE.out ⟨P, R, Tx⟩ HXB.out.txid HRO.out.1 w' hb'
    have HNY : Hid (∀ T', T' + V.armSum (storeMD d ⟨P, R, Tx⟩).1.arms ≤ T + V.armSum d.arms → NextOf d T ⟨K, n, ⟨P, R, Tx⟩, Dt, fl⟩ (storeMD d ⟨P, R, Tx⟩).1 T') := fun T' h => ⟨store_pend d _, by have := store_armsN d ⟨P, R, Tx⟩; omega, by omega, store_armsIn HAA.out _⟩
    obtain ⟨cd, hcd⟩ : ∃ cd, cd = (storeMD d ⟨P, R, Tx⟩).2 := ⟨_, rfl⟩
    obtain ⟨ev, hev⟩ : ∃ ev, ev = V.errV A cd := ⟨_, rfl⟩
    have HNM : Hid (∀ w', Below W.heap.size W w' → Calls Tryz.prog 17 #[ev] w' fun e w'' => e = .returned (.int .i64 (cd : Int)) ∧ w' = w'') := fun w' hb' => by rw [hev]; exact mnum_any A w' (HER.out.keep hb') cd (by rw [hcd]; exact store_code d _)
    have HRS : Hid (∀ w2 F2, SMid W w2 b F2 (V.shortD (storeMD d ⟨P, R, Tx⟩).1) c G d T wr.heap.size ⟨K, n, ⟨P, R, Tx⟩, Dt, fl⟩ (.slice pa Dt.length pc) (.slice fka fl.length fkc) → ∀ w', Below w2.heap.size w2 w' → Calls Tryz.prog 19 #[.pointer (some ⟨c, 0, none⟩), .agg #[.int .i64 P, .int .i64 R, .int .u64 (Tx : Int)]] w' fun e w'' => e = .returned (.int .i64 (cd : Int)) ∧ ∃ G' T', SMid W w'' b F2 (V.shortD (storeMD d ⟨P, R, Tx⟩).1) c G' (storeMD d ⟨P, R, Tx⟩).1 T' wr.heap.size ⟨K, n, ⟨P, R, Tx⟩, Dt, fl⟩ (.slice pa Dt.length pc) (.slice fka fl.length fkc) ∧ T' + V.armSum (storeMD d ⟨P, R, Tx⟩).1.arms ≤ T + V.armSum d.arms) := fun w2 F2 M w' hb' => by rw [hcd]; exact M.rstore ⟨P, R, Tx⟩ HXB.out.txid HRO.out.1 HRO.out.2.1 HAA.out w' hb'
    rw [← hcd, ← hev] at HS
    generalize (storeMD d ⟨P, R, Tx⟩).1 = dz at *
    have hcc : ((cd : Int) == (cd : Int)) = true := by simp
    clear hcd hev
    go_wp2_with fail
    rw [← HW1.out]
    clear e0 f1 f2 f3 f4 f5 f6
    have g2 : W1.cell? ⟨wr.heap.size, 2, none⟩ = some (.int .i64 P) := HM1.out.nine.s2
    have g3 : W1.cell? ⟨wr.heap.size, 3, none⟩ = some (.int .i64 R) := HM1.out.nine.s3
    have g4 : W1.cell? ⟨wr.heap.size, 4, none⟩ = some (.int .u64 (Tx : Int)) := HM1.out.nine.s4
    go_region_held3 (fun w' => w'.cell? ⟨wr.heap.size, 2, none⟩ = some (.int .i64 P) ∧ w'.cell? ⟨wr.heap.size, 3, none⟩ = some (.int .i64 R) ∧ w'.cell? ⟨wr.heap.size, 4, none⟩ = some (.int .u64 (Tx : Int))) (go_keep)
      (first
        | (go_at_call 19; refine (HRS.out w2 F2 HM2.out _ (by first | exact Below.refl _ _ | exact V.bdrew1 (Below.refl _ _))).mono ?_; rintro e w3 ⟨rfl, G3, T3, M3, t3⟩; have u2 := M3.nine.s2; have u3 := M3.nine.s3; have u4 := M3.nine.s4; simp only [] at u2 u3 u4)
        | (go_at_call 17; refine (HNM.out _ (by first | exact V.bdrew1 HM2.out.duo.bel | exact HM2.out.duo.bel)).mono ?_; rintro e w3 ⟨rfl, rfl⟩)
        | (go_at_call 18; refine (HS.out _ (by first | exact Below.refl _ _ | exact V.bdrew1 (Below.refl _ _))).mono ?_; rintro e w2 ⟨rfl, F2, M2⟩; have HM2 := hide M2; have y2 := M2.nine.s2; have y3 := M2.nine.s3; have y4 := M2.nine.s4; simp only [] at y2 y3 y4; clear M2))
    have HNX := hide (HNY.out T3 t3)
    have HM := hide M3
    clear M3 t3 HM2 HRS HNM HNY HS u2 u3 u4 y2 y3 y4 g2 g3 g4

    go_wp2_with fail
    go_ret
    exact ⟨rfl, F2, G3, dz, T3, HM.out.duo, HNX.out⟩
  · have e1 : (K == 1) = false := by simp; omega
    have e2 : (K == 2) = false := by simp; omega
    have e3 : (K == 3) = true := by simp [hk]
    have HKK := hide hk
    clear hk
    have HS : Hid (∀ w', Below W1.heap.size W1 w' → Calls Tryz.prog 20 #[.pointer (some ⟨b, 0, none⟩), .int .i64 n] w' fun e w'' => e = .returned (V.errV A (wipeMD d n).2) ∧ ∃ F', SMid W w'' b F' (V.shortD (wipeMD d n).1) c G d T wr.heap.size ⟨K, n, ⟨P, R, Tx⟩, Dt, fl⟩ (.slice pa Dt.length pc) (.slice fka fl.length fkc)) := fun w' hb' => HM1.out.wipe HE.out n HRO.out.1 w' hb'
    have HNY : Hid (∀ T', T' + V.armSum (wipeMD d n).1.arms ≤ T + V.armSum d.arms → NextOf d T ⟨K, n, ⟨P, R, Tx⟩, Dt, fl⟩ (wipeMD d n).1 T') := fun T' h => ⟨wipe_pend d _, by have := wipe_armsN d n; omega, by omega, wipe_armsIn HAA.out _⟩
    obtain ⟨cd, hcd⟩ : ∃ cd, cd = (wipeMD d n).2 := ⟨_, rfl⟩
    obtain ⟨ev, hev⟩ : ∃ ev, ev = V.errV A cd := ⟨_, rfl⟩
    have HNM : Hid (∀ w', Below W.heap.size W w' → Calls Tryz.prog 17 #[ev] w' fun e w'' => e = .returned (.int .i64 (cd : Int)) ∧ w' = w'') := fun w' hb' => by rw [hev]; exact mnum_any A w' (HER.out.keep hb') cd (by rw [hcd]; exact wipe_code d _)
    have HRS : Hid (∀ w2 F2, SMid W w2 b F2 (V.shortD (wipeMD d n).1) c G d T wr.heap.size ⟨K, n, ⟨P, R, Tx⟩, Dt, fl⟩ (.slice pa Dt.length pc) (.slice fka fl.length fkc) → ∀ w', Below w2.heap.size w2 w' → Calls Tryz.prog 21 #[.pointer (some ⟨c, 0, none⟩), .int .i64 n] w' fun e w'' => e = .returned (.int .i64 (cd : Int)) ∧ ∃ G' T', SMid W w'' b F2 (V.shortD (wipeMD d n).1) c G' (wipeMD d n).1 T' wr.heap.size ⟨K, n, ⟨P, R, Tx⟩, Dt, fl⟩ (.slice pa Dt.length pc) (.slice fka fl.length fkc) ∧ T' + V.armSum (wipeMD d n).1.arms ≤ T + V.armSum d.arms) := fun w2 F2 M w' hb' => by rw [hcd]; exact M.rwipe n HRO.out.1 HRO.out.2.1 HAA.out w' hb'
    rw [← hcd, ← hev] at HS
    generalize (wipeMD d n).1 = dz at *
    have hcc : ((cd : Int) == (cd : Int)) = true := by simp
    clear hcd hev
    go_wp2_with fail
    rw [← HW1.out]
    clear e0 f1 f2 f3 f4 f5 f6
    have g1 : W1.cell? ⟨wr.heap.size, 1, none⟩ = some (.int .i64 n) := HM1.out.nine.s1
    go_region_held3 (fun w' => w'.cell? ⟨wr.heap.size, 1, none⟩ = some (.int .i64 n)) (go_keep)
      (first
        | (go_at_call 21; refine (HRS.out w2 F2 HM2.out _ (by first | exact Below.refl _ _ | exact V.bdrew1 (Below.refl _ _))).mono ?_; rintro e w3 ⟨rfl, G3, T3, M3, t3⟩; have u1 := M3.nine.s1; simp only [] at u1)
        | (go_at_call 17; refine (HNM.out _ (by first | exact V.bdrew1 HM2.out.duo.bel | exact HM2.out.duo.bel)).mono ?_; rintro e w3 ⟨rfl, rfl⟩)
        | (go_at_call 20; refine (HS.out _ (by first | exact Below.refl _ _ | exact V.bdrew1 (Below.refl _ _))).mono ?_; rintro e w2 ⟨rfl, F2, M2⟩; have HM2 := hide M2; have y1 := M2.nine.s1; simp only [] at y1; clear M2))
    have HNX := hide (HNY.out T3 t3)
    have HM := hide M3
    clear M3 t3 HM2 HRS HNM HNY HS u1 y1 g1

    go_wp2_with fail
    go_ret
    exact ⟨rfl, F2, G3, dz, T3, HM.out.duo, HNX.out⟩
  · have e1 : (K == 1) = false := by simp; omega
    have e2 : (K == 2) = false := by simp; omega
    have e3 : (K == 3) = false := by simp; omega
    have e4 : (K == 4) = true := by simp [hk]
    have HKK := hide hk
    clear hk
    have HS := hide (HM1.out.sync HE.out HRO.out.1 W1 (Below.refl _ _))
    have HRW : Hid (∀ w2 F2, SMid W w2 b F2 (V.shortD d.sync.1) c G d T wr.heap.size ⟨K, n, ⟨P, R, Tx⟩, Dt, fl⟩ (.slice pa Dt.length pc) (.slice fka fl.length fkc) → Calls Tryz.prog 23 #[.pointer (some ⟨c, 0, none⟩)] w2 fun e w'' => e = .returned (.int .i64 (d.sync.2 : Int)) ∧ ∃ G' T', SMid W w'' b F2 (V.shortD d.sync.1) c G' d.sync.1 T' wr.heap.size ⟨K, n, ⟨P, R, Tx⟩, Dt, fl⟩ (.slice pa Dt.length pc) (.slice fka fl.length fkc) ∧ T' + V.armSum d.sync.1.arms ≤ T + V.armSum d.arms) := fun w2 F2 M => M.rsync HRO.out.1 HRO.out.2.1 HAA.out w2 (Below.refl _ _)
    have HNY : Hid (∀ T', T' + V.armSum d.sync.1.arms ≤ T + V.armSum d.arms → NextOf d T ⟨K, n, ⟨P, R, Tx⟩, Dt, fl⟩ d.sync.1 T') := fun T' h => ⟨by have := V.sync_pend d; omega, by have := V.sync_armsN d; omega, by omega, V.sync_armsIn HAA.out⟩
    have HCD := hide (sync_code d)
    generalize d.sync = Q at *
    obtain ⟨dz, cd⟩ := Q
    simp only [] at HS HRW HNY HCD
    obtain ⟨ev, hev⟩ : ∃ ev, ev = V.errV A cd := ⟨_, rfl⟩
    have HNM : Hid (∀ w', Below W.heap.size W w' → Calls Tryz.prog 17 #[ev] w' fun e w'' => e = .returned (.int .i64 (cd : Int)) ∧ w' = w'') := fun w' hb' => by rw [hev]; exact mnum_any A w' (HER.out.keep hb') cd HCD.out
    rw [← hev] at HS
    have hcc : ((cd : Int) == (cd : Int)) = true := by simp
    clear hev
    go_wp2_with fail
    rw [← HW1.out]
    refine HS.out.mono ?_
    rintro e w2 ⟨rfl, F2, M2⟩
    have HR2 := hide (HRW.out w2 F2 M2)
    have HN2 := hide (HNM.out w2 M2.duo.bel)
    clear M2 HS HRW e0 f1 f2 f3 f4 f5 f6 HNM
    go_wp2_with fail
    refine HN2.out.mono ?_
    rintro e w2' ⟨rfl, rfl⟩
    go_wp2_with fail
    refine HR2.out.mono ?_
    rintro e w3 ⟨rfl, G3, T3, M3, t3⟩
    have HNX := hide (HNY.out T3 t3)
    have HM := hide M3
    clear M3 t3 HR2 HNY HN2

    go_wp2_with fail
    go_ret
    exact ⟨rfl, F2, G3, dz, T3, HM.out.duo, HNX.out⟩
  · have e1 : (K == 1) = false := by simp; omega
    have e2 : (K == 2) = false := by simp; omega
    have e3 : (K == 3) = false := by simp; omega
    have e4 : (K == 4) = false := by simp; omega
    have e5 : (K == 5) = true := by simp [hk]
    have HKK := hide hk
    clear hk
    have HS := hide (HM1.out.crash fl (.slice fka fl.length fkc) HFX.out HRO.out.1 W1 (Below.refl _ _))
    have HRW : Hid (∀ w2 F2, SMid W w2 b F2 (V.shortD (d.crash fl)) c G d T wr.heap.size ⟨K, n, ⟨P, R, Tx⟩, Dt, fl⟩ (.slice pa Dt.length pc) (.slice fka fl.length fkc) → Calls Tryz.prog 25 #[.pointer (some ⟨c, 0, none⟩), (.slice fka fl.length fkc)] w2 fun e w'' => e = .returned (.tuple #[]) ∧ ∃ G' T', SMid W w'' b F2 (V.shortD (d.crash fl)) c G' (d.crash fl) T' wr.heap.size ⟨K, n, ⟨P, R, Tx⟩, Dt, fl⟩ (.slice pa Dt.length pc) (.slice fka fl.length fkc) ∧ T' + V.armSum (d.crash fl).arms ≤ T + V.armSum d.arms + fl.length) := fun w2 F2 M => M.rcrash fl (.slice fka fl.length fkc) HFX.out ⟨HXB.out.few, HXB.out.junk⟩ HRO.out.1 HRO.out.2.1 w2 (Below.refl _ _)
    have HNY : Hid (∀ T', T' + V.armSum (d.crash fl).arms ≤ T + V.armSum d.arms + fl.length → NextOf d T ⟨K, n, ⟨P, R, Tx⟩, Dt, fl⟩ (d.crash fl).revive T') := fun T' h => ⟨by have := V.crash_pend d fl; show (d.crash fl).pend.length ≤ _; omega, by show (d.crash fl).arms.length ≤ _; rw [V.crash_arms]; omega, h, by show ∀ a ∈ (d.crash fl).arms, _; rw [V.crash_arms]; exact HAA.out⟩
    have HS5 : Hid (∀ w2 F2 G2 T2, SMid W w2 b F2 (V.shortD (d.crash fl)) c G2 (d.crash fl) T2 wr.heap.size ⟨K, n, ⟨P, R, Tx⟩, Dt, fl⟩ (.slice pa Dt.length pc) (.slice fka fl.length fkc) → Calls Tryz.prog 26 #[.pointer (some ⟨b, 0, none⟩)] w2 fun e w'' => e = .returned (.tuple #[]) ∧ SMid W w'' b F2 (V.shortD (d.crash fl).revive) c G2 (d.crash fl) T2 wr.heap.size ⟨K, n, ⟨P, R, Tx⟩, Dt, fl⟩ (.slice pa Dt.length pc) (.slice fka fl.length fkc)) := fun w2 F2 G2 T2 M => M.revive w2 (Below.refl _ _)
    have HS6 : Hid (∀ w2 F2 G2 T2, SMid W w2 b F2 (V.shortD (d.crash fl).revive) c G2 (d.crash fl) T2 wr.heap.size ⟨K, n, ⟨P, R, Tx⟩, Dt, fl⟩ (.slice pa Dt.length pc) (.slice fka fl.length fkc) → Calls Tryz.prog 27 #[.pointer (some ⟨c, 0, none⟩)] w2 fun e w'' => e = .returned (.tuple #[]) ∧ SMid W w'' b F2 (V.shortD (d.crash fl).revive) c G2 (d.crash fl).revive T2 wr.heap.size ⟨K, n, ⟨P, R, Tx⟩, Dt, fl⟩ (.slice pa Dt.length pc) (.slice fka fl.length fkc)) := fun w2 F2 G2 T2 M => M.rrevive w2 (Below.refl _ _)
    generalize (d.crash fl).revive = dz at *
    generalize d.crash fl = dy at *
    go_wp2_with fail
    rw [← HW1.out]
    refine HS.out.mono ?_
    rintro e w2 ⟨rfl, F2, M2⟩
    have HR2 := hide (HRW.out w2 F2 M2)
    have y6 : w2.cell? ⟨wr.heap.size, 6, none⟩ = some (.slice fka fl.length fkc) := M2.nine.s6
    clear M2 HS HRW e0 f1 f2 f3 f4 f5 f6
    go_wp2_with fail
    refine HR2.out.mono ?_
    rintro e w3 ⟨rfl, G3, T3, M3, t3⟩
    have HNX := hide (HNY.out T3 t3)
    have HR3 := hide (HS5.out w3 F2 G3 T3 M3)
    clear M3 t3 HR2 HNY y6 HS5
    go_wp2_with fail
    refine HR3.out.mono ?_
    rintro e w4 ⟨rfl, M4⟩
    have HR4 := hide (HS6.out w4 F2 G3 T3 M4)
    clear M4 HR3 HS6
    go_wp2_with fail
    refine HR4.out.mono ?_
    rintro e w5 ⟨rfl, M5⟩
    have HM := hide M5
    clear M5 HR4

    go_wp2_with fail
    go_ret
    exact ⟨rfl, F2, G3, dz, T3, HM.out.duo, HNX.out⟩
  · have e1 : (K == 1) = false := by simp; omega
    have e2 : (K == 2) = false := by simp; omega
    have e3 : (K == 3) = false := by simp; omega
    have e4 : (K == 4) = false := by simp; omega
    have e5 : (K == 5) = false := by simp; omega
    have e6 : (K == 6) = true := by simp [hk]
    have HKK := hide hk
    clear hk
    have HS := hide (HM1.out.arm n HXB.out.n.2 fl (.slice fka fl.length fkc) HFX.out ⟨HXB.out.few, HXB.out.junk⟩ HRO.out.2.2 W1 (Below.refl _ _))
    have HRW : Hid (∀ w2 F2, SMid W w2 b F2 (V.shortD (d.armF n fl)) c G d T wr.heap.size ⟨K, n, ⟨P, R, Tx⟩, Dt, fl⟩ (.slice pa Dt.length pc) (.slice fka fl.length fkc) → Calls Tryz.prog 29 #[.pointer (some ⟨c, 0, none⟩), .int .i64 n, (.slice fka fl.length fkc)] w2 fun e w'' => e = .returned (.tuple #[]) ∧ ∃ G', SMid W w'' b F2 (V.shortD (d.armF n fl)) c G' (d.armF n fl) T wr.heap.size ⟨K, n, ⟨P, R, Tx⟩, Dt, fl⟩ (.slice pa Dt.length pc) (.slice fka fl.length fkc)) := fun w2 F2 M => M.rarm n HXB.out.n fl (.slice fka fl.length fkc) HFX.out ⟨HXB.out.few, HXB.out.junk⟩ HRO.out.2.2 w2 (Below.refl _ _)
    have HNX : Hid (NextOf d T ⟨K, n, ⟨P, R, Tx⟩, Dt, fl⟩ (d.armF n fl) T) := ⟨by show d.pend.length ≤ _; omega, by show (d.arms ++ [_]).length ≤ _; simp, by show T + V.armSum (d.arms ++ [_]) ≤ _; simp [V.armSum]; omega, fun a ha => by
      rcases List.mem_append.1 ha with h | h
      · exact HAA.out a h
      · rw [List.mem_singleton.1 h]; exact ⟨HXB.out.few, HXB.out.junk⟩⟩
    generalize d.armF n fl = dz at *
    go_wp2_with fail
    rw [← HW1.out]
    refine HS.out.mono ?_
    rintro e w2 ⟨rfl, F2, M2⟩
    have HR2 := hide (HRW.out w2 F2 M2)
    have y1 : w2.cell? ⟨wr.heap.size, 1, none⟩ = some (.int .i64 n) := M2.nine.s1
    have y6 : w2.cell? ⟨wr.heap.size, 6, none⟩ = some (.slice fka fl.length fkc) := M2.nine.s6
    clear M2 HS HRW e0 f1 f2 f3 f4 f5 f6
    go_wp2_with fail
    refine HR2.out.mono ?_
    rintro e w3 ⟨rfl, G3, M3⟩
    have HM := hide M3
    clear M3 HR2 y1 y6

    go_wp2_with fail
    go_ret
    exact ⟨rfl, F2, G3, dz, T, HM.out.duo, HNX.out⟩
  · have e1 : (K == 1) = false := by simp; omega
    have e2 : (K == 2) = false := by simp; omega
    have e3 : (K == 3) = false := by simp; omega
    have e4 : (K == 4) = false := by simp; omega
    have e5 : (K == 5) = false := by simp; omega
    have e6 : (K == 6) = false := by simp; omega
    have e7 : (K == 7) = true := by simp [hk]
    have HKK := hide hk
    clear hk
    have HCP : Hid (∀ w', Below W1.heap.size W1 w' → Calls Tryz.prog 31 #[(.slice pa Dt.length pc)] w' fun e w'' => ∃ v', e = .returned v' ∧ w''.ownsRow w'.heap.size 5 1 v' Dt.length (u8s Dt) ∧ Below w'.heap.size w' w'') := fun w' hb' => copyP_any _ Dt w' (HPX.out.keep (Below.next HM1.out.duo.bel hb'))
    have HS : Hid (∀ w3 v, Below W1.heap.size W1 w3 → w3.ownsRow W1.heap.size 5 1 v Dt.length (u8s Dt) → Calls Tryz.prog 30 #[.pointer (some ⟨b, 0, none⟩), .int .i64 n, v] w3 fun e w'' => e = .returned (V.errV A (d.write n Dt).2) ∧ ∃ F', SMid W w'' b F' (V.shortD (d.write n Dt).1) c G d T wr.heap.size ⟨K, n, ⟨P, R, Tx⟩, Dt, fl⟩ (.slice pa Dt.length pc) (.slice fka fl.length fkc)) := fun w3 v hb hr => HM1.out.write HE.out n v Dt W1.heap.size HRO.out.1 HXB.out.data w3 hb (Nat.le_refl _) hr
    have HNY : Hid (∀ T', T' + V.armSum (d.write n Dt).1.arms ≤ T + V.armSum d.arms → NextOf d T ⟨K, n, ⟨P, R, Tx⟩, Dt, fl⟩ (d.write n Dt).1 T') := fun T' h => ⟨by have h1 := V.write_pend d n Dt; have h2 := HXB.out.data; simp only [] at h2; omega, by have := V.write_armsN d n Dt; omega, by omega, V.write_armsIn HAA.out _ _⟩
    have HRS : Hid (∀ w2 F2, SMid W w2 b F2 (V.shortD (d.write n Dt).1) c G d T wr.heap.size ⟨K, n, ⟨P, R, Tx⟩, Dt, fl⟩ (.slice pa Dt.length pc) (.slice fka fl.length fkc) → ∀ w', Below w2.heap.size w2 w' → Calls Tryz.prog 32 #[.pointer (some ⟨c, 0, none⟩), .int .i64 n, (.slice pa Dt.length pc)] w' fun e w'' => e = .returned (.int .i64 ((d.write n Dt).2 : Int)) ∧ ∃ G' T', SMid W w'' b F2 (V.shortD (d.write n Dt).1) c G' (d.write n Dt).1 T' wr.heap.size ⟨K, n, ⟨P, R, Tx⟩, Dt, fl⟩ (.slice pa Dt.length pc) (.slice fka fl.length fkc) ∧ T' + V.armSum (d.write n Dt).1.arms ≤ T + V.armSum d.arms) := fun w2 F2 M w' hb' => M.rwrite n HXB.out.n _ Dt HXB.out.data HPX.out HRO.out.1 HRO.out.2.1 HAA.out w' hb'
    have HCD := hide (write_code d n Dt)
    generalize d.write n Dt = Q at *
    obtain ⟨dz, cd⟩ := Q
    simp only [] at HS HRS HNY HCD
    obtain ⟨ev, hev⟩ : ∃ ev, ev = V.errV A cd := ⟨_, rfl⟩
    have HNM : Hid (∀ w', Below W.heap.size W w' → Calls Tryz.prog 17 #[ev] w' fun e w'' => e = .returned (.int .i64 (cd : Int)) ∧ w' = w'') := fun w' hb' => by rw [hev]; exact mnum_any A w' (HER.out.keep hb') cd HCD.out
    rw [← hev] at HS
    have hcc : ((cd : Int) == (cd : Int)) = true := by simp
    clear hev
    go_wp2_with fail
    rw [← HW1.out]
    clear e0 f1 f2 f3 f4 f5 f6
    have g1 : W1.cell? ⟨wr.heap.size, 1, none⟩ = some (.int .i64 n) := HM1.out.nine.s1
    have g5 : W1.cell? ⟨wr.heap.size, 5, none⟩ = some (.slice pa Dt.length pc) := HM1.out.nine.s5
    go_region_held3 (fun w' => w'.cell? ⟨wr.heap.size, 1, none⟩ = some (.int .i64 n) ∧ w'.cell? ⟨wr.heap.size, 5, none⟩ = some (.slice pa Dt.length pc)) (go_keep)
      (first
        | (go_at_call 32; refine (HRS.out w4 F2 HM2.out _ (by first | exact Below.refl _ _ | exact V.bdrew1 (Below.refl _ _))).mono ?_; rintro e w6 ⟨rfl, G3, T3, M3, t3⟩; have u1 := M3.nine.s1; have u5 := M3.nine.s5; simp only [] at u1 u5)
        | (go_at_call 17; refine (HNM.out _ (by first | exact V.bdrew1 HM2.out.duo.bel | exact HM2.out.duo.bel)).mono ?_; rintro e w5 ⟨rfl, rfl⟩)
        | (go_at_call 30; refine (HS.out _ _ hb3 hrow).mono ?_; rintro e w4 ⟨rfl, F2, M2⟩; have HM2 := hide M2; have z1 := M2.nine.s1; have z5 := M2.nine.s5; simp only [] at z1 z5; clear M2)
        | (go_at_call 31; refine (HCP.out _ (by first | exact Below.refl _ _ | exact V.bdrew1 (Below.refl _ _))).mono ?_; rintro e w3 ⟨v, rfl, hrow, hbd⟩; have hb3 : Below W1.heap.size W1 w3 := (by first | exact V.undrew hbd | exact hbd); clear hbd; have y1 := V.cell_below hb3 g1; have y5 := V.cell_below hb3 g5; obtain ⟨va, vc, rfl, -⟩ := V.owns_form hrow))
    have HNX := hide (HNY.out T3 t3)
    have HM := hide M3
    clear M3 t3 HM2 HRS HNM HNY HS HCP u1 u5 z1 z5 y1 y5 g1 g5 hb3 hrow

    go_wp2_with fail
    go_ret
    exact ⟨rfl, F2, G3, dz, T3, HM.out.duo, HNX.out⟩
  · have e1 : (K == 1) = false := by simp; omega
    have e2 : (K == 2) = false := by simp; omega
    have e3 : (K == 3) = false := by simp; omega
    have e4 : (K == 4) = false := by simp; omega
    have e5 : (K == 5) = false := by simp; omega
    have e6 : (K == 6) = false := by simp; omega
    have e7 : (K == 7) = false := by simp; omega
    have e8 : (K == 8) = true := by simp [hk]
    have HKK := hide hk
    clear hk
    have HS := hide (HM1.out.revive W1 (Below.refl _ _))
    have HRW : Hid (∀ w2, SMid W w2 b F (V.shortD d.revive) c G d T wr.heap.size ⟨K, n, ⟨P, R, Tx⟩, Dt, fl⟩ (.slice pa Dt.length pc) (.slice fka fl.length fkc) → Calls Tryz.prog 27 #[.pointer (some ⟨c, 0, none⟩)] w2 fun e w'' => e = .returned (.tuple #[]) ∧ SMid W w'' b F (V.shortD d.revive) c G d.revive T wr.heap.size ⟨K, n, ⟨P, R, Tx⟩, Dt, fl⟩ (.slice pa Dt.length pc) (.slice fka fl.length fkc)) := fun w2 M => M.rrevive w2 (Below.refl _ _)
    have HNX : Hid (NextOf d T ⟨K, n, ⟨P, R, Tx⟩, Dt, fl⟩ d.revive T) := ⟨by show d.pend.length ≤ _; omega, by show d.arms.length ≤ _; omega, by show T + V.armSum d.arms ≤ _; omega, HAA.out⟩
    generalize d.revive = dz at *
    go_wp2_with fail
    rw [← HW1.out]
    refine HS.out.mono ?_
    rintro e w2 ⟨rfl, M2⟩
    have HR2 := hide (HRW.out w2 M2)
    clear M2 HS HRW e0 f1 f2 f3 f4 f5 f6
    go_wp2_with fail
    refine HR2.out.mono ?_
    rintro e w3 ⟨rfl, M3⟩
    have HM := hide M3
    clear M3 HR2

    go_wp2_with fail
    go_ret
    exact ⟨rfl, F, G, dz, T, HM.out.duo, HNX.out⟩
  · have e1 : (K == 1) = false := by simp; omega
    have e2 : (K == 2) = false := by simp; omega
    have e3 : (K == 3) = false := by simp; omega
    have e4 : (K == 4) = false := by simp; omega
    have e5 : (K == 5) = false := by simp; omega
    have e6 : (K == 6) = false := by simp; omega
    have e7 : (K == 7) = false := by simp; omega
    have e8 : (K == 8) = false := by simp; omega
    have HKK := hide hk
    clear hk
    have HNX : Hid (NextOf d T ⟨K, n, ⟨P, R, Tx⟩, Dt, fl⟩ d T) := ⟨by omega, by omega, by omega, HAA.out⟩
    have HM := HM1
    go_wp2_with fail
    rw [← HW1.out]
    go_ret
    exact ⟨rfl, F, G, d, T, HM.out.duo, HNX.out⟩

end Go.Proofs.YtlopimdnjookeabGreatDoor
