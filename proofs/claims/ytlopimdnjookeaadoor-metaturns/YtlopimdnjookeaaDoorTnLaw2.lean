import Derived.Test.YtlopimdnjookeaaDoorTnMath
import Derived.Test.YtlopimdnjookeaaDoorMtWhole
import Derived.Test.YtlopimdnjookeaaDoorMtLawKit
import Derived.Deep.DeepCutAuto
import Derived.Deep.CutBlock
namespace Go.Proofs.YtlopimdnjookeaaDoor
open Go.RowKit

def RootsR (w : World) (ra : Option Addr) (rn : Nat) : Prop := ∀ k, k < rn → ∃ g off x, ra = some ⟨g, off, none⟩ ∧ g < w.heap.size ∧ w.cell? ⟨g, off + k, none⟩ = some (.int .i64 x) ∧ -9223372036854775808 ≤ x ∧ x ≤ 9223372036854775807
theorem step_not {w w' : World} {F F' : Nat → Prop} {b : Nat} (hs : V.Step F F' w w') (hn : ¬ F b) (hb : b < w.heap.size) : ¬ F' b := fun h => (hs.sub b h).elim hn (by omega)

theorem sync_read (d : V.Dev) (m : Mt) (hd : d.dead = false) (ha : d.arms = []) : (readD (readD (storedM d m))).sync = ({ syncM d m with nr := wrap64 (wrap64 (d.nr + 1) + 1) }, 0) := by
  rw [stored_eq]
  obtain ⟨sz, dur, pend, arms, dead, nr, nw, ns⟩ := d
  simp only at hd ha
  subst hd ha
  rfl
theorem crash_read (d : V.Dev) (l : List V.Fate) : ((readD (readD d)).crash l).revive = readD (readD ((d.crash l).revive)) := by
  obtain ⟨sz, dur, pend, arms, dead, nr, nw, ns⟩ := d
  cases dead <;> rfl
theorem Tn.read {sz pages : Int} {d : V.Dev} {m : Mt} (h : Tn sz pages d m) : Tn sz pages (readD d) m := h.same rfl h.pr.pend rfl rfl h.pr.dead

/-- What the loop holds. -/
structure LT (W0 : World) (sz pages : Int) (db lb mb : Nat) (wr : World) (d : V.Dev) (F : Nat → Prop) (m : Mt) : Prop where
  dev : V.DevAt wr db F d
  tn : Tn sz pages d m
  may : MayM m
  pg : m.pages = pages
  lo : ∀ k, F k → W0.heap.size ≤ k
  lrow : wr.heap[lb]? = some (.cells m.cells.toArray 31 (0, 0))
  mrow : ∃ a b c, wr.heap[mb]? = some (.cells #[a, b, c] 31 (0, 0))
  nl : ¬ F lb
  nm : ¬ F mb
  bel : Below W0.heap.size W0 wr
theorem heap_lt {w : World} {b : Nat} {o : Obj} (h : w.heap[b]? = some o) : b < w.heap.size := (Array.getElem?_eq_some_iff.1 h).1
theorem LT.step {W0 wr w' : World} {sz pages : Int} {db lb mb : Nat} {d d' : V.Dev} {F F' : Nat → Prop} {m : Mt} (h : LT W0 sz pages db lb mb wr d F m) (hs : V.Step F F' wr w') (hd : V.DevAt w' db F' d') (ht : Tn sz pages d' m) : LT W0 sz pages db lb mb w' d' F' m := by
  obtain ⟨a, b, c, hm⟩ := h.mrow
  exact ⟨hd, ht, h.may, h.pg, V.Step.ge hs h.lo h.bel.size, (hs.block _ (heap_lt h.lrow) h.nl).trans h.lrow, ⟨a, b, c, (hs.block _ (heap_lt hm) h.nm).trans hm⟩, step_not hs h.nl (heap_lt h.lrow), step_not hs h.nm (heap_lt hm), h.bel.trans (hs.below h.lo h.bel.size)⟩
theorem LT.up {W0 wr w' : World} {sz pages : Int} {db lb mb : Nat} {d : V.Dev} {F : Nat → Prop} {m : Mt} (h : LT W0 sz pages db lb mb wr d F m) (hb : Below wr.heap.size wr w') : LT W0 sz pages db lb mb w' d F m :=
  h.step (V.Step.of_below hb) (h.dev.below hb) h.tn
theorem EnvT.base {b b' : Nat} {A : Nat → Addr} {ac : Addr} {w : World} (h : EnvT b A ac w) (hb : b ≤ b') (hs : b' ≤ w.heap.size) : EnvT b' A ac w :=
  ⟨⟨h.errs.arg, h.errs.many, h.errs.dead, ⟨Nat.lt_of_lt_of_le h.errs.lo.1 hb, Nat.lt_of_lt_of_le h.errs.lo.2.1 hb, Nat.lt_of_lt_of_le h.errs.lo.2.2 hb⟩, hs⟩, h.corr, ⟨Nat.lt_of_lt_of_le h.lo.1 hb, Nat.lt_of_lt_of_le h.lo.2 hb⟩, h.tab⟩

theorem three_keep {w : World} {b b' o : Nat} {v u0 u1 u2 : Value} (hne : ¬ b' = b) (h : w.cell? ⟨b', o, none⟩ = some v) :
    (((w.setCell ⟨b, 0, none⟩ u0).setCell ⟨b, 1, none⟩ u1).setCell ⟨b, 2, none⟩ u2).cell? ⟨b', o, none⟩ = some v := by
  have hs := ((Sole.set b 0 w u0).trans (Sole.set b 1 _ u1)).trans (Sole.set b 2 _ u2)
  exact hs.cell h hne

set_option maxRecDepth 100000 in
set_option maxHeartbeats 16000000 in
theorem turns_any (A : Nat → Addr) (ac : Addr) (FT : Nat) (PG : Int) (ra fa : Option Addr) (rn rc fm fc : Nat) (w : World) (hFT : FT < 18446744073709551616) (hP1 : -9223372036854775808 ≤ PG) (hP2 : PG ≤ 9223372036854775807) (hrn : rn ≤ 140737488355328) (hR : RootsR w ra rn) (hfm : fm * 40 ≤ 140737488355328) (hF : V.FatesR w (.slice fa fm fc)) (hE : EnvT w.heap.size A ac w) :
    Calls Tryd.prog 3 #[.agg #[.int .u64 (FT : Int), .slice ra rn rc, .int .i64 PG, .slice fa fm fc]] w fun e w' => e = .returned (.bool true) ∧ Below w.heap.size w w' := by
  have HE := hide hE
  have HR := hide hR
  have HFR := hide hF
  have HX : Hid (Boxed w.heap.size [.int .u64 (FT : Int), .slice ra rn rc, .int .i64 PG, .slice fa fm fc] (w.alloc (.cells #[.int .u64 (FT : Int), .slice ra rn rc, .int .i64 PG, .slice fa fm fc] 26))) := boxed_new w _ _
  have HB := hide (below_new w (.cells #[.int .u64 (FT : Int), .slice ra rn rc, .int .i64 PG, .slice fa fm fc] 26))
  have HSZ : Hid (w.heap.size < (w.alloc (.cells #[.int .u64 (FT : Int), .slice ra rn rc, .int .i64 PG, .slice fa fm fc] 26)).heap.size) := by show _ < _; simp
  clear hE hR hF
  go_enter Tryd.func3, Tryd.ntmps3
  go_wp2_with fail
  generalize w.alloc (.cells #[.int .u64 (FT : Int), .slice ra rn rc, .int .i64 PG, .slice fa fm fc] 26) = W0 at *
  refine (pick_any PG 100 W0 (by decide) (by decide) hP1 hP2).mono ?_
  rintro e w' ⟨pk, rfl, hpk, rfl⟩
  have hpk1 : pk < 100 := by have := hpk.2 (by decide); omega
  clear hpk hP1 hP2
  have c0 := HX.out.2 0 (by simp)
  simp only [List.getElem_cons_zero] at c0
  obtain ⟨pages, hpg⟩ : ∃ pages : Int, 4 + (pk : Int) = pages := ⟨_, rfl⟩
  have hpg1 : 4 ≤ pages := by omega
  have hpg2 : pages ≤ 103 := by omega
  have hw1 : IntKind.i64.wrap (4 + (pk : Int)) = pages := by rw [hpg, IntKind.wrap_i64]; omega
  have hw2 : IntKind.i64.wrap (8 * pages) = 8 * pages := by rw [IntKind.wrap_i64]; omega
  have hw3 : IntKind.i64.wrap (8 * pages + 3) = 8 * pages + 3 := by rw [IntKind.wrap_i64]; omega
  have HPK : Hid (PagesOk pages) := ⟨hpg1, by omega⟩
  clear hpg
  go_wp2_with fail
  refine (V.new_any (8 * pages + 3) W0).mono ?_
  rintro e w1 ⟨db, F0, rfl, hdev0, hb1, hlo0⟩
  clear hw1 hw2 hw3 hpk1 c0
  obtain ⟨sz, hsz⟩ : ∃ sz : Int, sz = 8 * pages + 3 := ⟨_, rfl⟩
  have HSZ8 : Hid (sz / 8 = pages) := by show _ = _; omega
  have hcl : V.clampN (8 * pages + 3) 0 8388615 = sz := by unfold V.clampN; rw [if_neg (by omega), if_neg (by omega)]; exact hsz.symm
  have HB1 := hide (Below.next HB.out hb1)
  have HBW1 := hide hb1
  have HX1 := hide (HX.out.below hb1)
  have HD0 := hide hdev0
  have HLO0 := hide hlo0
  have HN0 : Hid ((V.newDev (8 * pages + 3)).size = sz ∧ (V.newDev (8 * pages + 3)).dur = [] ∧ (V.newDev (8 * pages + 3)).pend = [] ∧ (V.newDev (8 * pages + 3)).dead = false ∧ (V.newDev (8 * pages + 3)).arms = []) := ⟨hcl, rfl, rfl, rfl, rfl⟩
  clear hdev0 hb1 hlo0 hcl hsz
  generalize V.newDev (8 * pages + 3) = d0 at *
  have HBW1LB : Hid (W0.heap.size ≤ w1.heap.size) := HBW1.out.size
  have c0 := HX1.out.2 0 (by simp)
  simp only [List.getElem_cons_zero] at c0
  obtain ⟨f0, hf0, hcase⟩ : ∃ f0 : Nat, f0 ≤ 9223372036854775808 ∧ ((9223372036854775808 < FT ∧ FT = f0 + 9223372036854775808) ∨ (FT ≤ 9223372036854775808 ∧ FT = f0)) := by
    by_cases h : 9223372036854775808 < FT
    · exact ⟨FT - 9223372036854775808, by omega, .inl ⟨h, by omega⟩⟩
    · exact ⟨FT, by omega, .inr ⟨by omega, rfl⟩⟩
  have HF0 := hide hf0
  clear hf0 hFT
  have HEB : Hid (∀ W, Below W0.heap.size W0 W → EnvT W0.heap.size A ac W) := fun W hb => ((HE.out.up HB.out).base (Nat.le_of_lt HSZ.out) (Nat.le_refl _)).keep hb
  have HFATE : Hid (∀ W, Below w.heap.size w W → Calls Tryd.prog 16 #[.slice fa fm fc] W fun e w' => ∃ v L, e = .returned v ∧ w'.ownsRow W.heap.size 80 4 v L.length (V.fateCells L) ∧ (∀ f ∈ L, f.kind ≠ 3) ∧ Below W.heap.size W w') := fun W hb => whole_any fa fm fc W hfm (HFR.out.below hb)
  clear HFR hfm
  rcases hcase with ⟨hb, hft⟩ | ⟨hb, hft⟩
  · have hd : decide (9223372036854775808 < (FT : Int)) = true := decide_eq_true (by omega)
    have hwf : IntKind.u64.wrap ((FT : Int) - 9223372036854775808) = (f0 : Int) := by rw [IntKind.wrap_u64]; have := HF0.out; omega
    clear hft
    have HM0 : Hid (MayM ⟨pages, 0, f0⟩) := ⟨HPK.out, .inl rfl⟩
    have HX0 : Hid (f0 < 18446744073709551616) := by show _ < _; have := HF0.out; omega
    have hb2 := below_new w1 (.cells #[.int .i64 pages, .int .i64 0, .int .u64 (f0 : Int)] 31)
    have hrow2 : (w1.alloc (.cells #[.int .i64 pages, .int .i64 0, .int .u64 (f0 : Int)] 31)).heap[w1.heap.size]? = some (.cells #[.int .i64 pages, .int .i64 0, .int .u64 (f0 : Int)] 31 (0, 0)) := heap_alloc_new w1 _
    have HST := hide (store_ok W0.heap.size A ac db F0 d0 ⟨pages, 0, f0⟩ _ HM0.out HX0.out (HD0.out.below hb2) (HEB.out _ (Below.next HBW1.out hb2)) HLO0.out HN0.out.2.2.1 HN0.out.2.2.2.1 HN0.out.2.2.2.2 (by rw [HN0.out.1]; exact HSZ8.out))
    have HPR : Hid (Pr sz pages d0 ⟨pages, 0, f0⟩) := fresh sz pages _ d0 HN0.out.2.1 HN0.out.1 HN0.out.2.2.1 HN0.out.2.2.2.1 HN0.out.2.2.2.2 HPK.out
    have HX2 := hide (HX1.out.below hb2)
    have HBW2 := hide (Below.next HBW1.out hb2)
    have HR2 := hide hrow2
    have HNL : Hid (¬ F0 w1.heap.size) := fun h => Nat.lt_irrefl _ (HD0.out.lt _ h)
    clear hb2 hrow2 hd
    go_wp2_with fail
    generalize w1.alloc (.cells #[.int .i64 pages, .int .i64 0, .int .u64 (f0 : Int)] 31) = W2 at *
    generalize w1.heap.size = lb at *
    refine Calls.mono HST.out ?_
    rintro e w3 ⟨rfl, F1, hdev3, hst3⟩
    have hlo3 := V.Step.ge hst3 HLO0.out HBW2.out.size
    have hbel3 := HBW2.out.trans (hst3.below HLO0.out HBW2.out.size)
    have SY := V.sync_any W0.heap.size A db F1 (storedM d0 ⟨pages, 0, f0⟩) w3 hdev3 (HEB.out _ hbel3).errs hlo3 (by show (V.chunks _ _ 1).length ≤ _; rw [V.chunks_len]; decide) (by show V.OpOk _ _ _ d0.arms; rw [HPR.out.arms]; exact V.opdone_nil _ _ _)
    rw [sync_stored d0 _ HPR.out.dead HPR.out.arms] at SY
    have HSY : Hid (Calls Tryd.prog 12 #[.pointer (some ⟨db, 0, none⟩)] w3 fun e w' => e = .returned .nilIface ∧ ∃ F', V.DevAt w' db F' (syncM d0 ⟨pages, 0, f0⟩) ∧ V.Step F1 F' w3 w') := SY
    have HS3 := hide hst3
    have HLO3 := hide hlo3
    have HBL3 := hide hbel3
    clear SY hdev3 hst3 hlo3 hbel3 HST
    go_wp2_with fail
    refine Calls.mono HSY.out ?_
    rintro e w4 ⟨rfl, F2, hdev4, hst4⟩
    have hst24 := HS3.out.trans hst4
    have HTN : Hid (Tn sz pages (syncM d0 ⟨pages, 0, f0⟩) ⟨pages, 0, f0⟩) := HPR.out.synced
    have HLT4 : Hid (∀ mb, (∃ a b c, w4.heap[mb]? = some (.cells #[a, b, c] 31 (0, 0))) → ¬ F2 mb → LT W0 sz pages db lb mb w4 (syncM d0 ⟨pages, 0, f0⟩) F2 ⟨pages, 0, f0⟩) := fun mb h1 h2 => ⟨hdev4, HTN.out, HM0.out, rfl, V.Step.ge hst24 HLO0.out HBW2.out.size, (hst24.block _ (heap_lt HR2.out) HNL.out).trans HR2.out, h1, step_not hst24 HNL.out (heap_lt HR2.out), h2, HBW2.out.trans (hst24.below HLO0.out HBW2.out.size)⟩
    have HLT4' := hide (HLT4.out lb ⟨_, _, _, (hst24.block _ (heap_lt HR2.out) HNL.out).trans HR2.out⟩ (step_not hst24 HNL.out (heap_lt HR2.out)))
    have HX4 : Hid (Boxed w.heap.size [.int .u64 (FT : Int), .slice ra rn rc, .int .i64 PG, .slice fa fm fc] w4) := ⟨Nat.lt_of_lt_of_le HX2.out.1 hst24.size, fun j hj => hst24.cell (HX2.out.2 j hj) (fun h => Nat.lt_irrefl _ (Nat.lt_of_lt_of_le HSZ.out (HLO0.out _ h)))⟩
    clear hdev4 hst4 hst24 HSY HS3 HLO3 HBL3 HLT4 HPR
    generalize syncM d0 ⟨pages, 0, f0⟩ = d4 at *
    have HRD := hide HTN.out.reads
    have LD := load_any W0.heap.size A ac db F2 d4 w4 HLT4'.out.dev (HEB.out _ HLT4'.out.bel) HLT4'.out.lo HTN.out.pr.dead (by rw [HTN.out.pr.size, HSZ8.out]; exact HPK.out) ⟨pages, 0, f0⟩ (lens_dev _ d4 (by rw [HRD.out.1]; exact mpage_len _) (by rw [HRD.out.2]; exact HTN.out.pr.len)).1 (lens_dev _ d4 (by rw [HRD.out.1]; exact mpage_len _) (by rw [HRD.out.2]; exact HTN.out.pr.len)).2 (by rw [HTN.out.pr.size, HSZ8.out]; exact choV_dev _ _ _ pages d4 HPK.out HM0.out HX0.out rfl HRD.out.1 (by rw [HRD.out.2]; exact HTN.out.pr.old))
    have HLD : Hid (Calls Tryd.prog 13 #[.pointer (some ⟨db, 0, none⟩)] w4 fun e w' => e = .returned (.tuple #[.agg #[.int .i64 pages, .int .i64 0, .int .u64 (f0 : Int)], .nilIface]) ∧ V.DevAt w' db F2 (readD (readD d4)) ∧ V.Step F2 F2 w4 w') := LD
    clear LD HRD
    go_wp2_with fail
    refine Calls.mono HLD.out ?_
    rintro e w5 ⟨rfl, hdev5, hst5⟩
    have hlt5 := HLT4'.out.step hst5 hdev5 HTN.out.read.read
    have hb6 := below_new w5 (.cells #[.int .i64 pages, .int .i64 0, .int .u64 (f0 : Int)] 31)
    have hrow6 : (w5.alloc (.cells #[.int .i64 pages, .int .i64 0, .int .u64 (f0 : Int)] 31)).heap[w5.heap.size]? = some (.cells #[.int .i64 pages, .int .i64 0, .int .u64 (f0 : Int)] 31 (0, 0)) := heap_alloc_new w5 _
    have HLT6 : Hid (LT W0 sz pages db lb w5.heap.size (w5.alloc (.cells #[.int .i64 pages, .int .i64 0, .int .u64 (f0 : Int)] 31)) (readD (readD d4)) F2 ⟨pages, 0, f0⟩) := by
      have h := hlt5.up hb6
      exact ⟨h.dev, h.tn, h.may, h.pg, h.lo, h.lrow, ⟨_, _, _, hrow6⟩, h.nl, fun hf => Nat.lt_irrefl _ (hdev5.lt _ hf), h.bel⟩
    have HX6 : Hid (Boxed w.heap.size [.int .u64 (FT : Int), .slice ra rn rc, .int .i64 PG, .slice fa fm fc] (w5.alloc (.cells #[.int .i64 pages, .int .i64 0, .int .u64 (f0 : Int)] 31))) := by
      have h : Boxed w.heap.size [.int .u64 (FT : Int), .slice ra rn rc, .int .i64 PG, .slice fa fm fc] w5 := ⟨Nat.lt_of_lt_of_le HX4.out.1 hst5.size, fun j hj => hst5.cell (HX4.out.2 j hj) (fun h => Nat.lt_irrefl _ (Nat.lt_of_lt_of_le HSZ.out (HLT4'.out.lo _ h)))⟩
      exact h.below hb6
    have HNE6 : Hid (lb ≠ w5.heap.size) := by have := heap_lt hlt5.lrow; show _ ≠ _; omega
    have HLB : Hid (W0.heap.size ≤ lb ∧ W0.heap.size ≤ w5.heap.size) := ⟨HBW1LB.out, hlt5.bel.size⟩
    have x0 : (w5.alloc (.cells #[.int .i64 pages, .int .i64 0, .int .u64 (f0 : Int)] 31)).cell? ⟨lb, 0, none⟩ = some (.int .i64 pages) := by rw [cell_of_row _ _ _ _ _ _ HLT6.out.lrow]; rfl
    have x1 : (w5.alloc (.cells #[.int .i64 pages, .int .i64 0, .int .u64 (f0 : Int)] 31)).cell? ⟨lb, 1, none⟩ = some (.int .i64 0) := by rw [cell_of_row _ _ _ _ _ _ HLT6.out.lrow]; rfl
    have x2 : (w5.alloc (.cells #[.int .i64 pages, .int .i64 0, .int .u64 (f0 : Int)] 31)).cell? ⟨lb, 2, none⟩ = some (.int .u64 (f0 : Int)) := by rw [cell_of_row _ _ _ _ _ _ HLT6.out.lrow]; rfl
    have mself : ∀ w, (binOp .neq 31 (.agg #[.int .i64 pages, .int .i64 0, .int .u64 (f0 : Int)]) (.agg #[.int .i64 pages, .int .i64 0, .int .u64 (f0 : Int)])).run Tryd.prog w = .ok (.bool false) w := fun w => mt_neq w _ _ true (mt_self w _ _ _)
    clear hdev5 hst5 hlt5 hb6 hrow6 HLD HLT4' HX4 HTN HM0
    go_wp2_with fail
    clear x0 x1 x2 mself
    generalize w5.alloc (.cells #[.int .i64 pages, .int .i64 0, .int .u64 (f0 : Int)] 31) = W6 at *
    generalize w5.heap.size = mb at *
    go_loopw [11] (fun u11 wr => ∃ (i : Nat) (d : V.Dev) (F : Nat → Prop) (m : Mt), i ≤ rn ∧ u11 = .int .i64 (i : Int) ∧ m.txid = f0 + i ∧ LT W0 sz pages db lb mb wr d F m ∧ Boxed w.heap.size [.int .u64 (FT : Int), .slice ra rn rc, .int .i64 PG, .slice fa fm fc] wr) (fun u11 _ => rn - (intOf u11).toNat)
    case atStart => exact ⟨0, _, F2, ⟨pages, 0, f0⟩, Nat.zero_le _, rfl, rfl, HLT6.out, HX6.out⟩
    case round =>
      obtain ⟨i, d, F, m, hi, rfl, htx, hlt, hbx⟩ := hrel
      clear HLT6 HX6
      obtain ⟨P, R, T⟩ := m
      simp only at htx
      have HTX := hide htx
      have HLT := hide hlt
      have HBX := hide hbx
      have hPp : P = pages := hlt.pg
      subst hPp
      have hT64 : T < 18446744073709551616 := by have := HF0.out; omega
      have b1 := HBX.out.2 1 (by simp)
      have b3 := HBX.out.2 3 (by simp)
      simp only [List.getElem_cons_zero, List.getElem_cons_succ] at b1 b3
      have x0 : wr.cell? ⟨lb, 0, none⟩ = some (.int .i64 P) := by rw [cell_of_row _ _ _ _ _ _ HLT.out.lrow]; rfl
      have x1 : wr.cell? ⟨lb, 1, none⟩ = some (.int .i64 R) := by rw [cell_of_row _ _ _ _ _ _ HLT.out.lrow]; rfl
      have x2 : wr.cell? ⟨lb, 2, none⟩ = some (.int .u64 (T : Int)) := by rw [cell_of_row _ _ _ _ _ _ HLT.out.lrow]; rfl
      have HBWR : Hid (Below w.heap.size w wr) := HB.out.trans (HLT.out.bel.mono (Nat.le_of_lt HSZ.out))
      clear htx hlt hbx
      by_cases hlr : i < rn
      · obtain ⟨rg, ro, rx, rfl, hrg, hrc, hrb1, hrb2⟩ := HR.out i hlr
        have r0 : wr.cell? ⟨rg, ro + i, none⟩ = some (.int .i64 rx) := (HBWR.out.cell hrg).trans hrc
        have j0 : (0 : Int) ≤ (i : Int) := by omega
        have j1 : (i : Int) < (rn : Int) := by omega
        have hwt : IntKind.u64.wrap ((T : Int) + 1) = ((T + 1 : Nat) : Int) := by rw [IntKind.wrap_u64]; have := HF0.out; have := HTX.out; omega
        obtain ⟨T1, hT1⟩ : ∃ T1, T1 = T + 1 := ⟨_, rfl⟩
        rw [← hT1] at hwt
        have HT1 := hide hT1
        have hT164 : T1 < 18446744073709551616 := by have := HF0.out; have := HTX.out; omega
        clear hrg hrc hT1
        have HTD : Hid (∀ W, Calls Tryd.prog 14 #[.agg #[.int .i64 P, .int .i64 rx, .int .u64 (T1 : Int)]] W fun e w' => ∃ P2 R2 : Int, e = .returned (.agg #[.int .i64 P2, .int .i64 R2, .int .u64 (T1 : Int)]) ∧ MayM ⟨P2, R2, T1⟩ ∧ Below W.heap.size W w') := fun W => tidy_any P rx T1 W (by omega) (by omega) hrb1 hrb2
        have hlbw : lb < wr.heap.size := heap_lt HLT.out.lrow
        have hrgw : rg < wr.heap.size := World.block_lt_of_cell? wr _ r0
        have hxw : w.heap.size < wr.heap.size := HBX.out.1
        have n1 : ¬ w.heap.size = wr.heap.size := by omega
        have n2 : ¬ rg = wr.heap.size := by omega
        have n3 : ¬ lb = wr.heap.size := by omega
        go_upto_region 17 with fail
        go_cut [12] (fun u12 wx => ∃ (nb : Nat) (P2 R2 : Int), u12 = .pointer (some ⟨nb, 0, none⟩) ∧ MayM ⟨P2, R2, T1⟩ ∧ wx.heap[nb]? = some (.cells #[.int .i64 P2, .int .i64 R2, .int .u64 (T1 : Int)] 31 (0, 0)) ∧ wr.heap.size ≤ nb ∧ Below wr.heap.size wr wx)
        case first =>
          go_region_held3 (fun w' => w'.cell? ⟨w.heap.size, 1, none⟩ = some (.slice (some ⟨rg, ro, none⟩) rn rc) ∧ w'.cell? ⟨rg, ro + i, none⟩ = some (.int .i64 rx) ∧ w'.cell? ⟨lb, 2, none⟩ = some (.int .u64 (T : Int))) (go_keep)
            (first
              | (go_at_call 14; refine (HTD.out _).mono ?_; rintro e w7 ⟨P2, R2, rfl, hm2, hb7d⟩; have hz7 := (hb7d.block wr.heap.size (by simp)).trans (drew_heap (heap_alloc_new wr (.cells #[.int .i64 0, .int .i64 0, .int .u64 0] 31))); have hb7 : Below wr.heap.size wr w7 := Below.next ((below_new wr _).drew) hb7d; have HM2 := hide hm2; have HB7 := hide hb7; have HZ7 := hide hz7; have q1 : w7.cell? ⟨w.heap.size, 1, none⟩ = some (.slice (some ⟨rg, ro, none⟩) rn rc) := (hb7.cell hxw).trans b1; have q2 : w7.cell? ⟨rg, ro + i, none⟩ = some (.int .i64 rx) := (hb7.cell hrgw).trans r0; have q3 : w7.cell? ⟨lb, 2, none⟩ = some (.int .u64 (T : Int)) := (hb7.cell hlbw).trans x2; obtain ⟨z0, z1, z2, f0', f1, f2⟩ := zero_cells hz7; have k1 := three_keep (u0 := .int .i64 P2) (u1 := .int .i64 R2) (u2 := .int .u64 (T1 : Int)) n1 q1; have k2 := three_keep (u0 := .int .i64 P2) (u1 := .int .i64 R2) (u2 := .int .u64 (T1 : Int)) n2 q2; have k3 := three_keep (u0 := .int .i64 P2) (u1 := .int .i64 R2) (u2 := .int .u64 (T1 : Int)) n3 q3; clear hm2 hb7 hb7d hz7)
              | (go_at_call 14; refine (HTD.out _).mono ?_; rintro e w7 ⟨P2, R2, rfl, hm2, hb7d⟩; have hb7 : Below wr.heap.size wr w7 := ⟨hb7d.os, hb7d.tape, hb7d.output, hb7d.size, hb7d.block⟩; have HM2 := hide hm2; have HB7 := hide hb7; have q1 : w7.cell? ⟨w.heap.size, 1, none⟩ = some (.slice (some ⟨rg, ro, none⟩) rn rc) := (hb7.cell hxw).trans b1; have q2 : w7.cell? ⟨rg, ro + i, none⟩ = some (.int .i64 rx) := (hb7.cell hrgw).trans r0; have q3 : w7.cell? ⟨lb, 2, none⟩ = some (.int .u64 (T : Int)) := (hb7.cell hlbw).trans x2; have hsz7 := hb7.size; have m1 : ¬ w.heap.size = w7.heap.size := (by omega); have m2 : ¬ rg = w7.heap.size := (by omega); have m3 : ¬ lb = w7.heap.size := (by omega); clear hm2 hb7 hb7d hsz7))
          · go_wp2_with fail
            go_meet
            case rel => exact ⟨w7.heap.size, P2, R2, rfl, HM2.out, heap_alloc_new w7 _, HB7.out.size, Below.next HB7.out (below_new w7 _)⟩
          · go_wp2_with fail
            go_meet
            case rel => exact ⟨wr.heap.size, P2, R2, rfl, HM2.out, set_three HZ7.out, Nat.le_refl _, below_three HB7.out (Nat.le_refl _)⟩
        case rest =>
          obtain ⟨nb, P2, R2, rfl, hm2, hrow, hnb, hbx7⟩ := hcut
          have e0 : wc.cell? ⟨nb, 0, none⟩ = some (.int .i64 P2) := by rw [cell_of_row _ _ _ _ _ _ hrow]; rfl
          have e1 : wc.cell? ⟨nb, 1, none⟩ = some (.int .i64 R2) := by rw [cell_of_row _ _ _ _ _ _ hrow]; rfl
          have e2 : wc.cell? ⟨nb, 2, none⟩ = some (.int .u64 (T1 : Int)) := by rw [cell_of_row _ _ _ _ _ _ hrow]; rfl
          have ef0 : wc.frozen? ⟨nb, 0, none⟩ = false := frozen_of_row _ _ _ _ _ hrow
          have ef1 : wc.frozen? ⟨nb, 1, none⟩ = false := frozen_of_row _ _ _ _ _ hrow
          obtain ⟨ma0, mb0, mc0, hmr⟩ := HLT.out.mrow
          have HNBM : Hid (¬ nb = mb) := by have := heap_lt hmr; show ¬ _; omega
          have HNBL : Hid (¬ nb = lb) := by show ¬ _; omega
          have HNB := hide hnb
          have hrowA : (wc.setCell ⟨nb, 0, none⟩ (.int .i64 P)).heap[nb]? = some (.cells #[.int .i64 P, .int .i64 R2, .int .u64 (T1 : Int)] 31 (0, 0)) := by rw [heap_setCell_same wc nb 0 _ _ _ hrow]; rfl
          have hbelA : Below wr.heap.size wr (wc.setCell ⟨nb, 0, none⟩ (.int .i64 P)) := hbx7.setCell hnb _
          have hroot : R2 = 0 ∨ (2 ≤ R2 ∧ R2 < P2) := hm2.2
          clear x0 x1 x2 b1 b3 r0 n1 n2 n3 hlbw hrgw hxw hwt HTD hmr hm2
          by_cases hge : P ≤ R2
          · have hdg : decide (P ≤ R2) = true := decide_eq_true hge
            have HROW8 : Hid (((wc.setCell ⟨nb, 0, none⟩ (.int .i64 P)).setCell ⟨nb, 1, none⟩ (.int .i64 2)).heap[nb]? = some (.cells #[.int .i64 P, .int .i64 2, .int .u64 (T1 : Int)] 31 (0, 0))) := by
              show _ = _
              rw [heap_setCell_same _ nb 1 _ _ _ hrowA]; rfl
            have HBEL8 : Hid (Below wr.heap.size wr ((wc.setCell ⟨nb, 0, none⟩ (.int .i64 P)).setCell ⟨nb, 1, none⟩ (.int .i64 2))) := hbelA.setCell hnb _
            have HMAY : Hid (MayM ⟨P, 2, T1⟩) := mayM_mk HPK.out.1 HPK.out.2 (.inr ⟨by omega, by have := HPK.out.1; omega⟩)
            clear hrowA hbelA hrow hbx7 hroot
            have hrow8 : ((wc.setCell ⟨nb, 0, none⟩ (.int .i64 P)).setCell ⟨nb, 1, none⟩ (.int .i64 2)).heap[nb]? = some (.cells #[.int .i64 P, .int .i64 2, .int .u64 (T1 : Int)] 31 (0, 0)) := HROW8.out
            have hb8 : Below wr.heap.size wr ((wc.setCell ⟨nb, 0, none⟩ (.int .i64 P)).setCell ⟨nb, 1, none⟩ (.int .i64 2)) := HBEL8.out
            have HMN : Hid (MayM ⟨P, 2, T1⟩) := HMAY.out
            have HLT8 := hide (HLT.out.up hb8)
            have HX8 := hide (HBX.out.below hb8)
            have HRW8 := hide hrow8
            have HPR := hide (HLT.out.tn.next HLT.out.may hT64 (n := ⟨P, 2, T1⟩) HT1.out)
            have ST := store_ok W0.heap.size A ac db F d ⟨P, 2, T1⟩ _ HMN.out hT164 HLT8.out.dev (HEB.out _ HLT8.out.bel) HLT8.out.lo HPR.out.pend HPR.out.dead HPR.out.arms (by rw [HPR.out.size]; exact HSZ8.out)
            have HST : Hid (Calls Tryd.prog 11 #[.pointer (some ⟨db, 0, none⟩), .agg #[.int .i64 P, .int .i64 2, .int .u64 (T1 : Int)]] ((wc.setCell ⟨nb, 0, none⟩ (.int .i64 P)).setCell ⟨nb, 1, none⟩ (.int .i64 2)) fun e w' => e = .returned .nilIface ∧ ∃ F', V.DevAt w' db F' (storedM d ⟨P, 2, T1⟩) ∧ V.Step F F' ((wc.setCell ⟨nb, 0, none⟩ (.int .i64 P)).setCell ⟨nb, 1, none⟩ (.int .i64 2)) w') := ST
            clear ST hrow8 hb8 HROW8 HBEL8 HMAY
            go_wp2_with fail
            generalize (wc.setCell ⟨nb, 0, none⟩ (.int .i64 P)).setCell ⟨nb, 1, none⟩ (.int .i64 2) = W8 at *
            refine Calls.mono HST.out ?_
            rintro e w9 ⟨rfl, F9, hdev9, hst9⟩
            have hlo9 := V.Step.ge hst9 HLT8.out.lo HLT8.out.bel.size
            have hbl9 := HLT8.out.bel.trans (hst9.below HLT8.out.lo HLT8.out.bel.size)
            have r1 := stored_own d ⟨P, 2, T1⟩
            have r2 := stored_other d ⟨P, 2, T1⟩
            have LD := load_any W0.heap.size A ac db F9 (storedM d ⟨P, 2, T1⟩) w9 hdev9 (HEB.out _ hbl9) hlo9 HPR.out.dead (by show PagesOk (d.size / 8); rw [HPR.out.size, HSZ8.out]; exact HPK.out) ⟨P, 2, T1⟩ (lens_dev _ _ (by rw [r1]; exact mpage_len _) (by rw [r2]; exact HPR.out.len)).1 (lens_dev _ _ (by rw [r1]; exact mpage_len _) (by rw [r2]; exact HPR.out.len)).2 (by show choV _ _ _ _ (d.size / 8) = _; rw [HPR.out.size, HSZ8.out]; exact choV_dev _ _ _ P _ HPK.out HMN.out hT164 rfl r1 (by rw [r2]; exact HPR.out.old))
            have HLD : Hid (Calls Tryd.prog 13 #[.pointer (some ⟨db, 0, none⟩)] w9 fun e w' => e = .returned (.tuple #[.agg #[.int .i64 P, .int .i64 2, .int .u64 (T1 : Int)], .nilIface]) ∧ V.DevAt w' db F9 (readD (readD (storedM d ⟨P, 2, T1⟩))) ∧ V.Step F9 F9 w9 w') := LD
            have HS9 := hide hst9
            clear LD r1 r2 hdev9 hst9 hlo9 hbl9 HST
            go_wp2_with fail
            refine Calls.mono HLD.out ?_
            rintro e w10 ⟨rfl, hdev10, hst10⟩
            have hst := HS9.out.trans hst10
            obtain ⟨ma, mb', mc, hmr8⟩ := HLT8.out.mrow
            have hnF : ¬ F nb := fun hf => by have := HLT.out.dev.lt _ hf; have := HNB.out; omega
            have hl10 := (hst.block _ (heap_lt HLT8.out.lrow) HLT8.out.nl).trans HLT8.out.lrow
            have hm10 := (hst.block _ (heap_lt hmr8) HLT8.out.nm).trans hmr8
            have hn10 := (hst.block _ (heap_lt HRW8.out) hnF).trans HRW8.out
            have m0 : w10.cell? ⟨mb, 0, none⟩ = some ma := by rw [cell_of_row _ _ _ _ _ _ hm10]; rfl
            have m1 : w10.cell? ⟨mb, 1, none⟩ = some mb' := by rw [cell_of_row _ _ _ _ _ _ hm10]; rfl
            have m2 : w10.cell? ⟨mb, 2, none⟩ = some mc := by rw [cell_of_row _ _ _ _ _ _ hm10]; rfl
            have mf0 : w10.frozen? ⟨mb, 0, none⟩ = false := frozen_of_row _ _ _ _ _ hm10
            have mf1 : w10.frozen? ⟨mb, 1, none⟩ = false := frozen_of_row _ _ _ _ _ hm10
            have mf2 : w10.frozen? ⟨mb, 2, none⟩ = false := frozen_of_row _ _ _ _ _ hm10
            have s0 : w10.cell? ⟨nb, 0, none⟩ = some (.int .i64 P) := by rw [cell_of_row _ _ _ _ _ _ hn10]; rfl
            have s1 : w10.cell? ⟨nb, 1, none⟩ = some (.int .i64 2) := by rw [cell_of_row _ _ _ _ _ _ hn10]; rfl
            have s2 : w10.cell? ⟨nb, 2, none⟩ = some (.int .u64 (T1 : Int)) := by rw [cell_of_row _ _ _ _ _ _ hn10]; rfl
            have hX10 : Boxed w.heap.size [.int .u64 (FT : Int), .slice (some ⟨rg, ro, none⟩) rn rc, .int .i64 PG, .slice fa fm fc] w10 := ⟨Nat.lt_of_lt_of_le HX8.out.1 hst.size, fun j hj => hst.cell (HX8.out.2 j hj) (fun h => Nat.lt_irrefl _ (Nat.lt_of_lt_of_le HSZ.out (HLT8.out.lo _ h)))⟩
            have t1 := hX10.2 1 (by simp)
            have t3 := hX10.2 3 (by simp)
            simp only [List.getElem_cons_zero, List.getElem_cons_succ] at t1 t3
            have HX10 := hide hX10
            have HS10 := hide hst
            have HL10 := hide hl10
            have HM10 := hide hm10
            have HN10 := hide hn10
            have HD10 := hide hdev10
            have HNF := hide hnF
            have hnx : ¬ w.heap.size = mb := by have := HLB.out.2; have := HSZ.out; omega
            have hnm : ¬ nb = mb := HNBM.out
            have msn : ∀ w, (binOp .neq 31 (.agg #[.int .i64 P, .int .i64 2, .int .u64 (T1 : Int)]) (.agg #[.int .i64 P, .int .i64 2, .int .u64 (T1 : Int)])).run Tryd.prog w = .ok (.bool false) w := fun w => mt_neq w _ _ true (mt_self w _ _ _)
            have HMLT : Hid (mb < W8.heap.size) := heap_lt hmr8
            have HNLT : Hid (nb < W8.heap.size) := heap_lt HRW8.out
            clear hst hst10 hdev10 hl10 hm10 hn10 hX10 hmr8 hnF HLD HS9 HX8 HRW8
            have hwl : IntKind.i64.wrap ((rn : Int) - 1) = (rn : Int) - 1 := by rw [IntKind.wrap_i64]; omega
            have hb11 : Sole mb w10 (((w10.setCell ⟨mb, 0, none⟩ (.int .i64 P)).setCell ⟨mb, 1, none⟩ (.int .i64 2)).setCell ⟨mb, 2, none⟩ (.int .u64 (T1 : Int))) := ((Sole.set mb 0 w10 _).trans (Sole.set mb 1 _ _)).trans (Sole.set mb 2 _ _)
            have hm11 : (((w10.setCell ⟨mb, 0, none⟩ (.int .i64 P)).setCell ⟨mb, 1, none⟩ (.int .i64 2)).setCell ⟨mb, 2, none⟩ (.int .u64 (T1 : Int))).heap[mb]? = some (.cells #[.int .i64 P, .int .i64 2, .int .u64 (T1 : Int)] 31 (0, 0)) := set_three HM10.out
            have hl11 := (hb11.block _ (heap_lt HL10.out) HNE6.out).trans HL10.out
            have hn11 := (hb11.block _ (heap_lt HN10.out) HNBM.out).trans HN10.out
            have hnf9 : ¬ F9 mb ∧ ¬ F9 lb ∧ ¬ F9 nb := ⟨step_not HS10.out HLT8.out.nm (HMLT.out), step_not HS10.out HLT8.out.nl (heap_lt HLT8.out.lrow), step_not HS10.out HNF.out HNLT.out⟩
            have hst11 : V.Step (fun k => k = mb) (fun k => k = mb) w10 (((w10.setCell ⟨mb, 0, none⟩ (.int .i64 P)).setCell ⟨mb, 1, none⟩ (.int .i64 2)).setCell ⟨mb, 2, none⟩ (.int .u64 (T1 : Int))) := ⟨hb11.os, hb11.tape, hb11.output, hb11.size, hb11.block, fun k h => .inl h⟩
            have hd11 := HD10.out.keep hst11 (fun k hk e => hnf9.1 (by have e' : k = mb := e; rw [← e']; exact hk))
            have hlo11 := V.Step.ge HS10.out HLT8.out.lo HLT8.out.bel.size
            have hbl10 := HLT8.out.bel.trans (HS10.out.below HLT8.out.lo HLT8.out.bel.size)
            have hbl11 : Below W0.heap.size W0 (((w10.setCell ⟨mb, 0, none⟩ (.int .i64 P)).setCell ⟨mb, 1, none⟩ (.int .i64 2)).setCell ⟨mb, 2, none⟩ (.int .u64 (T1 : Int))) := below_three hbl10 HLB.out.2
            have hbx11 : Boxed w.heap.size [.int .u64 (FT : Int), .slice (some ⟨rg, ro, none⟩) rn rc, .int .i64 PG, .slice fa fm fc] (((w10.setCell ⟨mb, 0, none⟩ (.int .i64 P)).setCell ⟨mb, 1, none⟩ (.int .i64 2)).setCell ⟨mb, 2, none⟩ (.int .u64 (T1 : Int))) := ⟨Nat.lt_of_lt_of_le HX10.out.1 hb11.size, fun j hj => hb11.cell (HX10.out.2 j hj) hnx⟩
            have HM11 := hide hm11
            have HL11 := hide hl11
            have HN11 := hide hn11
            have HNF9 := hide hnf9
            have HD11 := hide hd11
            have HLO11 := hide hlo11
            have HBL11 := hide hbl11
            have HBX11 := hide hbx11
            have HPL1 : Hid ((readD (readD (storedM d ⟨P, 2, T1⟩))).pend.length ≤ 140737488355328) := by show (V.chunks _ _ 1).length ≤ _; rw [V.chunks_len]; decide
            clear hb11 hm11 hl11 hn11 hnf9 hst11 hd11 hlo11 hbl10 hbl11 hbx11
            by_cases hlast : i + 1 = rn
            · have hdl : ((i : Int) == (rn : Int) - 1) = true := by rw [beq_iff_eq]; omega
              clear hlast
              go_wp2_with fail
              generalize (((w10.setCell ⟨mb, 0, none⟩ (.int .i64 P)).setCell ⟨mb, 1, none⟩ (.int .i64 2)).setCell ⟨mb, 2, none⟩ (.int .u64 (T1 : Int))) = W11 at *
              clear m0 m1 m2 mf0 mf1 mf2 s0 s1 s2 t1 t3
              have HBWW : Hid (Below w.heap.size w W11) := HB.out.trans (HBL11.out.mono (Nat.le_of_lt HSZ.out))
              refine Calls.mono (HFATE.out W11 HBWW.out) ?_
              rintro e w12 ⟨fv, L, rfl, ho12, hk12, hb12⟩
              obtain ⟨fva, fvn, fvc, rfl⟩ : ∃ a n c, fv = .slice a n c := by
                rcases ho12.2 with ⟨h', h0⟩ | ⟨g, cap, cur, h', _⟩
                · exact ⟨_, _, _, h'⟩
                · exact ⟨_, _, _, h'⟩
              have CR := V.crash_any db F9 (readD (readD (storedM d ⟨P, 2, T1⟩))) w12 (HD11.out.below hb12) L _ (owns_base ho12 (Nat.zero_le _)) HPL1.out
              have HCR := hide CR
              have HK12 := hide hk12
              have HB12 := hide hb12
              clear CR ho12 hk12 hb12
              go_wp2_with fail
              refine Calls.mono HCR.out ?_
              rintro e w13 ⟨rfl, F13, hdev13, hst13⟩
              have HRV := hide (V.revive_any db F13 _ w13 hdev13)
              have HS13 := hide hst13
              clear hdev13 hst13 HCR
              go_wp2_with fail
              refine Calls.mono HRV.out ?_
              rintro e w14 ⟨rfl, hdev14, hst14⟩
              rw [crash_read] at hdev14
              have hst := ((V.Step.of_below (F := F9) HB12.out).trans HS13.out).trans hst14
              have hm14 := (hst.block _ (heap_lt HM11.out) HNF9.out.1).trans HM11.out
              have hl14 := (hst.block _ (heap_lt HL11.out) HNF9.out.2.1).trans HL11.out
              have hn14 := (hst.block _ (heap_lt HN11.out) HNF9.out.2.2).trans HN11.out
              have HLO14 := hide (V.Step.ge hst HLO11.out HBL11.out.size)
              have HBL14 := hide (HBL11.out.trans (hst.below HLO11.out HBL11.out.size))
              have HM14 := hide hm14
              have HL14 := hide hl14
              have HN14 := hide hn14
              have HD14 := hide hdev14
              have HNF14 : Hid (¬ F13 mb ∧ ¬ F13 lb ∧ ¬ F13 nb) := ⟨step_not hst HNF9.out.1 (heap_lt HM11.out), step_not hst HNF9.out.2.1 (heap_lt HL11.out), step_not hst HNF9.out.2.2 (heap_lt HN11.out)⟩
              have HTN := hide (stored_crash HLT.out.tn HLT.out.may hT64 (n := ⟨P, 2, T1⟩) HT1.out L HK12.out)
              clear hdev14 hst14 hst hm14 hl14 hn14 HS13 HRV
              generalize ((storedM d ⟨P, 2, T1⟩).crash L).revive = dX at *
              have HFIN : Hid (∀ w15 (u0 u1 u2 : Value), V.Step F13 F13 w14 w15 → Below w.heap.size w (((w15.setCell ⟨mb, 0, none⟩ u0).setCell ⟨mb, 1, none⟩ u1).setCell ⟨mb, 2, none⟩ u2)) := fun w15 u0 u1 u2 h => HB.out.trans ((below_three (HBL14.out.trans (h.below HLO14.out HBL14.out.size)) HLB.out.2).mono (Nat.le_of_lt HSZ.out))
              rcases HTN.out with htn | htn
              · have htr := htn.read.read
                have LD := load_any W0.heap.size A ac db F13 (readD (readD dX)) w14 HD14.out (HEB.out _ HBL14.out) HLO14.out htr.pr.dead (by rw [htr.pr.size, HSZ8.out]; exact HPK.out) ⟨P, R, T⟩ (lens_dev _ _ (by rw [htr.reads.1]; exact mpage_len _) (by rw [htr.reads.2]; exact htr.pr.len)).1 (lens_dev _ _ (by rw [htr.reads.1]; exact mpage_len _) (by rw [htr.reads.2]; exact htr.pr.len)).2 (by rw [htr.pr.size, HSZ8.out]; exact choV_dev _ _ _ P _ HPK.out HLT.out.may hT64 rfl htr.reads.1 (by rw [htr.reads.2]; exact htr.pr.old))
                have HLD : Hid (Calls Tryd.prog 13 #[.pointer (some ⟨db, 0, none⟩)] w14 fun e w' => e = .returned (.tuple #[.agg #[.int .i64 P, .int .i64 R, .int .u64 (T : Int)], .nilIface]) ∧ V.DevAt w' db F13 (readD (readD (readD (readD dX)))) ∧ V.Step F13 F13 w14 w') := LD
                clear LD htr htn HTN
                go_wp2_with fail
                refine Calls.mono HLD.out ?_
                rintro e w15 ⟨rfl, hdev15, hst15⟩
                have hm15 := (hst15.block _ (heap_lt HM14.out) HNF14.out.1).trans HM14.out
                have hl15 := (hst15.block _ (heap_lt HL14.out) HNF14.out.2.1).trans HL14.out
                have m0 : w15.cell? ⟨mb, 0, none⟩ = some (.int .i64 P) := by rw [cell_of_row _ _ _ _ _ _ hm15]; rfl
                have m1 : w15.cell? ⟨mb, 1, none⟩ = some (.int .i64 2) := by rw [cell_of_row _ _ _ _ _ _ hm15]; rfl
                have m2 : w15.cell? ⟨mb, 2, none⟩ = some (.int .u64 (T1 : Int)) := by rw [cell_of_row _ _ _ _ _ _ hm15]; rfl
                have mf0 : w15.frozen? ⟨mb, 0, none⟩ = false := frozen_of_row _ _ _ _ _ hm15
                have mf1 : w15.frozen? ⟨mb, 1, none⟩ = false := frozen_of_row _ _ _ _ _ hm15
                have mf2 : w15.frozen? ⟨mb, 2, none⟩ = false := frozen_of_row _ _ _ _ _ hm15
                have s0 : w15.cell? ⟨lb, 0, none⟩ = some (.int .i64 P) := by rw [cell_of_row _ _ _ _ _ _ hl15]; rfl
                have s1 : w15.cell? ⟨lb, 1, none⟩ = some (.int .i64 R) := by rw [cell_of_row _ _ _ _ _ _ hl15]; rfl
                have s2 : w15.cell? ⟨lb, 2, none⟩ = some (.int .u64 (T : Int)) := by rw [cell_of_row _ _ _ _ _ _ hl15]; rfl
                have hlm : ¬ lb = mb := HNE6.out
                have mse : ∀ w, (binOp .eql 31 (.agg #[.int .i64 P, .int .i64 R, .int .u64 (T : Int)]) (.agg #[.int .i64 P, .int .i64 R, .int .u64 (T : Int)])).run Tryd.prog w = .ok (.bool true) w := fun w => mt_self w _ _ _
                have HEND := hide (HFIN.out w15 (.int .i64 P) (.int .i64 R) (.int .u64 (T : Int)) hst15)
                clear hdev15 hst15 hm15 hl15
                go_wp2_with fail
                go_ret
                exact ⟨rfl, HEND.out⟩
              · have htr := htn.read.read
                have LD := load_any W0.heap.size A ac db F13 (readD (readD dX)) w14 HD14.out (HEB.out _ HBL14.out) HLO14.out htr.pr.dead (by rw [htr.pr.size, HSZ8.out]; exact HPK.out) ⟨P, 2, T1⟩ (lens_dev _ _ (by rw [htr.reads.1]; exact mpage_len _) (by rw [htr.reads.2]; exact htr.pr.len)).1 (lens_dev _ _ (by rw [htr.reads.1]; exact mpage_len _) (by rw [htr.reads.2]; exact htr.pr.len)).2 (by rw [htr.pr.size, HSZ8.out]; exact choV_dev _ _ _ P _ HPK.out HMN.out hT164 rfl htr.reads.1 (by rw [htr.reads.2]; exact htr.pr.old))
                have HLD : Hid (Calls Tryd.prog 13 #[.pointer (some ⟨db, 0, none⟩)] w14 fun e w' => e = .returned (.tuple #[.agg #[.int .i64 P, .int .i64 2, .int .u64 (T1 : Int)], .nilIface]) ∧ V.DevAt w' db F13 (readD (readD (readD (readD dX)))) ∧ V.Step F13 F13 w14 w') := LD
                clear LD htr htn HTN
                go_wp2_with fail
                refine Calls.mono HLD.out ?_
                rintro e w15 ⟨rfl, hdev15, hst15⟩
                have hm15 := (hst15.block _ (heap_lt HM14.out) HNF14.out.1).trans HM14.out
                have hl15 := (hst15.block _ (heap_lt HL14.out) HNF14.out.2.1).trans HL14.out
                have hn15 := (hst15.block _ (heap_lt HN14.out) HNF14.out.2.2).trans HN14.out
                have m0 : w15.cell? ⟨mb, 0, none⟩ = some (.int .i64 P) := by rw [cell_of_row _ _ _ _ _ _ hm15]; rfl
                have m1 : w15.cell? ⟨mb, 1, none⟩ = some (.int .i64 2) := by rw [cell_of_row _ _ _ _ _ _ hm15]; rfl
                have m2 : w15.cell? ⟨mb, 2, none⟩ = some (.int .u64 (T1 : Int)) := by rw [cell_of_row _ _ _ _ _ _ hm15]; rfl
                have mf0 : w15.frozen? ⟨mb, 0, none⟩ = false := frozen_of_row _ _ _ _ _ hm15
                have mf1 : w15.frozen? ⟨mb, 1, none⟩ = false := frozen_of_row _ _ _ _ _ hm15
                have mf2 : w15.frozen? ⟨mb, 2, none⟩ = false := frozen_of_row _ _ _ _ _ hm15
                have s0 : w15.cell? ⟨lb, 0, none⟩ = some (.int .i64 P) := by rw [cell_of_row _ _ _ _ _ _ hl15]; rfl
                have s1 : w15.cell? ⟨lb, 1, none⟩ = some (.int .i64 R) := by rw [cell_of_row _ _ _ _ _ _ hl15]; rfl
                have s2 : w15.cell? ⟨lb, 2, none⟩ = some (.int .u64 (T : Int)) := by rw [cell_of_row _ _ _ _ _ _ hl15]; rfl
                have q0 : w15.cell? ⟨nb, 0, none⟩ = some (.int .i64 P) := by rw [cell_of_row _ _ _ _ _ _ hn15]; rfl
                have q1 : w15.cell? ⟨nb, 1, none⟩ = some (.int .i64 2) := by rw [cell_of_row _ _ _ _ _ _ hn15]; rfl
                have q2 : w15.cell? ⟨nb, 2, none⟩ = some (.int .u64 (T1 : Int)) := by rw [cell_of_row _ _ _ _ _ _ hn15]; rfl
                have hlm : ¬ lb = mb := HNE6.out
                have mne : ∀ w, (binOp .eql 31 (.agg #[.int .i64 P, .int .i64 2, .int .u64 (T1 : Int)]) (.agg #[.int .i64 P, .int .i64 R, .int .u64 (T : Int)])).run Tryd.prog w = .ok (.bool false) w := fun w => by
                  have hTT : ((T1 : Int) == (T : Int)) = false := by rw [beq_eq_false_iff_ne]; have := HT1.out; omega
                  rw [mt_eq, hTT]; simp
                have mse : ∀ w, (binOp .eql 31 (.agg #[.int .i64 P, .int .i64 2, .int .u64 (T1 : Int)]) (.agg #[.int .i64 P, .int .i64 2, .int .u64 (T1 : Int)])).run Tryd.prog w = .ok (.bool true) w := fun w => mt_self w _ _ _
                have HEND := hide (HFIN.out w15 (.int .i64 P) (.int .i64 2) (.int .u64 (T1 : Int)) hst15)
                clear hdev15 hst15 hm15 hl15 hn15
                go_wp2_with fail
                go_ret
                exact ⟨rfl, HEND.out⟩
            · have hdl : ((i : Int) == (rn : Int) - 1) = false := by rw [beq_eq_false_iff_ne]; omega
              clear hlast
              have HSY0 : Hid (Calls Tryd.prog 12 #[.pointer (some ⟨db, 0, none⟩)] (((w10.setCell ⟨mb, 0, none⟩ (.int .i64 P)).setCell ⟨mb, 1, none⟩ (.int .i64 2)).setCell ⟨mb, 2, none⟩ (.int .u64 (T1 : Int))) fun e w' => e = .returned .nilIface ∧ ∃ F', V.DevAt w' db F' { syncM d ⟨P, 2, T1⟩ with nr := wrap64 (wrap64 (d.nr + 1) + 1) } ∧ V.Step F9 F' (((w10.setCell ⟨mb, 0, none⟩ (.int .i64 P)).setCell ⟨mb, 1, none⟩ (.int .i64 2)).setCell ⟨mb, 2, none⟩ (.int .u64 (T1 : Int))) w') := by
                have SY := V.sync_any W0.heap.size A db F9 (readD (readD (storedM d ⟨P, 2, T1⟩))) _ HD11.out (HEB.out _ HBL11.out).errs HLO11.out HPL1.out (by show V.OpOk _ _ _ d.arms; rw [HPR.out.arms]; exact V.opdone_nil _ _ _)
                rw [sync_read d _ HPR.out.dead HPR.out.arms] at SY
                exact SY
              go_wp2_with fail
              generalize (((w10.setCell ⟨mb, 0, none⟩ (.int .i64 P)).setCell ⟨mb, 1, none⟩ (.int .i64 2)).setCell ⟨mb, 2, none⟩ (.int .u64 (T1 : Int))) = W11 at *
              clear m0 m1 m2 mf0 mf1 mf2 s0 s1 s2 t1 t3
              refine Calls.mono HSY0.out ?_
              rintro e w13 ⟨rfl, F13, hdev13, hst13⟩
              have htn : Tn sz P { syncM d ⟨P, 2, T1⟩ with nr := wrap64 (wrap64 (d.nr + 1) + 1) } ⟨P, 2, T1⟩ := HPR.out.synced.same rfl rfl rfl rfl HPR.out.dead
              have hm13 := (hst13.block _ (heap_lt HM11.out) HNF9.out.1).trans HM11.out
              have hl13 := (hst13.block _ (heap_lt HL11.out) HNF9.out.2.1).trans HL11.out
              have hn13 := (hst13.block _ (heap_lt HN11.out) HNF9.out.2.2).trans HN11.out
              have hbl13 := HBL11.out.trans (hst13.below HLO11.out HBL11.out.size)
              have hlo13 := V.Step.ge hst13 HLO11.out HBL11.out.size
              have hnf13 : ¬ F13 mb ∧ ¬ F13 lb := ⟨step_not hst13 HNF9.out.1 (heap_lt HM11.out), step_not hst13 HNF9.out.2.1 (heap_lt HL11.out)⟩
              have hbx13 : Boxed w.heap.size [.int .u64 (FT : Int), .slice (some ⟨rg, ro, none⟩) rn rc, .int .i64 PG, .slice fa fm fc] w13 := ⟨Nat.lt_of_lt_of_le HBX11.out.1 hst13.size, fun j hj => hst13.cell (HBX11.out.2 j hj) (fun h => Nat.lt_irrefl _ (Nat.lt_of_lt_of_le HSZ.out (HLO11.out _ h)))⟩
              have q0 : w13.cell? ⟨nb, 0, none⟩ = some (.int .i64 P) := by rw [cell_of_row _ _ _ _ _ _ hn13]; rfl
              have q1 : w13.cell? ⟨nb, 1, none⟩ = some (.int .i64 2) := by rw [cell_of_row _ _ _ _ _ _ hn13]; rfl
              have q2 : w13.cell? ⟨nb, 2, none⟩ = some (.int .u64 (T1 : Int)) := by rw [cell_of_row _ _ _ _ _ _ hn13]; rfl
              have s0 : w13.cell? ⟨lb, 0, none⟩ = some (.int .i64 P) := by rw [cell_of_row _ _ _ _ _ _ hl13]; rfl
              have s1 : w13.cell? ⟨lb, 1, none⟩ = some (.int .i64 R) := by rw [cell_of_row _ _ _ _ _ _ hl13]; rfl
              have s2 : w13.cell? ⟨lb, 2, none⟩ = some (.int .u64 (T : Int)) := by rw [cell_of_row _ _ _ _ _ _ hl13]; rfl
              have lf0 : w13.frozen? ⟨lb, 0, none⟩ = false := frozen_of_row _ _ _ _ _ hl13
              have lf1 : w13.frozen? ⟨lb, 1, none⟩ = false := frozen_of_row _ _ _ _ _ hl13
              have lf2 : w13.frozen? ⟨lb, 2, none⟩ = false := frozen_of_row _ _ _ _ _ hl13
              have hs14 := ((Sole.set lb 0 w13 (.int .i64 P)).trans (Sole.set lb 1 _ (.int .i64 2))).trans (Sole.set lb 2 _ (.int .u64 (T1 : Int)))
              have hst14 : V.Step (fun k => k = lb) (fun k => k = lb) w13 (((w13.setCell ⟨lb, 0, none⟩ (.int .i64 P)).setCell ⟨lb, 1, none⟩ (.int .i64 2)).setCell ⟨lb, 2, none⟩ (.int .u64 (T1 : Int))) := ⟨hs14.os, hs14.tape, hs14.output, hs14.size, hs14.block, fun k h => .inl h⟩
              have HLT14 : Hid (LT W0 sz P db lb mb (((w13.setCell ⟨lb, 0, none⟩ (.int .i64 P)).setCell ⟨lb, 1, none⟩ (.int .i64 2)).setCell ⟨lb, 2, none⟩ (.int .u64 (T1 : Int))) { syncM d ⟨P, 2, T1⟩ with nr := wrap64 (wrap64 (d.nr + 1) + 1) } F13 ⟨P, 2, T1⟩) :=
                ⟨hdev13.keep hst14 (fun k hk e => hnf13.2 (by have e' : k = lb := e; rw [← e']; exact hk)), htn, HMN.out, rfl, hlo13, set_three hl13, ⟨_, _, _, (hs14.block _ (heap_lt hm13) (fun e => HNE6.out e.symm)).trans hm13⟩, hnf13.2, hnf13.1, below_three hbl13 HLB.out.1⟩
              have hxl : ¬ w.heap.size = lb := by have := HLB.out.1; have := HSZ.out; omega
              have HBX14 : Hid (Boxed w.heap.size [.int .u64 (FT : Int), .slice (some ⟨rg, ro, none⟩) rn rc, .int .i64 PG, .slice fa fm fc] (((w13.setCell ⟨lb, 0, none⟩ (.int .i64 P)).setCell ⟨lb, 1, none⟩ (.int .i64 2)).setCell ⟨lb, 2, none⟩ (.int .u64 (T1 : Int)))) := ⟨Nat.lt_of_lt_of_le hbx13.1 hs14.size, fun j hj => hs14.cell (hbx13.2 j hj) hxl⟩
              have hnl : ¬ nb = lb := HNBL.out
              clear hdev13 hst13 htn hm13 hl13 hn13 hbl13 hlo13 hnf13 hbx13 hs14 hst14
              go_wp2_with fail
              go_roundw
              case rel => exact ⟨i + 1, _, F13, ⟨P, 2, T1⟩, by omega, by go_num, by have := HT1.out; have := HTX.out; show T1 = _; omega, HLT14.out, HBX14.out⟩
              case measure => simp [intOf]; omega
          · have hdg : decide (P ≤ R2) = false := decide_eq_false hge
            have HROW8 := hide hrowA
            have HBEL8 := hide hbelA
            have HMAY : Hid (MayM ⟨P, R2, T1⟩) := mayM_mk HPK.out.1 HPK.out.2 (hroot.imp id (fun h => ⟨h.1, by omega⟩))
            clear hrowA hbelA hrow hbx7 hroot
            have hrow8 : (wc.setCell ⟨nb, 0, none⟩ (.int .i64 P)).heap[nb]? = some (.cells #[.int .i64 P, .int .i64 R2, .int .u64 (T1 : Int)] 31 (0, 0)) := HROW8.out
            have hb8 : Below wr.heap.size wr (wc.setCell ⟨nb, 0, none⟩ (.int .i64 P)) := HBEL8.out
            have HMN : Hid (MayM ⟨P, R2, T1⟩) := HMAY.out
            have HLT8 := hide (HLT.out.up hb8)
            have HX8 := hide (HBX.out.below hb8)
            have HRW8 := hide hrow8
            have HPR := hide (HLT.out.tn.next HLT.out.may hT64 (n := ⟨P, R2, T1⟩) HT1.out)
            have ST := store_ok W0.heap.size A ac db F d ⟨P, R2, T1⟩ _ HMN.out hT164 HLT8.out.dev (HEB.out _ HLT8.out.bel) HLT8.out.lo HPR.out.pend HPR.out.dead HPR.out.arms (by rw [HPR.out.size]; exact HSZ8.out)
            have HST : Hid (Calls Tryd.prog 11 #[.pointer (some ⟨db, 0, none⟩), .agg #[.int .i64 P, .int .i64 R2, .int .u64 (T1 : Int)]] (wc.setCell ⟨nb, 0, none⟩ (.int .i64 P)) fun e w' => e = .returned .nilIface ∧ ∃ F', V.DevAt w' db F' (storedM d ⟨P, R2, T1⟩) ∧ V.Step F F' (wc.setCell ⟨nb, 0, none⟩ (.int .i64 P)) w') := ST
            clear ST hrow8 hb8 HROW8 HBEL8 HMAY
            go_wp2_with fail
            generalize wc.setCell ⟨nb, 0, none⟩ (.int .i64 P) = W8 at *
            refine Calls.mono HST.out ?_
            rintro e w9 ⟨rfl, F9, hdev9, hst9⟩
            have hlo9 := V.Step.ge hst9 HLT8.out.lo HLT8.out.bel.size
            have hbl9 := HLT8.out.bel.trans (hst9.below HLT8.out.lo HLT8.out.bel.size)
            have r1 := stored_own d ⟨P, R2, T1⟩
            have r2 := stored_other d ⟨P, R2, T1⟩
            have LD := load_any W0.heap.size A ac db F9 (storedM d ⟨P, R2, T1⟩) w9 hdev9 (HEB.out _ hbl9) hlo9 HPR.out.dead (by show PagesOk (d.size / 8); rw [HPR.out.size, HSZ8.out]; exact HPK.out) ⟨P, R2, T1⟩ (lens_dev _ _ (by rw [r1]; exact mpage_len _) (by rw [r2]; exact HPR.out.len)).1 (lens_dev _ _ (by rw [r1]; exact mpage_len _) (by rw [r2]; exact HPR.out.len)).2 (by show choV _ _ _ _ (d.size / 8) = _; rw [HPR.out.size, HSZ8.out]; exact choV_dev _ _ _ P _ HPK.out HMN.out hT164 rfl r1 (by rw [r2]; exact HPR.out.old))
            have HLD : Hid (Calls Tryd.prog 13 #[.pointer (some ⟨db, 0, none⟩)] w9 fun e w' => e = .returned (.tuple #[.agg #[.int .i64 P, .int .i64 R2, .int .u64 (T1 : Int)], .nilIface]) ∧ V.DevAt w' db F9 (readD (readD (storedM d ⟨P, R2, T1⟩))) ∧ V.Step F9 F9 w9 w') := LD
            have HS9 := hide hst9
            clear LD r1 r2 hdev9 hst9 hlo9 hbl9 HST
            go_wp2_with fail
            refine Calls.mono HLD.out ?_
            rintro e w10 ⟨rfl, hdev10, hst10⟩
            have hst := HS9.out.trans hst10
            obtain ⟨ma, mb', mc, hmr8⟩ := HLT8.out.mrow
            have hnF : ¬ F nb := fun hf => by have := HLT.out.dev.lt _ hf; have := HNB.out; omega
            have hl10 := (hst.block _ (heap_lt HLT8.out.lrow) HLT8.out.nl).trans HLT8.out.lrow
            have hm10 := (hst.block _ (heap_lt hmr8) HLT8.out.nm).trans hmr8
            have hn10 := (hst.block _ (heap_lt HRW8.out) hnF).trans HRW8.out
            have m0 : w10.cell? ⟨mb, 0, none⟩ = some ma := by rw [cell_of_row _ _ _ _ _ _ hm10]; rfl
            have m1 : w10.cell? ⟨mb, 1, none⟩ = some mb' := by rw [cell_of_row _ _ _ _ _ _ hm10]; rfl
            have m2 : w10.cell? ⟨mb, 2, none⟩ = some mc := by rw [cell_of_row _ _ _ _ _ _ hm10]; rfl
            have mf0 : w10.frozen? ⟨mb, 0, none⟩ = false := frozen_of_row _ _ _ _ _ hm10
            have mf1 : w10.frozen? ⟨mb, 1, none⟩ = false := frozen_of_row _ _ _ _ _ hm10
            have mf2 : w10.frozen? ⟨mb, 2, none⟩ = false := frozen_of_row _ _ _ _ _ hm10
            have s0 : w10.cell? ⟨nb, 0, none⟩ = some (.int .i64 P) := by rw [cell_of_row _ _ _ _ _ _ hn10]; rfl
            have s1 : w10.cell? ⟨nb, 1, none⟩ = some (.int .i64 R2) := by rw [cell_of_row _ _ _ _ _ _ hn10]; rfl
            have s2 : w10.cell? ⟨nb, 2, none⟩ = some (.int .u64 (T1 : Int)) := by rw [cell_of_row _ _ _ _ _ _ hn10]; rfl
            have hX10 : Boxed w.heap.size [.int .u64 (FT : Int), .slice (some ⟨rg, ro, none⟩) rn rc, .int .i64 PG, .slice fa fm fc] w10 := ⟨Nat.lt_of_lt_of_le HX8.out.1 hst.size, fun j hj => hst.cell (HX8.out.2 j hj) (fun h => Nat.lt_irrefl _ (Nat.lt_of_lt_of_le HSZ.out (HLT8.out.lo _ h)))⟩
            have t1 := hX10.2 1 (by simp)
            have t3 := hX10.2 3 (by simp)
            simp only [List.getElem_cons_zero, List.getElem_cons_succ] at t1 t3
            have HX10 := hide hX10
            have HS10 := hide hst
            have HL10 := hide hl10
            have HM10 := hide hm10
            have HN10 := hide hn10
            have HD10 := hide hdev10
            have HNF := hide hnF
            have hnx : ¬ w.heap.size = mb := by have := HLB.out.2; have := HSZ.out; omega
            have hnm : ¬ nb = mb := HNBM.out
            have msn : ∀ w, (binOp .neq 31 (.agg #[.int .i64 P, .int .i64 R2, .int .u64 (T1 : Int)]) (.agg #[.int .i64 P, .int .i64 R2, .int .u64 (T1 : Int)])).run Tryd.prog w = .ok (.bool false) w := fun w => mt_neq w _ _ true (mt_self w _ _ _)
            have HMLT : Hid (mb < W8.heap.size) := heap_lt hmr8
            have HNLT : Hid (nb < W8.heap.size) := heap_lt HRW8.out
            clear hst hst10 hdev10 hl10 hm10 hn10 hX10 hmr8 hnF HLD HS9 HX8 HRW8
            have hwl : IntKind.i64.wrap ((rn : Int) - 1) = (rn : Int) - 1 := by rw [IntKind.wrap_i64]; omega
            have hb11 : Sole mb w10 (((w10.setCell ⟨mb, 0, none⟩ (.int .i64 P)).setCell ⟨mb, 1, none⟩ (.int .i64 R2)).setCell ⟨mb, 2, none⟩ (.int .u64 (T1 : Int))) := ((Sole.set mb 0 w10 _).trans (Sole.set mb 1 _ _)).trans (Sole.set mb 2 _ _)
            have hm11 : (((w10.setCell ⟨mb, 0, none⟩ (.int .i64 P)).setCell ⟨mb, 1, none⟩ (.int .i64 R2)).setCell ⟨mb, 2, none⟩ (.int .u64 (T1 : Int))).heap[mb]? = some (.cells #[.int .i64 P, .int .i64 R2, .int .u64 (T1 : Int)] 31 (0, 0)) := set_three HM10.out
            have hl11 := (hb11.block _ (heap_lt HL10.out) HNE6.out).trans HL10.out
            have hn11 := (hb11.block _ (heap_lt HN10.out) HNBM.out).trans HN10.out
            have hnf9 : ¬ F9 mb ∧ ¬ F9 lb ∧ ¬ F9 nb := ⟨step_not HS10.out HLT8.out.nm (HMLT.out), step_not HS10.out HLT8.out.nl (heap_lt HLT8.out.lrow), step_not HS10.out HNF.out HNLT.out⟩
            have hst11 : V.Step (fun k => k = mb) (fun k => k = mb) w10 (((w10.setCell ⟨mb, 0, none⟩ (.int .i64 P)).setCell ⟨mb, 1, none⟩ (.int .i64 R2)).setCell ⟨mb, 2, none⟩ (.int .u64 (T1 : Int))) := ⟨hb11.os, hb11.tape, hb11.output, hb11.size, hb11.block, fun k h => .inl h⟩
            have hd11 := HD10.out.keep hst11 (fun k hk e => hnf9.1 (by have e' : k = mb := e; rw [← e']; exact hk))
            have hlo11 := V.Step.ge HS10.out HLT8.out.lo HLT8.out.bel.size
            have hbl10 := HLT8.out.bel.trans (HS10.out.below HLT8.out.lo HLT8.out.bel.size)
            have hbl11 : Below W0.heap.size W0 (((w10.setCell ⟨mb, 0, none⟩ (.int .i64 P)).setCell ⟨mb, 1, none⟩ (.int .i64 R2)).setCell ⟨mb, 2, none⟩ (.int .u64 (T1 : Int))) := below_three hbl10 HLB.out.2
            have hbx11 : Boxed w.heap.size [.int .u64 (FT : Int), .slice (some ⟨rg, ro, none⟩) rn rc, .int .i64 PG, .slice fa fm fc] (((w10.setCell ⟨mb, 0, none⟩ (.int .i64 P)).setCell ⟨mb, 1, none⟩ (.int .i64 R2)).setCell ⟨mb, 2, none⟩ (.int .u64 (T1 : Int))) := ⟨Nat.lt_of_lt_of_le HX10.out.1 hb11.size, fun j hj => hb11.cell (HX10.out.2 j hj) hnx⟩
            have HM11 := hide hm11
            have HL11 := hide hl11
            have HN11 := hide hn11
            have HNF9 := hide hnf9
            have HD11 := hide hd11
            have HLO11 := hide hlo11
            have HBL11 := hide hbl11
            have HBX11 := hide hbx11
            have HPL1 : Hid ((readD (readD (storedM d ⟨P, R2, T1⟩))).pend.length ≤ 140737488355328) := by show (V.chunks _ _ 1).length ≤ _; rw [V.chunks_len]; decide
            clear hb11 hm11 hl11 hn11 hnf9 hst11 hd11 hlo11 hbl10 hbl11 hbx11
            by_cases hlast : i + 1 = rn
            · have hdl : ((i : Int) == (rn : Int) - 1) = true := by rw [beq_iff_eq]; omega
              clear hlast
              go_wp2_with fail
              generalize (((w10.setCell ⟨mb, 0, none⟩ (.int .i64 P)).setCell ⟨mb, 1, none⟩ (.int .i64 R2)).setCell ⟨mb, 2, none⟩ (.int .u64 (T1 : Int))) = W11 at *
              clear m0 m1 m2 mf0 mf1 mf2 s0 s1 s2 t1 t3
              have HBWW : Hid (Below w.heap.size w W11) := HB.out.trans (HBL11.out.mono (Nat.le_of_lt HSZ.out))
              refine Calls.mono (HFATE.out W11 HBWW.out) ?_
              rintro e w12 ⟨fv, L, rfl, ho12, hk12, hb12⟩
              obtain ⟨fva, fvn, fvc, rfl⟩ : ∃ a n c, fv = .slice a n c := by
                rcases ho12.2 with ⟨h', h0⟩ | ⟨g, cap, cur, h', _⟩
                · exact ⟨_, _, _, h'⟩
                · exact ⟨_, _, _, h'⟩
              have CR := V.crash_any db F9 (readD (readD (storedM d ⟨P, R2, T1⟩))) w12 (HD11.out.below hb12) L _ (owns_base ho12 (Nat.zero_le _)) HPL1.out
              have HCR := hide CR
              have HK12 := hide hk12
              have HB12 := hide hb12
              clear CR ho12 hk12 hb12
              go_wp2_with fail
              refine Calls.mono HCR.out ?_
              rintro e w13 ⟨rfl, F13, hdev13, hst13⟩
              have HRV := hide (V.revive_any db F13 _ w13 hdev13)
              have HS13 := hide hst13
              clear hdev13 hst13 HCR
              go_wp2_with fail
              refine Calls.mono HRV.out ?_
              rintro e w14 ⟨rfl, hdev14, hst14⟩
              rw [crash_read] at hdev14
              have hst := ((V.Step.of_below (F := F9) HB12.out).trans HS13.out).trans hst14
              have hm14 := (hst.block _ (heap_lt HM11.out) HNF9.out.1).trans HM11.out
              have hl14 := (hst.block _ (heap_lt HL11.out) HNF9.out.2.1).trans HL11.out
              have hn14 := (hst.block _ (heap_lt HN11.out) HNF9.out.2.2).trans HN11.out
              have HLO14 := hide (V.Step.ge hst HLO11.out HBL11.out.size)
              have HBL14 := hide (HBL11.out.trans (hst.below HLO11.out HBL11.out.size))
              have HM14 := hide hm14
              have HL14 := hide hl14
              have HN14 := hide hn14
              have HD14 := hide hdev14
              have HNF14 : Hid (¬ F13 mb ∧ ¬ F13 lb ∧ ¬ F13 nb) := ⟨step_not hst HNF9.out.1 (heap_lt HM11.out), step_not hst HNF9.out.2.1 (heap_lt HL11.out), step_not hst HNF9.out.2.2 (heap_lt HN11.out)⟩
              have HTN := hide (stored_crash HLT.out.tn HLT.out.may hT64 (n := ⟨P, R2, T1⟩) HT1.out L HK12.out)
              clear hdev14 hst14 hst hm14 hl14 hn14 HS13 HRV
              generalize ((storedM d ⟨P, R2, T1⟩).crash L).revive = dX at *
              have HFIN : Hid (∀ w15 (u0 u1 u2 : Value), V.Step F13 F13 w14 w15 → Below w.heap.size w (((w15.setCell ⟨mb, 0, none⟩ u0).setCell ⟨mb, 1, none⟩ u1).setCell ⟨mb, 2, none⟩ u2)) := fun w15 u0 u1 u2 h => HB.out.trans ((below_three (HBL14.out.trans (h.below HLO14.out HBL14.out.size)) HLB.out.2).mono (Nat.le_of_lt HSZ.out))
              rcases HTN.out with htn | htn
              · have htr := htn.read.read
                have LD := load_any W0.heap.size A ac db F13 (readD (readD dX)) w14 HD14.out (HEB.out _ HBL14.out) HLO14.out htr.pr.dead (by rw [htr.pr.size, HSZ8.out]; exact HPK.out) ⟨P, R, T⟩ (lens_dev _ _ (by rw [htr.reads.1]; exact mpage_len _) (by rw [htr.reads.2]; exact htr.pr.len)).1 (lens_dev _ _ (by rw [htr.reads.1]; exact mpage_len _) (by rw [htr.reads.2]; exact htr.pr.len)).2 (by rw [htr.pr.size, HSZ8.out]; exact choV_dev _ _ _ P _ HPK.out HLT.out.may hT64 rfl htr.reads.1 (by rw [htr.reads.2]; exact htr.pr.old))
                have HLD : Hid (Calls Tryd.prog 13 #[.pointer (some ⟨db, 0, none⟩)] w14 fun e w' => e = .returned (.tuple #[.agg #[.int .i64 P, .int .i64 R, .int .u64 (T : Int)], .nilIface]) ∧ V.DevAt w' db F13 (readD (readD (readD (readD dX)))) ∧ V.Step F13 F13 w14 w') := LD
                clear LD htr htn HTN
                go_wp2_with fail
                refine Calls.mono HLD.out ?_
                rintro e w15 ⟨rfl, hdev15, hst15⟩
                have hm15 := (hst15.block _ (heap_lt HM14.out) HNF14.out.1).trans HM14.out
                have hl15 := (hst15.block _ (heap_lt HL14.out) HNF14.out.2.1).trans HL14.out
                have m0 : w15.cell? ⟨mb, 0, none⟩ = some (.int .i64 P) := by rw [cell_of_row _ _ _ _ _ _ hm15]; rfl
                have m1 : w15.cell? ⟨mb, 1, none⟩ = some (.int .i64 R2) := by rw [cell_of_row _ _ _ _ _ _ hm15]; rfl
                have m2 : w15.cell? ⟨mb, 2, none⟩ = some (.int .u64 (T1 : Int)) := by rw [cell_of_row _ _ _ _ _ _ hm15]; rfl
                have mf0 : w15.frozen? ⟨mb, 0, none⟩ = false := frozen_of_row _ _ _ _ _ hm15
                have mf1 : w15.frozen? ⟨mb, 1, none⟩ = false := frozen_of_row _ _ _ _ _ hm15
                have mf2 : w15.frozen? ⟨mb, 2, none⟩ = false := frozen_of_row _ _ _ _ _ hm15
                have s0 : w15.cell? ⟨lb, 0, none⟩ = some (.int .i64 P) := by rw [cell_of_row _ _ _ _ _ _ hl15]; rfl
                have s1 : w15.cell? ⟨lb, 1, none⟩ = some (.int .i64 R) := by rw [cell_of_row _ _ _ _ _ _ hl15]; rfl
                have s2 : w15.cell? ⟨lb, 2, none⟩ = some (.int .u64 (T : Int)) := by rw [cell_of_row _ _ _ _ _ _ hl15]; rfl
                have hlm : ¬ lb = mb := HNE6.out
                have mse : ∀ w, (binOp .eql 31 (.agg #[.int .i64 P, .int .i64 R, .int .u64 (T : Int)]) (.agg #[.int .i64 P, .int .i64 R, .int .u64 (T : Int)])).run Tryd.prog w = .ok (.bool true) w := fun w => mt_self w _ _ _
                have HEND := hide (HFIN.out w15 (.int .i64 P) (.int .i64 R) (.int .u64 (T : Int)) hst15)
                clear hdev15 hst15 hm15 hl15
                go_wp2_with fail
                go_ret
                exact ⟨rfl, HEND.out⟩
              · have htr := htn.read.read
                have LD := load_any W0.heap.size A ac db F13 (readD (readD dX)) w14 HD14.out (HEB.out _ HBL14.out) HLO14.out htr.pr.dead (by rw [htr.pr.size, HSZ8.out]; exact HPK.out) ⟨P, R2, T1⟩ (lens_dev _ _ (by rw [htr.reads.1]; exact mpage_len _) (by rw [htr.reads.2]; exact htr.pr.len)).1 (lens_dev _ _ (by rw [htr.reads.1]; exact mpage_len _) (by rw [htr.reads.2]; exact htr.pr.len)).2 (by rw [htr.pr.size, HSZ8.out]; exact choV_dev _ _ _ P _ HPK.out HMN.out hT164 rfl htr.reads.1 (by rw [htr.reads.2]; exact htr.pr.old))
                have HLD : Hid (Calls Tryd.prog 13 #[.pointer (some ⟨db, 0, none⟩)] w14 fun e w' => e = .returned (.tuple #[.agg #[.int .i64 P, .int .i64 R2, .int .u64 (T1 : Int)], .nilIface]) ∧ V.DevAt w' db F13 (readD (readD (readD (readD dX)))) ∧ V.Step F13 F13 w14 w') := LD
                clear LD htr htn HTN
                go_wp2_with fail
                refine Calls.mono HLD.out ?_
                rintro e w15 ⟨rfl, hdev15, hst15⟩
                have hm15 := (hst15.block _ (heap_lt HM14.out) HNF14.out.1).trans HM14.out
                have hl15 := (hst15.block _ (heap_lt HL14.out) HNF14.out.2.1).trans HL14.out
                have hn15 := (hst15.block _ (heap_lt HN14.out) HNF14.out.2.2).trans HN14.out
                have m0 : w15.cell? ⟨mb, 0, none⟩ = some (.int .i64 P) := by rw [cell_of_row _ _ _ _ _ _ hm15]; rfl
                have m1 : w15.cell? ⟨mb, 1, none⟩ = some (.int .i64 R2) := by rw [cell_of_row _ _ _ _ _ _ hm15]; rfl
                have m2 : w15.cell? ⟨mb, 2, none⟩ = some (.int .u64 (T1 : Int)) := by rw [cell_of_row _ _ _ _ _ _ hm15]; rfl
                have mf0 : w15.frozen? ⟨mb, 0, none⟩ = false := frozen_of_row _ _ _ _ _ hm15
                have mf1 : w15.frozen? ⟨mb, 1, none⟩ = false := frozen_of_row _ _ _ _ _ hm15
                have mf2 : w15.frozen? ⟨mb, 2, none⟩ = false := frozen_of_row _ _ _ _ _ hm15
                have s0 : w15.cell? ⟨lb, 0, none⟩ = some (.int .i64 P) := by rw [cell_of_row _ _ _ _ _ _ hl15]; rfl
                have s1 : w15.cell? ⟨lb, 1, none⟩ = some (.int .i64 R) := by rw [cell_of_row _ _ _ _ _ _ hl15]; rfl
                have s2 : w15.cell? ⟨lb, 2, none⟩ = some (.int .u64 (T : Int)) := by rw [cell_of_row _ _ _ _ _ _ hl15]; rfl
                have q0 : w15.cell? ⟨nb, 0, none⟩ = some (.int .i64 P) := by rw [cell_of_row _ _ _ _ _ _ hn15]; rfl
                have q1 : w15.cell? ⟨nb, 1, none⟩ = some (.int .i64 R2) := by rw [cell_of_row _ _ _ _ _ _ hn15]; rfl
                have q2 : w15.cell? ⟨nb, 2, none⟩ = some (.int .u64 (T1 : Int)) := by rw [cell_of_row _ _ _ _ _ _ hn15]; rfl
                have hlm : ¬ lb = mb := HNE6.out
                have mne : ∀ w, (binOp .eql 31 (.agg #[.int .i64 P, .int .i64 R2, .int .u64 (T1 : Int)]) (.agg #[.int .i64 P, .int .i64 R, .int .u64 (T : Int)])).run Tryd.prog w = .ok (.bool false) w := fun w => by
                  have hTT : ((T1 : Int) == (T : Int)) = false := by rw [beq_eq_false_iff_ne]; have := HT1.out; omega
                  rw [mt_eq, hTT]; simp
                have mse : ∀ w, (binOp .eql 31 (.agg #[.int .i64 P, .int .i64 R2, .int .u64 (T1 : Int)]) (.agg #[.int .i64 P, .int .i64 R2, .int .u64 (T1 : Int)])).run Tryd.prog w = .ok (.bool true) w := fun w => mt_self w _ _ _
                have HEND := hide (HFIN.out w15 (.int .i64 P) (.int .i64 R2) (.int .u64 (T1 : Int)) hst15)
                clear hdev15 hst15 hm15 hl15 hn15
                go_wp2_with fail
                go_ret
                exact ⟨rfl, HEND.out⟩
            · have hdl : ((i : Int) == (rn : Int) - 1) = false := by rw [beq_eq_false_iff_ne]; omega
              clear hlast
              have HSY0 : Hid (Calls Tryd.prog 12 #[.pointer (some ⟨db, 0, none⟩)] (((w10.setCell ⟨mb, 0, none⟩ (.int .i64 P)).setCell ⟨mb, 1, none⟩ (.int .i64 R2)).setCell ⟨mb, 2, none⟩ (.int .u64 (T1 : Int))) fun e w' => e = .returned .nilIface ∧ ∃ F', V.DevAt w' db F' { syncM d ⟨P, R2, T1⟩ with nr := wrap64 (wrap64 (d.nr + 1) + 1) } ∧ V.Step F9 F' (((w10.setCell ⟨mb, 0, none⟩ (.int .i64 P)).setCell ⟨mb, 1, none⟩ (.int .i64 R2)).setCell ⟨mb, 2, none⟩ (.int .u64 (T1 : Int))) w') := by
                have SY := V.sync_any W0.heap.size A db F9 (readD (readD (storedM d ⟨P, R2, T1⟩))) _ HD11.out (HEB.out _ HBL11.out).errs HLO11.out HPL1.out (by show V.OpOk _ _ _ d.arms; rw [HPR.out.arms]; exact V.opdone_nil _ _ _)
                rw [sync_read d _ HPR.out.dead HPR.out.arms] at SY
                exact SY
              go_wp2_with fail
              generalize (((w10.setCell ⟨mb, 0, none⟩ (.int .i64 P)).setCell ⟨mb, 1, none⟩ (.int .i64 R2)).setCell ⟨mb, 2, none⟩ (.int .u64 (T1 : Int))) = W11 at *
              clear m0 m1 m2 mf0 mf1 mf2 s0 s1 s2 t1 t3
              refine Calls.mono HSY0.out ?_
              rintro e w13 ⟨rfl, F13, hdev13, hst13⟩
              have htn : Tn sz P { syncM d ⟨P, R2, T1⟩ with nr := wrap64 (wrap64 (d.nr + 1) + 1) } ⟨P, R2, T1⟩ := HPR.out.synced.same rfl rfl rfl rfl HPR.out.dead
              have hm13 := (hst13.block _ (heap_lt HM11.out) HNF9.out.1).trans HM11.out
              have hl13 := (hst13.block _ (heap_lt HL11.out) HNF9.out.2.1).trans HL11.out
              have hn13 := (hst13.block _ (heap_lt HN11.out) HNF9.out.2.2).trans HN11.out
              have hbl13 := HBL11.out.trans (hst13.below HLO11.out HBL11.out.size)
              have hlo13 := V.Step.ge hst13 HLO11.out HBL11.out.size
              have hnf13 : ¬ F13 mb ∧ ¬ F13 lb := ⟨step_not hst13 HNF9.out.1 (heap_lt HM11.out), step_not hst13 HNF9.out.2.1 (heap_lt HL11.out)⟩
              have hbx13 : Boxed w.heap.size [.int .u64 (FT : Int), .slice (some ⟨rg, ro, none⟩) rn rc, .int .i64 PG, .slice fa fm fc] w13 := ⟨Nat.lt_of_lt_of_le HBX11.out.1 hst13.size, fun j hj => hst13.cell (HBX11.out.2 j hj) (fun h => Nat.lt_irrefl _ (Nat.lt_of_lt_of_le HSZ.out (HLO11.out _ h)))⟩
              have q0 : w13.cell? ⟨nb, 0, none⟩ = some (.int .i64 P) := by rw [cell_of_row _ _ _ _ _ _ hn13]; rfl
              have q1 : w13.cell? ⟨nb, 1, none⟩ = some (.int .i64 R2) := by rw [cell_of_row _ _ _ _ _ _ hn13]; rfl
              have q2 : w13.cell? ⟨nb, 2, none⟩ = some (.int .u64 (T1 : Int)) := by rw [cell_of_row _ _ _ _ _ _ hn13]; rfl
              have s0 : w13.cell? ⟨lb, 0, none⟩ = some (.int .i64 P) := by rw [cell_of_row _ _ _ _ _ _ hl13]; rfl
              have s1 : w13.cell? ⟨lb, 1, none⟩ = some (.int .i64 R) := by rw [cell_of_row _ _ _ _ _ _ hl13]; rfl
              have s2 : w13.cell? ⟨lb, 2, none⟩ = some (.int .u64 (T : Int)) := by rw [cell_of_row _ _ _ _ _ _ hl13]; rfl
              have lf0 : w13.frozen? ⟨lb, 0, none⟩ = false := frozen_of_row _ _ _ _ _ hl13
              have lf1 : w13.frozen? ⟨lb, 1, none⟩ = false := frozen_of_row _ _ _ _ _ hl13
              have lf2 : w13.frozen? ⟨lb, 2, none⟩ = false := frozen_of_row _ _ _ _ _ hl13
              have hs14 := ((Sole.set lb 0 w13 (.int .i64 P)).trans (Sole.set lb 1 _ (.int .i64 R2))).trans (Sole.set lb 2 _ (.int .u64 (T1 : Int)))
              have hst14 : V.Step (fun k => k = lb) (fun k => k = lb) w13 (((w13.setCell ⟨lb, 0, none⟩ (.int .i64 P)).setCell ⟨lb, 1, none⟩ (.int .i64 R2)).setCell ⟨lb, 2, none⟩ (.int .u64 (T1 : Int))) := ⟨hs14.os, hs14.tape, hs14.output, hs14.size, hs14.block, fun k h => .inl h⟩
              have HLT14 : Hid (LT W0 sz P db lb mb (((w13.setCell ⟨lb, 0, none⟩ (.int .i64 P)).setCell ⟨lb, 1, none⟩ (.int .i64 R2)).setCell ⟨lb, 2, none⟩ (.int .u64 (T1 : Int))) { syncM d ⟨P, R2, T1⟩ with nr := wrap64 (wrap64 (d.nr + 1) + 1) } F13 ⟨P, R2, T1⟩) :=
                ⟨hdev13.keep hst14 (fun k hk e => hnf13.2 (by have e' : k = lb := e; rw [← e']; exact hk)), htn, HMN.out, rfl, hlo13, set_three hl13, ⟨_, _, _, (hs14.block _ (heap_lt hm13) (fun e => HNE6.out e.symm)).trans hm13⟩, hnf13.2, hnf13.1, below_three hbl13 HLB.out.1⟩
              have hxl : ¬ w.heap.size = lb := by have := HLB.out.1; have := HSZ.out; omega
              have HBX14 : Hid (Boxed w.heap.size [.int .u64 (FT : Int), .slice (some ⟨rg, ro, none⟩) rn rc, .int .i64 PG, .slice fa fm fc] (((w13.setCell ⟨lb, 0, none⟩ (.int .i64 P)).setCell ⟨lb, 1, none⟩ (.int .i64 R2)).setCell ⟨lb, 2, none⟩ (.int .u64 (T1 : Int)))) := ⟨Nat.lt_of_lt_of_le hbx13.1 hs14.size, fun j hj => hs14.cell (hbx13.2 j hj) hxl⟩
              have hnl : ¬ nb = lb := HNBL.out
              clear hdev13 hst13 htn hm13 hl13 hn13 hbl13 hlo13 hnf13 hbx13 hs14 hst14
              go_wp2_with fail
              go_roundw
              case rel => exact ⟨i + 1, _, F13, ⟨P, R2, T1⟩, by omega, by go_num, by have := HT1.out; have := HTX.out; show T1 = _; omega, HLT14.out, HBX14.out⟩
              case measure => simp [intOf]; omega
      · have hke : i = rn := by omega
        subst hke
        have HBWX : Hid (Below w.heap.size w wr) := HBWR.out
        go_wp2_with fail
        refine Calls.mono (HFATE.out wr HBWX.out) ?_
        rintro e w12 ⟨fv, L, rfl, ho12, hk12, hb12⟩
        obtain ⟨fva, fvn, fvc, rfl⟩ : ∃ a n c, fv = .slice a n c := by
          rcases ho12.2 with ⟨h', h0⟩ | ⟨g, cap, cur, h', _⟩
          · exact ⟨_, _, _, h'⟩
          · exact ⟨_, _, _, h'⟩
        have HLT12 := hide (HLT.out.up hb12)
        have HCR := hide (V.crash_any db F d w12 HLT12.out.dev L _ (owns_base ho12 (Nat.zero_le _)) (by rw [HLT.out.tn.pr.pend]; decide))
        clear ho12 hk12 hb12
        go_wp2_with fail
        refine Calls.mono HCR.out ?_
        rintro e w13 ⟨rfl, F13, hdev13, hst13⟩
        have HRV := hide (V.revive_any db F13 _ w13 hdev13)
        have HS13 := hide hst13
        clear hdev13 hst13 HCR
        go_wp2_with fail
        refine Calls.mono HRV.out ?_
        rintro e w14 ⟨rfl, hdev14, hst14⟩
        have htn := HLT.out.tn.crash L
        have HLT14 := hide (HLT12.out.step (HS13.out.trans hst14) hdev14 htn)
        clear hdev14 hst14 HS13 HRV htn
        have htr := HLT14.out.tn
        have LD := load_any W0.heap.size A ac db F13 _ w14 HLT14.out.dev (HEB.out _ HLT14.out.bel) HLT14.out.lo htr.pr.dead (by rw [htr.pr.size, HSZ8.out]; exact HPK.out) ⟨P, R, T⟩ (lens_dev _ _ (by rw [htr.reads.1]; exact mpage_len _) (by rw [htr.reads.2]; exact htr.pr.len)).1 (lens_dev _ _ (by rw [htr.reads.1]; exact mpage_len _) (by rw [htr.reads.2]; exact htr.pr.len)).2 (by rw [htr.pr.size, HSZ8.out]; exact choV_dev _ _ _ P _ HPK.out HLT.out.may hT64 rfl htr.reads.1 (by rw [htr.reads.2]; exact htr.pr.old))
        have HLD : Hid (Calls Tryd.prog 13 #[.pointer (some ⟨db, 0, none⟩)] w14 fun e w' => e = .returned (.tuple #[.agg #[.int .i64 P, .int .i64 R, .int .u64 (T : Int)], .nilIface]) ∧ V.DevAt w' db F13 (readD (readD (d.crash L).revive)) ∧ V.Step F13 F13 w14 w') := LD
        clear LD htr
        go_wp2_with fail
        refine Calls.mono HLD.out ?_
        rintro e w15 ⟨rfl, hdev15, hst15⟩
        have HLT15 := hide (HLT14.out.step hst15 hdev15 HLT14.out.tn.read.read)
        obtain ⟨ma, mb', mc, hm15⟩ := HLT15.out.mrow
        have m0 : w15.cell? ⟨mb, 0, none⟩ = some ma := by rw [cell_of_row _ _ _ _ _ _ hm15]; rfl
        have m1 : w15.cell? ⟨mb, 1, none⟩ = some mb' := by rw [cell_of_row _ _ _ _ _ _ hm15]; rfl
        have m2 : w15.cell? ⟨mb, 2, none⟩ = some mc := by rw [cell_of_row _ _ _ _ _ _ hm15]; rfl
        have mf0 : w15.frozen? ⟨mb, 0, none⟩ = false := frozen_of_row _ _ _ _ _ hm15
        have mf1 : w15.frozen? ⟨mb, 1, none⟩ = false := frozen_of_row _ _ _ _ _ hm15
        have mf2 : w15.frozen? ⟨mb, 2, none⟩ = false := frozen_of_row _ _ _ _ _ hm15
        have s0 : w15.cell? ⟨lb, 0, none⟩ = some (.int .i64 P) := by rw [cell_of_row _ _ _ _ _ _ HLT15.out.lrow]; rfl
        have s1 : w15.cell? ⟨lb, 1, none⟩ = some (.int .i64 R) := by rw [cell_of_row _ _ _ _ _ _ HLT15.out.lrow]; rfl
        have s2 : w15.cell? ⟨lb, 2, none⟩ = some (.int .u64 (T : Int)) := by rw [cell_of_row _ _ _ _ _ _ HLT15.out.lrow]; rfl
        have hlm : ¬ lb = mb := HNE6.out
        have mse : ∀ w, (binOp .eql 31 (.agg #[.int .i64 P, .int .i64 R, .int .u64 (T : Int)]) (.agg #[.int .i64 P, .int .i64 R, .int .u64 (T : Int)])).run Tryd.prog w = .ok (.bool true) w := fun w => mt_self w _ _ _
        have HEND : Hid (Below w.heap.size w (((w15.setCell ⟨mb, 0, none⟩ (.int .i64 P)).setCell ⟨mb, 1, none⟩ (.int .i64 R)).setCell ⟨mb, 2, none⟩ (.int .u64 (T : Int)))) := HB.out.trans ((below_three HLT15.out.bel HLB.out.2).mono (Nat.le_of_lt HSZ.out))
        clear hdev15 hst15 hm15 x0 x1 x2 b1 b3
        go_wp2_with fail
        go_ret
        exact ⟨rfl, HEND.out⟩
  · have hd : decide (9223372036854775808 < (FT : Int)) = false := decide_eq_false (by omega)
    have hft2 : f0 = FT := hft.symm
    clear hft
    subst hft2
    have hnb2 : ¬ 9223372036854775808 < f0 := by omega
    clear hb
    have HM0 : Hid (MayM ⟨pages, 0, f0⟩) := ⟨HPK.out, .inl rfl⟩
    have HX0 : Hid (f0 < 18446744073709551616) := by show _ < _; have := HF0.out; omega
    have hb2 := below_new w1 (.cells #[.int .i64 pages, .int .i64 0, .int .u64 (f0 : Int)] 31)
    have hrow2 : (w1.alloc (.cells #[.int .i64 pages, .int .i64 0, .int .u64 (f0 : Int)] 31)).heap[w1.heap.size]? = some (.cells #[.int .i64 pages, .int .i64 0, .int .u64 (f0 : Int)] 31 (0, 0)) := heap_alloc_new w1 _
    have HST := hide (store_ok W0.heap.size A ac db F0 d0 ⟨pages, 0, f0⟩ _ HM0.out HX0.out (HD0.out.below hb2) (HEB.out _ (Below.next HBW1.out hb2)) HLO0.out HN0.out.2.2.1 HN0.out.2.2.2.1 HN0.out.2.2.2.2 (by rw [HN0.out.1]; exact HSZ8.out))
    have HPR : Hid (Pr sz pages d0 ⟨pages, 0, f0⟩) := fresh sz pages _ d0 HN0.out.2.1 HN0.out.1 HN0.out.2.2.1 HN0.out.2.2.2.1 HN0.out.2.2.2.2 HPK.out
    have HX2 := hide (HX1.out.below hb2)
    have HBW2 := hide (Below.next HBW1.out hb2)
    have HR2 := hide hrow2
    have HNL : Hid (¬ F0 w1.heap.size) := fun h => Nat.lt_irrefl _ (HD0.out.lt _ h)
    clear hb2 hrow2 hd
    go_wp2_with fail
    clear hnb2
    generalize w1.alloc (.cells #[.int .i64 pages, .int .i64 0, .int .u64 (f0 : Int)] 31) = W2 at *
    generalize w1.heap.size = lb at *
    refine Calls.mono HST.out ?_
    rintro e w3 ⟨rfl, F1, hdev3, hst3⟩
    have hlo3 := V.Step.ge hst3 HLO0.out HBW2.out.size
    have hbel3 := HBW2.out.trans (hst3.below HLO0.out HBW2.out.size)
    have SY := V.sync_any W0.heap.size A db F1 (storedM d0 ⟨pages, 0, f0⟩) w3 hdev3 (HEB.out _ hbel3).errs hlo3 (by show (V.chunks _ _ 1).length ≤ _; rw [V.chunks_len]; decide) (by show V.OpOk _ _ _ d0.arms; rw [HPR.out.arms]; exact V.opdone_nil _ _ _)
    rw [sync_stored d0 _ HPR.out.dead HPR.out.arms] at SY
    have HSY : Hid (Calls Tryd.prog 12 #[.pointer (some ⟨db, 0, none⟩)] w3 fun e w' => e = .returned .nilIface ∧ ∃ F', V.DevAt w' db F' (syncM d0 ⟨pages, 0, f0⟩) ∧ V.Step F1 F' w3 w') := SY
    have HS3 := hide hst3
    have HLO3 := hide hlo3
    have HBL3 := hide hbel3
    clear SY hdev3 hst3 hlo3 hbel3 HST
    go_wp2_with fail
    refine Calls.mono HSY.out ?_
    rintro e w4 ⟨rfl, F2, hdev4, hst4⟩
    have hst24 := HS3.out.trans hst4
    have HTN : Hid (Tn sz pages (syncM d0 ⟨pages, 0, f0⟩) ⟨pages, 0, f0⟩) := HPR.out.synced
    have HLT4 : Hid (∀ mb, (∃ a b c, w4.heap[mb]? = some (.cells #[a, b, c] 31 (0, 0))) → ¬ F2 mb → LT W0 sz pages db lb mb w4 (syncM d0 ⟨pages, 0, f0⟩) F2 ⟨pages, 0, f0⟩) := fun mb h1 h2 => ⟨hdev4, HTN.out, HM0.out, rfl, V.Step.ge hst24 HLO0.out HBW2.out.size, (hst24.block _ (heap_lt HR2.out) HNL.out).trans HR2.out, h1, step_not hst24 HNL.out (heap_lt HR2.out), h2, HBW2.out.trans (hst24.below HLO0.out HBW2.out.size)⟩
    have HLT4' := hide (HLT4.out lb ⟨_, _, _, (hst24.block _ (heap_lt HR2.out) HNL.out).trans HR2.out⟩ (step_not hst24 HNL.out (heap_lt HR2.out)))
    have HX4 : Hid (Boxed w.heap.size [.int .u64 (f0 : Int), .slice ra rn rc, .int .i64 PG, .slice fa fm fc] w4) := ⟨Nat.lt_of_lt_of_le HX2.out.1 hst24.size, fun j hj => hst24.cell (HX2.out.2 j hj) (fun h => Nat.lt_irrefl _ (Nat.lt_of_lt_of_le HSZ.out (HLO0.out _ h)))⟩
    clear hdev4 hst4 hst24 HSY HS3 HLO3 HBL3 HLT4 HPR
    generalize syncM d0 ⟨pages, 0, f0⟩ = d4 at *
    have HRD := hide HTN.out.reads
    have LD := load_any W0.heap.size A ac db F2 d4 w4 HLT4'.out.dev (HEB.out _ HLT4'.out.bel) HLT4'.out.lo HTN.out.pr.dead (by rw [HTN.out.pr.size, HSZ8.out]; exact HPK.out) ⟨pages, 0, f0⟩ (lens_dev _ d4 (by rw [HRD.out.1]; exact mpage_len _) (by rw [HRD.out.2]; exact HTN.out.pr.len)).1 (lens_dev _ d4 (by rw [HRD.out.1]; exact mpage_len _) (by rw [HRD.out.2]; exact HTN.out.pr.len)).2 (by rw [HTN.out.pr.size, HSZ8.out]; exact choV_dev _ _ _ pages d4 HPK.out HM0.out HX0.out rfl HRD.out.1 (by rw [HRD.out.2]; exact HTN.out.pr.old))
    have HLD : Hid (Calls Tryd.prog 13 #[.pointer (some ⟨db, 0, none⟩)] w4 fun e w' => e = .returned (.tuple #[.agg #[.int .i64 pages, .int .i64 0, .int .u64 (f0 : Int)], .nilIface]) ∧ V.DevAt w' db F2 (readD (readD d4)) ∧ V.Step F2 F2 w4 w') := LD
    clear LD HRD
    go_wp2_with fail
    refine Calls.mono HLD.out ?_
    rintro e w5 ⟨rfl, hdev5, hst5⟩
    have hlt5 := HLT4'.out.step hst5 hdev5 HTN.out.read.read
    have hb6 := below_new w5 (.cells #[.int .i64 pages, .int .i64 0, .int .u64 (f0 : Int)] 31)
    have hrow6 : (w5.alloc (.cells #[.int .i64 pages, .int .i64 0, .int .u64 (f0 : Int)] 31)).heap[w5.heap.size]? = some (.cells #[.int .i64 pages, .int .i64 0, .int .u64 (f0 : Int)] 31 (0, 0)) := heap_alloc_new w5 _
    have HLT6 : Hid (LT W0 sz pages db lb w5.heap.size (w5.alloc (.cells #[.int .i64 pages, .int .i64 0, .int .u64 (f0 : Int)] 31)) (readD (readD d4)) F2 ⟨pages, 0, f0⟩) := by
      have h := hlt5.up hb6
      exact ⟨h.dev, h.tn, h.may, h.pg, h.lo, h.lrow, ⟨_, _, _, hrow6⟩, h.nl, fun hf => Nat.lt_irrefl _ (hdev5.lt _ hf), h.bel⟩
    have HX6 : Hid (Boxed w.heap.size [.int .u64 (f0 : Int), .slice ra rn rc, .int .i64 PG, .slice fa fm fc] (w5.alloc (.cells #[.int .i64 pages, .int .i64 0, .int .u64 (f0 : Int)] 31))) := by
      have h : Boxed w.heap.size [.int .u64 (f0 : Int), .slice ra rn rc, .int .i64 PG, .slice fa fm fc] w5 := ⟨Nat.lt_of_lt_of_le HX4.out.1 hst5.size, fun j hj => hst5.cell (HX4.out.2 j hj) (fun h => Nat.lt_irrefl _ (Nat.lt_of_lt_of_le HSZ.out (HLT4'.out.lo _ h)))⟩
      exact h.below hb6
    have HNE6 : Hid (lb ≠ w5.heap.size) := by have := heap_lt hlt5.lrow; show _ ≠ _; omega
    have HLB : Hid (W0.heap.size ≤ lb ∧ W0.heap.size ≤ w5.heap.size) := ⟨HBW1LB.out, hlt5.bel.size⟩
    have x0 : (w5.alloc (.cells #[.int .i64 pages, .int .i64 0, .int .u64 (f0 : Int)] 31)).cell? ⟨lb, 0, none⟩ = some (.int .i64 pages) := by rw [cell_of_row _ _ _ _ _ _ HLT6.out.lrow]; rfl
    have x1 : (w5.alloc (.cells #[.int .i64 pages, .int .i64 0, .int .u64 (f0 : Int)] 31)).cell? ⟨lb, 1, none⟩ = some (.int .i64 0) := by rw [cell_of_row _ _ _ _ _ _ HLT6.out.lrow]; rfl
    have x2 : (w5.alloc (.cells #[.int .i64 pages, .int .i64 0, .int .u64 (f0 : Int)] 31)).cell? ⟨lb, 2, none⟩ = some (.int .u64 (f0 : Int)) := by rw [cell_of_row _ _ _ _ _ _ HLT6.out.lrow]; rfl
    have mself : ∀ w, (binOp .neq 31 (.agg #[.int .i64 pages, .int .i64 0, .int .u64 (f0 : Int)]) (.agg #[.int .i64 pages, .int .i64 0, .int .u64 (f0 : Int)])).run Tryd.prog w = .ok (.bool false) w := fun w => mt_neq w _ _ true (mt_self w _ _ _)
    clear hdev5 hst5 hlt5 hb6 hrow6 HLD HLT4' HX4 HTN HM0
    go_wp2_with fail
    clear x0 x1 x2 mself
    generalize w5.alloc (.cells #[.int .i64 pages, .int .i64 0, .int .u64 (f0 : Int)] 31) = W6 at *
    generalize w5.heap.size = mb at *
    go_loopw [11] (fun u11 wr => ∃ (i : Nat) (d : V.Dev) (F : Nat → Prop) (m : Mt), i ≤ rn ∧ u11 = .int .i64 (i : Int) ∧ m.txid = f0 + i ∧ LT W0 sz pages db lb mb wr d F m ∧ Boxed w.heap.size [.int .u64 (f0 : Int), .slice ra rn rc, .int .i64 PG, .slice fa fm fc] wr) (fun u11 _ => rn - (intOf u11).toNat)
    case atStart => exact ⟨0, _, F2, ⟨pages, 0, f0⟩, Nat.zero_le _, rfl, rfl, HLT6.out, HX6.out⟩
    case round =>
      obtain ⟨i, d, F, m, hi, rfl, htx, hlt, hbx⟩ := hrel
      clear HLT6 HX6
      obtain ⟨P, R, T⟩ := m
      simp only at htx
      have HTX := hide htx
      have HLT := hide hlt
      have HBX := hide hbx
      have hPp : P = pages := hlt.pg
      subst hPp
      have hT64 : T < 18446744073709551616 := by have := HF0.out; omega
      have b1 := HBX.out.2 1 (by simp)
      have b3 := HBX.out.2 3 (by simp)
      simp only [List.getElem_cons_zero, List.getElem_cons_succ] at b1 b3
      have x0 : wr.cell? ⟨lb, 0, none⟩ = some (.int .i64 P) := by rw [cell_of_row _ _ _ _ _ _ HLT.out.lrow]; rfl
      have x1 : wr.cell? ⟨lb, 1, none⟩ = some (.int .i64 R) := by rw [cell_of_row _ _ _ _ _ _ HLT.out.lrow]; rfl
      have x2 : wr.cell? ⟨lb, 2, none⟩ = some (.int .u64 (T : Int)) := by rw [cell_of_row _ _ _ _ _ _ HLT.out.lrow]; rfl
      have HBWR : Hid (Below w.heap.size w wr) := HB.out.trans (HLT.out.bel.mono (Nat.le_of_lt HSZ.out))
      clear htx hlt hbx
      by_cases hlr : i < rn
      · obtain ⟨rg, ro, rx, rfl, hrg, hrc, hrb1, hrb2⟩ := HR.out i hlr
        have r0 : wr.cell? ⟨rg, ro + i, none⟩ = some (.int .i64 rx) := (HBWR.out.cell hrg).trans hrc
        have j0 : (0 : Int) ≤ (i : Int) := by omega
        have j1 : (i : Int) < (rn : Int) := by omega
        have hwt : IntKind.u64.wrap ((T : Int) + 1) = ((T + 1 : Nat) : Int) := by rw [IntKind.wrap_u64]; have := HF0.out; have := HTX.out; omega
        obtain ⟨T1, hT1⟩ : ∃ T1, T1 = T + 1 := ⟨_, rfl⟩
        rw [← hT1] at hwt
        have HT1 := hide hT1
        have hT164 : T1 < 18446744073709551616 := by have := HF0.out; have := HTX.out; omega
        clear hrg hrc hT1
        have HTD : Hid (∀ W, Calls Tryd.prog 14 #[.agg #[.int .i64 P, .int .i64 rx, .int .u64 (T1 : Int)]] W fun e w' => ∃ P2 R2 : Int, e = .returned (.agg #[.int .i64 P2, .int .i64 R2, .int .u64 (T1 : Int)]) ∧ MayM ⟨P2, R2, T1⟩ ∧ Below W.heap.size W w') := fun W => tidy_any P rx T1 W (by omega) (by omega) hrb1 hrb2
        have hlbw : lb < wr.heap.size := heap_lt HLT.out.lrow
        have hrgw : rg < wr.heap.size := World.block_lt_of_cell? wr _ r0
        have hxw : w.heap.size < wr.heap.size := HBX.out.1
        have n1 : ¬ w.heap.size = wr.heap.size := by omega
        have n2 : ¬ rg = wr.heap.size := by omega
        have n3 : ¬ lb = wr.heap.size := by omega
        go_upto_region 17 with fail
        go_cut [12] (fun u12 wx => ∃ (nb : Nat) (P2 R2 : Int), u12 = .pointer (some ⟨nb, 0, none⟩) ∧ MayM ⟨P2, R2, T1⟩ ∧ wx.heap[nb]? = some (.cells #[.int .i64 P2, .int .i64 R2, .int .u64 (T1 : Int)] 31 (0, 0)) ∧ wr.heap.size ≤ nb ∧ Below wr.heap.size wr wx)
        case first =>
          go_region_held3 (fun w' => w'.cell? ⟨w.heap.size, 1, none⟩ = some (.slice (some ⟨rg, ro, none⟩) rn rc) ∧ w'.cell? ⟨rg, ro + i, none⟩ = some (.int .i64 rx) ∧ w'.cell? ⟨lb, 2, none⟩ = some (.int .u64 (T : Int))) (go_keep)
            (first
              | (go_at_call 14; refine (HTD.out _).mono ?_; rintro e w7 ⟨P2, R2, rfl, hm2, hb7d⟩; have hz7 := (hb7d.block wr.heap.size (by simp)).trans (drew_heap (heap_alloc_new wr (.cells #[.int .i64 0, .int .i64 0, .int .u64 0] 31))); have hb7 : Below wr.heap.size wr w7 := Below.next ((below_new wr _).drew) hb7d; have HM2 := hide hm2; have HB7 := hide hb7; have HZ7 := hide hz7; have q1 : w7.cell? ⟨w.heap.size, 1, none⟩ = some (.slice (some ⟨rg, ro, none⟩) rn rc) := (hb7.cell hxw).trans b1; have q2 : w7.cell? ⟨rg, ro + i, none⟩ = some (.int .i64 rx) := (hb7.cell hrgw).trans r0; have q3 : w7.cell? ⟨lb, 2, none⟩ = some (.int .u64 (T : Int)) := (hb7.cell hlbw).trans x2; obtain ⟨z0, z1, z2, f0', f1, f2⟩ := zero_cells hz7; have k1 := three_keep (u0 := .int .i64 P2) (u1 := .int .i64 R2) (u2 := .int .u64 (T1 : Int)) n1 q1; have k2 := three_keep (u0 := .int .i64 P2) (u1 := .int .i64 R2) (u2 := .int .u64 (T1 : Int)) n2 q2; have k3 := three_keep (u0 := .int .i64 P2) (u1 := .int .i64 R2) (u2 := .int .u64 (T1 : Int)) n3 q3; clear hm2 hb7 hb7d hz7)
              | (go_at_call 14; refine (HTD.out _).mono ?_; rintro e w7 ⟨P2, R2, rfl, hm2, hb7d⟩; have hb7 : Below wr.heap.size wr w7 := ⟨hb7d.os, hb7d.tape, hb7d.output, hb7d.size, hb7d.block⟩; have HM2 := hide hm2; have HB7 := hide hb7; have q1 : w7.cell? ⟨w.heap.size, 1, none⟩ = some (.slice (some ⟨rg, ro, none⟩) rn rc) := (hb7.cell hxw).trans b1; have q2 : w7.cell? ⟨rg, ro + i, none⟩ = some (.int .i64 rx) := (hb7.cell hrgw).trans r0; have q3 : w7.cell? ⟨lb, 2, none⟩ = some (.int .u64 (T : Int)) := (hb7.cell hlbw).trans x2; have hsz7 := hb7.size; have m1 : ¬ w.heap.size = w7.heap.size := (by omega); have m2 : ¬ rg = w7.heap.size := (by omega); have m3 : ¬ lb = w7.heap.size := (by omega); clear hm2 hb7 hb7d hsz7))
          · go_wp2_with fail
            go_meet
            case rel => exact ⟨w7.heap.size, P2, R2, rfl, HM2.out, heap_alloc_new w7 _, HB7.out.size, Below.next HB7.out (below_new w7 _)⟩
          · go_wp2_with fail
            go_meet
            case rel => exact ⟨wr.heap.size, P2, R2, rfl, HM2.out, set_three HZ7.out, Nat.le_refl _, below_three HB7.out (Nat.le_refl _)⟩
        case rest =>
          obtain ⟨nb, P2, R2, rfl, hm2, hrow, hnb, hbx7⟩ := hcut
          have e0 : wc.cell? ⟨nb, 0, none⟩ = some (.int .i64 P2) := by rw [cell_of_row _ _ _ _ _ _ hrow]; rfl
          have e1 : wc.cell? ⟨nb, 1, none⟩ = some (.int .i64 R2) := by rw [cell_of_row _ _ _ _ _ _ hrow]; rfl
          have e2 : wc.cell? ⟨nb, 2, none⟩ = some (.int .u64 (T1 : Int)) := by rw [cell_of_row _ _ _ _ _ _ hrow]; rfl
          have ef0 : wc.frozen? ⟨nb, 0, none⟩ = false := frozen_of_row _ _ _ _ _ hrow
          have ef1 : wc.frozen? ⟨nb, 1, none⟩ = false := frozen_of_row _ _ _ _ _ hrow
          obtain ⟨ma0, mb0, mc0, hmr⟩ := HLT.out.mrow
          have HNBM : Hid (¬ nb = mb) := by have := heap_lt hmr; show ¬ _; omega
          have HNBL : Hid (¬ nb = lb) := by show ¬ _; omega
          have HNB := hide hnb
          have hrowA : (wc.setCell ⟨nb, 0, none⟩ (.int .i64 P)).heap[nb]? = some (.cells #[.int .i64 P, .int .i64 R2, .int .u64 (T1 : Int)] 31 (0, 0)) := by rw [heap_setCell_same wc nb 0 _ _ _ hrow]; rfl
          have hbelA : Below wr.heap.size wr (wc.setCell ⟨nb, 0, none⟩ (.int .i64 P)) := hbx7.setCell hnb _
          have hroot : R2 = 0 ∨ (2 ≤ R2 ∧ R2 < P2) := hm2.2
          clear x0 x1 x2 b1 b3 r0 n1 n2 n3 hlbw hrgw hxw hwt HTD hmr hm2
          by_cases hge : P ≤ R2
          · have hdg : decide (P ≤ R2) = true := decide_eq_true hge
            have HROW8 : Hid (((wc.setCell ⟨nb, 0, none⟩ (.int .i64 P)).setCell ⟨nb, 1, none⟩ (.int .i64 2)).heap[nb]? = some (.cells #[.int .i64 P, .int .i64 2, .int .u64 (T1 : Int)] 31 (0, 0))) := by
              show _ = _
              rw [heap_setCell_same _ nb 1 _ _ _ hrowA]; rfl
            have HBEL8 : Hid (Below wr.heap.size wr ((wc.setCell ⟨nb, 0, none⟩ (.int .i64 P)).setCell ⟨nb, 1, none⟩ (.int .i64 2))) := hbelA.setCell hnb _
            have HMAY : Hid (MayM ⟨P, 2, T1⟩) := mayM_mk HPK.out.1 HPK.out.2 (.inr ⟨by omega, by have := HPK.out.1; omega⟩)
            clear hrowA hbelA hrow hbx7 hroot
            have hrow8 : ((wc.setCell ⟨nb, 0, none⟩ (.int .i64 P)).setCell ⟨nb, 1, none⟩ (.int .i64 2)).heap[nb]? = some (.cells #[.int .i64 P, .int .i64 2, .int .u64 (T1 : Int)] 31 (0, 0)) := HROW8.out
            have hb8 : Below wr.heap.size wr ((wc.setCell ⟨nb, 0, none⟩ (.int .i64 P)).setCell ⟨nb, 1, none⟩ (.int .i64 2)) := HBEL8.out
            have HMN : Hid (MayM ⟨P, 2, T1⟩) := HMAY.out
            have HLT8 := hide (HLT.out.up hb8)
            have HX8 := hide (HBX.out.below hb8)
            have HRW8 := hide hrow8
            have HPR := hide (HLT.out.tn.next HLT.out.may hT64 (n := ⟨P, 2, T1⟩) HT1.out)
            have ST := store_ok W0.heap.size A ac db F d ⟨P, 2, T1⟩ _ HMN.out hT164 HLT8.out.dev (HEB.out _ HLT8.out.bel) HLT8.out.lo HPR.out.pend HPR.out.dead HPR.out.arms (by rw [HPR.out.size]; exact HSZ8.out)
            have HST : Hid (Calls Tryd.prog 11 #[.pointer (some ⟨db, 0, none⟩), .agg #[.int .i64 P, .int .i64 2, .int .u64 (T1 : Int)]] ((wc.setCell ⟨nb, 0, none⟩ (.int .i64 P)).setCell ⟨nb, 1, none⟩ (.int .i64 2)) fun e w' => e = .returned .nilIface ∧ ∃ F', V.DevAt w' db F' (storedM d ⟨P, 2, T1⟩) ∧ V.Step F F' ((wc.setCell ⟨nb, 0, none⟩ (.int .i64 P)).setCell ⟨nb, 1, none⟩ (.int .i64 2)) w') := ST
            clear ST hrow8 hb8 HROW8 HBEL8 HMAY
            go_wp2_with fail
            generalize (wc.setCell ⟨nb, 0, none⟩ (.int .i64 P)).setCell ⟨nb, 1, none⟩ (.int .i64 2) = W8 at *
            refine Calls.mono HST.out ?_
            rintro e w9 ⟨rfl, F9, hdev9, hst9⟩
            have hlo9 := V.Step.ge hst9 HLT8.out.lo HLT8.out.bel.size
            have hbl9 := HLT8.out.bel.trans (hst9.below HLT8.out.lo HLT8.out.bel.size)
            have r1 := stored_own d ⟨P, 2, T1⟩
            have r2 := stored_other d ⟨P, 2, T1⟩
            have LD := load_any W0.heap.size A ac db F9 (storedM d ⟨P, 2, T1⟩) w9 hdev9 (HEB.out _ hbl9) hlo9 HPR.out.dead (by show PagesOk (d.size / 8); rw [HPR.out.size, HSZ8.out]; exact HPK.out) ⟨P, 2, T1⟩ (lens_dev _ _ (by rw [r1]; exact mpage_len _) (by rw [r2]; exact HPR.out.len)).1 (lens_dev _ _ (by rw [r1]; exact mpage_len _) (by rw [r2]; exact HPR.out.len)).2 (by show choV _ _ _ _ (d.size / 8) = _; rw [HPR.out.size, HSZ8.out]; exact choV_dev _ _ _ P _ HPK.out HMN.out hT164 rfl r1 (by rw [r2]; exact HPR.out.old))
            have HLD : Hid (Calls Tryd.prog 13 #[.pointer (some ⟨db, 0, none⟩)] w9 fun e w' => e = .returned (.tuple #[.agg #[.int .i64 P, .int .i64 2, .int .u64 (T1 : Int)], .nilIface]) ∧ V.DevAt w' db F9 (readD (readD (storedM d ⟨P, 2, T1⟩))) ∧ V.Step F9 F9 w9 w') := LD
            have HS9 := hide hst9
            clear LD r1 r2 hdev9 hst9 hlo9 hbl9 HST
            go_wp2_with fail
            refine Calls.mono HLD.out ?_
            rintro e w10 ⟨rfl, hdev10, hst10⟩
            have hst := HS9.out.trans hst10
            obtain ⟨ma, mb', mc, hmr8⟩ := HLT8.out.mrow
            have hnF : ¬ F nb := fun hf => by have := HLT.out.dev.lt _ hf; have := HNB.out; omega
            have hl10 := (hst.block _ (heap_lt HLT8.out.lrow) HLT8.out.nl).trans HLT8.out.lrow
            have hm10 := (hst.block _ (heap_lt hmr8) HLT8.out.nm).trans hmr8
            have hn10 := (hst.block _ (heap_lt HRW8.out) hnF).trans HRW8.out
            have m0 : w10.cell? ⟨mb, 0, none⟩ = some ma := by rw [cell_of_row _ _ _ _ _ _ hm10]; rfl
            have m1 : w10.cell? ⟨mb, 1, none⟩ = some mb' := by rw [cell_of_row _ _ _ _ _ _ hm10]; rfl
            have m2 : w10.cell? ⟨mb, 2, none⟩ = some mc := by rw [cell_of_row _ _ _ _ _ _ hm10]; rfl
            have mf0 : w10.frozen? ⟨mb, 0, none⟩ = false := frozen_of_row _ _ _ _ _ hm10
            have mf1 : w10.frozen? ⟨mb, 1, none⟩ = false := frozen_of_row _ _ _ _ _ hm10
            have mf2 : w10.frozen? ⟨mb, 2, none⟩ = false := frozen_of_row _ _ _ _ _ hm10
            have s0 : w10.cell? ⟨nb, 0, none⟩ = some (.int .i64 P) := by rw [cell_of_row _ _ _ _ _ _ hn10]; rfl
            have s1 : w10.cell? ⟨nb, 1, none⟩ = some (.int .i64 2) := by rw [cell_of_row _ _ _ _ _ _ hn10]; rfl
            have s2 : w10.cell? ⟨nb, 2, none⟩ = some (.int .u64 (T1 : Int)) := by rw [cell_of_row _ _ _ _ _ _ hn10]; rfl
            have hX10 : Boxed w.heap.size [.int .u64 (f0 : Int), .slice (some ⟨rg, ro, none⟩) rn rc, .int .i64 PG, .slice fa fm fc] w10 := ⟨Nat.lt_of_lt_of_le HX8.out.1 hst.size, fun j hj => hst.cell (HX8.out.2 j hj) (fun h => Nat.lt_irrefl _ (Nat.lt_of_lt_of_le HSZ.out (HLT8.out.lo _ h)))⟩
            have t1 := hX10.2 1 (by simp)
            have t3 := hX10.2 3 (by simp)
            simp only [List.getElem_cons_zero, List.getElem_cons_succ] at t1 t3
            have HX10 := hide hX10
            have HS10 := hide hst
            have HL10 := hide hl10
            have HM10 := hide hm10
            have HN10 := hide hn10
            have HD10 := hide hdev10
            have HNF := hide hnF
            have hnx : ¬ w.heap.size = mb := by have := HLB.out.2; have := HSZ.out; omega
            have hnm : ¬ nb = mb := HNBM.out
            have msn : ∀ w, (binOp .neq 31 (.agg #[.int .i64 P, .int .i64 2, .int .u64 (T1 : Int)]) (.agg #[.int .i64 P, .int .i64 2, .int .u64 (T1 : Int)])).run Tryd.prog w = .ok (.bool false) w := fun w => mt_neq w _ _ true (mt_self w _ _ _)
            have HMLT : Hid (mb < W8.heap.size) := heap_lt hmr8
            have HNLT : Hid (nb < W8.heap.size) := heap_lt HRW8.out
            clear hst hst10 hdev10 hl10 hm10 hn10 hX10 hmr8 hnF HLD HS9 HX8 HRW8
            have hwl : IntKind.i64.wrap ((rn : Int) - 1) = (rn : Int) - 1 := by rw [IntKind.wrap_i64]; omega
            have hb11 : Sole mb w10 (((w10.setCell ⟨mb, 0, none⟩ (.int .i64 P)).setCell ⟨mb, 1, none⟩ (.int .i64 2)).setCell ⟨mb, 2, none⟩ (.int .u64 (T1 : Int))) := ((Sole.set mb 0 w10 _).trans (Sole.set mb 1 _ _)).trans (Sole.set mb 2 _ _)
            have hm11 : (((w10.setCell ⟨mb, 0, none⟩ (.int .i64 P)).setCell ⟨mb, 1, none⟩ (.int .i64 2)).setCell ⟨mb, 2, none⟩ (.int .u64 (T1 : Int))).heap[mb]? = some (.cells #[.int .i64 P, .int .i64 2, .int .u64 (T1 : Int)] 31 (0, 0)) := set_three HM10.out
            have hl11 := (hb11.block _ (heap_lt HL10.out) HNE6.out).trans HL10.out
            have hn11 := (hb11.block _ (heap_lt HN10.out) HNBM.out).trans HN10.out
            have hnf9 : ¬ F9 mb ∧ ¬ F9 lb ∧ ¬ F9 nb := ⟨step_not HS10.out HLT8.out.nm (HMLT.out), step_not HS10.out HLT8.out.nl (heap_lt HLT8.out.lrow), step_not HS10.out HNF.out HNLT.out⟩
            have hst11 : V.Step (fun k => k = mb) (fun k => k = mb) w10 (((w10.setCell ⟨mb, 0, none⟩ (.int .i64 P)).setCell ⟨mb, 1, none⟩ (.int .i64 2)).setCell ⟨mb, 2, none⟩ (.int .u64 (T1 : Int))) := ⟨hb11.os, hb11.tape, hb11.output, hb11.size, hb11.block, fun k h => .inl h⟩
            have hd11 := HD10.out.keep hst11 (fun k hk e => hnf9.1 (by have e' : k = mb := e; rw [← e']; exact hk))
            have hlo11 := V.Step.ge HS10.out HLT8.out.lo HLT8.out.bel.size
            have hbl10 := HLT8.out.bel.trans (HS10.out.below HLT8.out.lo HLT8.out.bel.size)
            have hbl11 : Below W0.heap.size W0 (((w10.setCell ⟨mb, 0, none⟩ (.int .i64 P)).setCell ⟨mb, 1, none⟩ (.int .i64 2)).setCell ⟨mb, 2, none⟩ (.int .u64 (T1 : Int))) := below_three hbl10 HLB.out.2
            have hbx11 : Boxed w.heap.size [.int .u64 (f0 : Int), .slice (some ⟨rg, ro, none⟩) rn rc, .int .i64 PG, .slice fa fm fc] (((w10.setCell ⟨mb, 0, none⟩ (.int .i64 P)).setCell ⟨mb, 1, none⟩ (.int .i64 2)).setCell ⟨mb, 2, none⟩ (.int .u64 (T1 : Int))) := ⟨Nat.lt_of_lt_of_le HX10.out.1 hb11.size, fun j hj => hb11.cell (HX10.out.2 j hj) hnx⟩
            have HM11 := hide hm11
            have HL11 := hide hl11
            have HN11 := hide hn11
            have HNF9 := hide hnf9
            have HD11 := hide hd11
            have HLO11 := hide hlo11
            have HBL11 := hide hbl11
            have HBX11 := hide hbx11
            have HPL1 : Hid ((readD (readD (storedM d ⟨P, 2, T1⟩))).pend.length ≤ 140737488355328) := by show (V.chunks _ _ 1).length ≤ _; rw [V.chunks_len]; decide
            clear hb11 hm11 hl11 hn11 hnf9 hst11 hd11 hlo11 hbl10 hbl11 hbx11
            by_cases hlast : i + 1 = rn
            · have hdl : ((i : Int) == (rn : Int) - 1) = true := by rw [beq_iff_eq]; omega
              clear hlast
              go_wp2_with fail
              generalize (((w10.setCell ⟨mb, 0, none⟩ (.int .i64 P)).setCell ⟨mb, 1, none⟩ (.int .i64 2)).setCell ⟨mb, 2, none⟩ (.int .u64 (T1 : Int))) = W11 at *
              clear m0 m1 m2 mf0 mf1 mf2 s0 s1 s2 t1 t3
              have HBWW : Hid (Below w.heap.size w W11) := HB.out.trans (HBL11.out.mono (Nat.le_of_lt HSZ.out))
              refine Calls.mono (HFATE.out W11 HBWW.out) ?_
              rintro e w12 ⟨fv, L, rfl, ho12, hk12, hb12⟩
              obtain ⟨fva, fvn, fvc, rfl⟩ : ∃ a n c, fv = .slice a n c := by
                rcases ho12.2 with ⟨h', h0⟩ | ⟨g, cap, cur, h', _⟩
                · exact ⟨_, _, _, h'⟩
                · exact ⟨_, _, _, h'⟩
              have CR := V.crash_any db F9 (readD (readD (storedM d ⟨P, 2, T1⟩))) w12 (HD11.out.below hb12) L _ (owns_base ho12 (Nat.zero_le _)) HPL1.out
              have HCR := hide CR
              have HK12 := hide hk12
              have HB12 := hide hb12
              clear CR ho12 hk12 hb12
              go_wp2_with fail
              refine Calls.mono HCR.out ?_
              rintro e w13 ⟨rfl, F13, hdev13, hst13⟩
              have HRV := hide (V.revive_any db F13 _ w13 hdev13)
              have HS13 := hide hst13
              clear hdev13 hst13 HCR
              go_wp2_with fail
              refine Calls.mono HRV.out ?_
              rintro e w14 ⟨rfl, hdev14, hst14⟩
              rw [crash_read] at hdev14
              have hst := ((V.Step.of_below (F := F9) HB12.out).trans HS13.out).trans hst14
              have hm14 := (hst.block _ (heap_lt HM11.out) HNF9.out.1).trans HM11.out
              have hl14 := (hst.block _ (heap_lt HL11.out) HNF9.out.2.1).trans HL11.out
              have hn14 := (hst.block _ (heap_lt HN11.out) HNF9.out.2.2).trans HN11.out
              have HLO14 := hide (V.Step.ge hst HLO11.out HBL11.out.size)
              have HBL14 := hide (HBL11.out.trans (hst.below HLO11.out HBL11.out.size))
              have HM14 := hide hm14
              have HL14 := hide hl14
              have HN14 := hide hn14
              have HD14 := hide hdev14
              have HNF14 : Hid (¬ F13 mb ∧ ¬ F13 lb ∧ ¬ F13 nb) := ⟨step_not hst HNF9.out.1 (heap_lt HM11.out), step_not hst HNF9.out.2.1 (heap_lt HL11.out), step_not hst HNF9.out.2.2 (heap_lt HN11.out)⟩
              have HTN := hide (stored_crash HLT.out.tn HLT.out.may hT64 (n := ⟨P, 2, T1⟩) HT1.out L HK12.out)
              clear hdev14 hst14 hst hm14 hl14 hn14 HS13 HRV
              generalize ((storedM d ⟨P, 2, T1⟩).crash L).revive = dX at *
              have HFIN : Hid (∀ w15 (u0 u1 u2 : Value), V.Step F13 F13 w14 w15 → Below w.heap.size w (((w15.setCell ⟨mb, 0, none⟩ u0).setCell ⟨mb, 1, none⟩ u1).setCell ⟨mb, 2, none⟩ u2)) := fun w15 u0 u1 u2 h => HB.out.trans ((below_three (HBL14.out.trans (h.below HLO14.out HBL14.out.size)) HLB.out.2).mono (Nat.le_of_lt HSZ.out))
              rcases HTN.out with htn | htn
              · have htr := htn.read.read
                have LD := load_any W0.heap.size A ac db F13 (readD (readD dX)) w14 HD14.out (HEB.out _ HBL14.out) HLO14.out htr.pr.dead (by rw [htr.pr.size, HSZ8.out]; exact HPK.out) ⟨P, R, T⟩ (lens_dev _ _ (by rw [htr.reads.1]; exact mpage_len _) (by rw [htr.reads.2]; exact htr.pr.len)).1 (lens_dev _ _ (by rw [htr.reads.1]; exact mpage_len _) (by rw [htr.reads.2]; exact htr.pr.len)).2 (by rw [htr.pr.size, HSZ8.out]; exact choV_dev _ _ _ P _ HPK.out HLT.out.may hT64 rfl htr.reads.1 (by rw [htr.reads.2]; exact htr.pr.old))
                have HLD : Hid (Calls Tryd.prog 13 #[.pointer (some ⟨db, 0, none⟩)] w14 fun e w' => e = .returned (.tuple #[.agg #[.int .i64 P, .int .i64 R, .int .u64 (T : Int)], .nilIface]) ∧ V.DevAt w' db F13 (readD (readD (readD (readD dX)))) ∧ V.Step F13 F13 w14 w') := LD
                clear LD htr htn HTN
                go_wp2_with fail
                refine Calls.mono HLD.out ?_
                rintro e w15 ⟨rfl, hdev15, hst15⟩
                have hm15 := (hst15.block _ (heap_lt HM14.out) HNF14.out.1).trans HM14.out
                have hl15 := (hst15.block _ (heap_lt HL14.out) HNF14.out.2.1).trans HL14.out
                have m0 : w15.cell? ⟨mb, 0, none⟩ = some (.int .i64 P) := by rw [cell_of_row _ _ _ _ _ _ hm15]; rfl
                have m1 : w15.cell? ⟨mb, 1, none⟩ = some (.int .i64 2) := by rw [cell_of_row _ _ _ _ _ _ hm15]; rfl
                have m2 : w15.cell? ⟨mb, 2, none⟩ = some (.int .u64 (T1 : Int)) := by rw [cell_of_row _ _ _ _ _ _ hm15]; rfl
                have mf0 : w15.frozen? ⟨mb, 0, none⟩ = false := frozen_of_row _ _ _ _ _ hm15
                have mf1 : w15.frozen? ⟨mb, 1, none⟩ = false := frozen_of_row _ _ _ _ _ hm15
                have mf2 : w15.frozen? ⟨mb, 2, none⟩ = false := frozen_of_row _ _ _ _ _ hm15
                have s0 : w15.cell? ⟨lb, 0, none⟩ = some (.int .i64 P) := by rw [cell_of_row _ _ _ _ _ _ hl15]; rfl
                have s1 : w15.cell? ⟨lb, 1, none⟩ = some (.int .i64 R) := by rw [cell_of_row _ _ _ _ _ _ hl15]; rfl
                have s2 : w15.cell? ⟨lb, 2, none⟩ = some (.int .u64 (T : Int)) := by rw [cell_of_row _ _ _ _ _ _ hl15]; rfl
                have hlm : ¬ lb = mb := HNE6.out
                have mse : ∀ w, (binOp .eql 31 (.agg #[.int .i64 P, .int .i64 R, .int .u64 (T : Int)]) (.agg #[.int .i64 P, .int .i64 R, .int .u64 (T : Int)])).run Tryd.prog w = .ok (.bool true) w := fun w => mt_self w _ _ _
                have HEND := hide (HFIN.out w15 (.int .i64 P) (.int .i64 R) (.int .u64 (T : Int)) hst15)
                clear hdev15 hst15 hm15 hl15
                go_wp2_with fail
                go_ret
                exact ⟨rfl, HEND.out⟩
              · have htr := htn.read.read
                have LD := load_any W0.heap.size A ac db F13 (readD (readD dX)) w14 HD14.out (HEB.out _ HBL14.out) HLO14.out htr.pr.dead (by rw [htr.pr.size, HSZ8.out]; exact HPK.out) ⟨P, 2, T1⟩ (lens_dev _ _ (by rw [htr.reads.1]; exact mpage_len _) (by rw [htr.reads.2]; exact htr.pr.len)).1 (lens_dev _ _ (by rw [htr.reads.1]; exact mpage_len _) (by rw [htr.reads.2]; exact htr.pr.len)).2 (by rw [htr.pr.size, HSZ8.out]; exact choV_dev _ _ _ P _ HPK.out HMN.out hT164 rfl htr.reads.1 (by rw [htr.reads.2]; exact htr.pr.old))
                have HLD : Hid (Calls Tryd.prog 13 #[.pointer (some ⟨db, 0, none⟩)] w14 fun e w' => e = .returned (.tuple #[.agg #[.int .i64 P, .int .i64 2, .int .u64 (T1 : Int)], .nilIface]) ∧ V.DevAt w' db F13 (readD (readD (readD (readD dX)))) ∧ V.Step F13 F13 w14 w') := LD
                clear LD htr htn HTN
                go_wp2_with fail
                refine Calls.mono HLD.out ?_
                rintro e w15 ⟨rfl, hdev15, hst15⟩
                have hm15 := (hst15.block _ (heap_lt HM14.out) HNF14.out.1).trans HM14.out
                have hl15 := (hst15.block _ (heap_lt HL14.out) HNF14.out.2.1).trans HL14.out
                have hn15 := (hst15.block _ (heap_lt HN14.out) HNF14.out.2.2).trans HN14.out
                have m0 : w15.cell? ⟨mb, 0, none⟩ = some (.int .i64 P) := by rw [cell_of_row _ _ _ _ _ _ hm15]; rfl
                have m1 : w15.cell? ⟨mb, 1, none⟩ = some (.int .i64 2) := by rw [cell_of_row _ _ _ _ _ _ hm15]; rfl
                have m2 : w15.cell? ⟨mb, 2, none⟩ = some (.int .u64 (T1 : Int)) := by rw [cell_of_row _ _ _ _ _ _ hm15]; rfl
                have mf0 : w15.frozen? ⟨mb, 0, none⟩ = false := frozen_of_row _ _ _ _ _ hm15
                have mf1 : w15.frozen? ⟨mb, 1, none⟩ = false := frozen_of_row _ _ _ _ _ hm15
                have mf2 : w15.frozen? ⟨mb, 2, none⟩ = false := frozen_of_row _ _ _ _ _ hm15
                have s0 : w15.cell? ⟨lb, 0, none⟩ = some (.int .i64 P) := by rw [cell_of_row _ _ _ _ _ _ hl15]; rfl
                have s1 : w15.cell? ⟨lb, 1, none⟩ = some (.int .i64 R) := by rw [cell_of_row _ _ _ _ _ _ hl15]; rfl
                have s2 : w15.cell? ⟨lb, 2, none⟩ = some (.int .u64 (T : Int)) := by rw [cell_of_row _ _ _ _ _ _ hl15]; rfl
                have q0 : w15.cell? ⟨nb, 0, none⟩ = some (.int .i64 P) := by rw [cell_of_row _ _ _ _ _ _ hn15]; rfl
                have q1 : w15.cell? ⟨nb, 1, none⟩ = some (.int .i64 2) := by rw [cell_of_row _ _ _ _ _ _ hn15]; rfl
                have q2 : w15.cell? ⟨nb, 2, none⟩ = some (.int .u64 (T1 : Int)) := by rw [cell_of_row _ _ _ _ _ _ hn15]; rfl
                have hlm : ¬ lb = mb := HNE6.out
                have mne : ∀ w, (binOp .eql 31 (.agg #[.int .i64 P, .int .i64 2, .int .u64 (T1 : Int)]) (.agg #[.int .i64 P, .int .i64 R, .int .u64 (T : Int)])).run Tryd.prog w = .ok (.bool false) w := fun w => by
                  have hTT : ((T1 : Int) == (T : Int)) = false := by rw [beq_eq_false_iff_ne]; have := HT1.out; omega
                  rw [mt_eq, hTT]; simp
                have mse : ∀ w, (binOp .eql 31 (.agg #[.int .i64 P, .int .i64 2, .int .u64 (T1 : Int)]) (.agg #[.int .i64 P, .int .i64 2, .int .u64 (T1 : Int)])).run Tryd.prog w = .ok (.bool true) w := fun w => mt_self w _ _ _
                have HEND := hide (HFIN.out w15 (.int .i64 P) (.int .i64 2) (.int .u64 (T1 : Int)) hst15)
                clear hdev15 hst15 hm15 hl15 hn15
                go_wp2_with fail
                go_ret
                exact ⟨rfl, HEND.out⟩
            · have hdl : ((i : Int) == (rn : Int) - 1) = false := by rw [beq_eq_false_iff_ne]; omega
              clear hlast
              have HSY0 : Hid (Calls Tryd.prog 12 #[.pointer (some ⟨db, 0, none⟩)] (((w10.setCell ⟨mb, 0, none⟩ (.int .i64 P)).setCell ⟨mb, 1, none⟩ (.int .i64 2)).setCell ⟨mb, 2, none⟩ (.int .u64 (T1 : Int))) fun e w' => e = .returned .nilIface ∧ ∃ F', V.DevAt w' db F' { syncM d ⟨P, 2, T1⟩ with nr := wrap64 (wrap64 (d.nr + 1) + 1) } ∧ V.Step F9 F' (((w10.setCell ⟨mb, 0, none⟩ (.int .i64 P)).setCell ⟨mb, 1, none⟩ (.int .i64 2)).setCell ⟨mb, 2, none⟩ (.int .u64 (T1 : Int))) w') := by
                have SY := V.sync_any W0.heap.size A db F9 (readD (readD (storedM d ⟨P, 2, T1⟩))) _ HD11.out (HEB.out _ HBL11.out).errs HLO11.out HPL1.out (by show V.OpOk _ _ _ d.arms; rw [HPR.out.arms]; exact V.opdone_nil _ _ _)
                rw [sync_read d _ HPR.out.dead HPR.out.arms] at SY
                exact SY
              go_wp2_with fail
              generalize (((w10.setCell ⟨mb, 0, none⟩ (.int .i64 P)).setCell ⟨mb, 1, none⟩ (.int .i64 2)).setCell ⟨mb, 2, none⟩ (.int .u64 (T1 : Int))) = W11 at *
              clear m0 m1 m2 mf0 mf1 mf2 s0 s1 s2 t1 t3
              refine Calls.mono HSY0.out ?_
              rintro e w13 ⟨rfl, F13, hdev13, hst13⟩
              have htn : Tn sz P { syncM d ⟨P, 2, T1⟩ with nr := wrap64 (wrap64 (d.nr + 1) + 1) } ⟨P, 2, T1⟩ := HPR.out.synced.same rfl rfl rfl rfl HPR.out.dead
              have hm13 := (hst13.block _ (heap_lt HM11.out) HNF9.out.1).trans HM11.out
              have hl13 := (hst13.block _ (heap_lt HL11.out) HNF9.out.2.1).trans HL11.out
              have hn13 := (hst13.block _ (heap_lt HN11.out) HNF9.out.2.2).trans HN11.out
              have hbl13 := HBL11.out.trans (hst13.below HLO11.out HBL11.out.size)
              have hlo13 := V.Step.ge hst13 HLO11.out HBL11.out.size
              have hnf13 : ¬ F13 mb ∧ ¬ F13 lb := ⟨step_not hst13 HNF9.out.1 (heap_lt HM11.out), step_not hst13 HNF9.out.2.1 (heap_lt HL11.out)⟩
              have hbx13 : Boxed w.heap.size [.int .u64 (f0 : Int), .slice (some ⟨rg, ro, none⟩) rn rc, .int .i64 PG, .slice fa fm fc] w13 := ⟨Nat.lt_of_lt_of_le HBX11.out.1 hst13.size, fun j hj => hst13.cell (HBX11.out.2 j hj) (fun h => Nat.lt_irrefl _ (Nat.lt_of_lt_of_le HSZ.out (HLO11.out _ h)))⟩
              have q0 : w13.cell? ⟨nb, 0, none⟩ = some (.int .i64 P) := by rw [cell_of_row _ _ _ _ _ _ hn13]; rfl
              have q1 : w13.cell? ⟨nb, 1, none⟩ = some (.int .i64 2) := by rw [cell_of_row _ _ _ _ _ _ hn13]; rfl
              have q2 : w13.cell? ⟨nb, 2, none⟩ = some (.int .u64 (T1 : Int)) := by rw [cell_of_row _ _ _ _ _ _ hn13]; rfl
              have s0 : w13.cell? ⟨lb, 0, none⟩ = some (.int .i64 P) := by rw [cell_of_row _ _ _ _ _ _ hl13]; rfl
              have s1 : w13.cell? ⟨lb, 1, none⟩ = some (.int .i64 R) := by rw [cell_of_row _ _ _ _ _ _ hl13]; rfl
              have s2 : w13.cell? ⟨lb, 2, none⟩ = some (.int .u64 (T : Int)) := by rw [cell_of_row _ _ _ _ _ _ hl13]; rfl
              have lf0 : w13.frozen? ⟨lb, 0, none⟩ = false := frozen_of_row _ _ _ _ _ hl13
              have lf1 : w13.frozen? ⟨lb, 1, none⟩ = false := frozen_of_row _ _ _ _ _ hl13
              have lf2 : w13.frozen? ⟨lb, 2, none⟩ = false := frozen_of_row _ _ _ _ _ hl13
              have hs14 := ((Sole.set lb 0 w13 (.int .i64 P)).trans (Sole.set lb 1 _ (.int .i64 2))).trans (Sole.set lb 2 _ (.int .u64 (T1 : Int)))
              have hst14 : V.Step (fun k => k = lb) (fun k => k = lb) w13 (((w13.setCell ⟨lb, 0, none⟩ (.int .i64 P)).setCell ⟨lb, 1, none⟩ (.int .i64 2)).setCell ⟨lb, 2, none⟩ (.int .u64 (T1 : Int))) := ⟨hs14.os, hs14.tape, hs14.output, hs14.size, hs14.block, fun k h => .inl h⟩
              have HLT14 : Hid (LT W0 sz P db lb mb (((w13.setCell ⟨lb, 0, none⟩ (.int .i64 P)).setCell ⟨lb, 1, none⟩ (.int .i64 2)).setCell ⟨lb, 2, none⟩ (.int .u64 (T1 : Int))) { syncM d ⟨P, 2, T1⟩ with nr := wrap64 (wrap64 (d.nr + 1) + 1) } F13 ⟨P, 2, T1⟩) :=
                ⟨hdev13.keep hst14 (fun k hk e => hnf13.2 (by have e' : k = lb := e; rw [← e']; exact hk)), htn, HMN.out, rfl, hlo13, set_three hl13, ⟨_, _, _, (hs14.block _ (heap_lt hm13) (fun e => HNE6.out e.symm)).trans hm13⟩, hnf13.2, hnf13.1, below_three hbl13 HLB.out.1⟩
              have hxl : ¬ w.heap.size = lb := by have := HLB.out.1; have := HSZ.out; omega
              have HBX14 : Hid (Boxed w.heap.size [.int .u64 (f0 : Int), .slice (some ⟨rg, ro, none⟩) rn rc, .int .i64 PG, .slice fa fm fc] (((w13.setCell ⟨lb, 0, none⟩ (.int .i64 P)).setCell ⟨lb, 1, none⟩ (.int .i64 2)).setCell ⟨lb, 2, none⟩ (.int .u64 (T1 : Int)))) := ⟨Nat.lt_of_lt_of_le hbx13.1 hs14.size, fun j hj => hs14.cell (hbx13.2 j hj) hxl⟩
              have hnl : ¬ nb = lb := HNBL.out
              clear hdev13 hst13 htn hm13 hl13 hn13 hbl13 hlo13 hnf13 hbx13 hs14 hst14
              go_wp2_with fail
              go_roundw
              case rel => exact ⟨i + 1, _, F13, ⟨P, 2, T1⟩, by omega, by go_num, by have := HT1.out; have := HTX.out; show T1 = _; omega, HLT14.out, HBX14.out⟩
              case measure => simp [intOf]; omega
          · have hdg : decide (P ≤ R2) = false := decide_eq_false hge
            have HROW8 := hide hrowA
            have HBEL8 := hide hbelA
            have HMAY : Hid (MayM ⟨P, R2, T1⟩) := mayM_mk HPK.out.1 HPK.out.2 (hroot.imp id (fun h => ⟨h.1, by omega⟩))
            clear hrowA hbelA hrow hbx7 hroot
            have hrow8 : (wc.setCell ⟨nb, 0, none⟩ (.int .i64 P)).heap[nb]? = some (.cells #[.int .i64 P, .int .i64 R2, .int .u64 (T1 : Int)] 31 (0, 0)) := HROW8.out
            have hb8 : Below wr.heap.size wr (wc.setCell ⟨nb, 0, none⟩ (.int .i64 P)) := HBEL8.out
            have HMN : Hid (MayM ⟨P, R2, T1⟩) := HMAY.out
            have HLT8 := hide (HLT.out.up hb8)
            have HX8 := hide (HBX.out.below hb8)
            have HRW8 := hide hrow8
            have HPR := hide (HLT.out.tn.next HLT.out.may hT64 (n := ⟨P, R2, T1⟩) HT1.out)
            have ST := store_ok W0.heap.size A ac db F d ⟨P, R2, T1⟩ _ HMN.out hT164 HLT8.out.dev (HEB.out _ HLT8.out.bel) HLT8.out.lo HPR.out.pend HPR.out.dead HPR.out.arms (by rw [HPR.out.size]; exact HSZ8.out)
            have HST : Hid (Calls Tryd.prog 11 #[.pointer (some ⟨db, 0, none⟩), .agg #[.int .i64 P, .int .i64 R2, .int .u64 (T1 : Int)]] (wc.setCell ⟨nb, 0, none⟩ (.int .i64 P)) fun e w' => e = .returned .nilIface ∧ ∃ F', V.DevAt w' db F' (storedM d ⟨P, R2, T1⟩) ∧ V.Step F F' (wc.setCell ⟨nb, 0, none⟩ (.int .i64 P)) w') := ST
            clear ST hrow8 hb8 HROW8 HBEL8 HMAY
            go_wp2_with fail
            generalize wc.setCell ⟨nb, 0, none⟩ (.int .i64 P) = W8 at *
            refine Calls.mono HST.out ?_
            rintro e w9 ⟨rfl, F9, hdev9, hst9⟩
            have hlo9 := V.Step.ge hst9 HLT8.out.lo HLT8.out.bel.size
            have hbl9 := HLT8.out.bel.trans (hst9.below HLT8.out.lo HLT8.out.bel.size)
            have r1 := stored_own d ⟨P, R2, T1⟩
            have r2 := stored_other d ⟨P, R2, T1⟩
            have LD := load_any W0.heap.size A ac db F9 (storedM d ⟨P, R2, T1⟩) w9 hdev9 (HEB.out _ hbl9) hlo9 HPR.out.dead (by show PagesOk (d.size / 8); rw [HPR.out.size, HSZ8.out]; exact HPK.out) ⟨P, R2, T1⟩ (lens_dev _ _ (by rw [r1]; exact mpage_len _) (by rw [r2]; exact HPR.out.len)).1 (lens_dev _ _ (by rw [r1]; exact mpage_len _) (by rw [r2]; exact HPR.out.len)).2 (by show choV _ _ _ _ (d.size / 8) = _; rw [HPR.out.size, HSZ8.out]; exact choV_dev _ _ _ P _ HPK.out HMN.out hT164 rfl r1 (by rw [r2]; exact HPR.out.old))
            have HLD : Hid (Calls Tryd.prog 13 #[.pointer (some ⟨db, 0, none⟩)] w9 fun e w' => e = .returned (.tuple #[.agg #[.int .i64 P, .int .i64 R2, .int .u64 (T1 : Int)], .nilIface]) ∧ V.DevAt w' db F9 (readD (readD (storedM d ⟨P, R2, T1⟩))) ∧ V.Step F9 F9 w9 w') := LD
            have HS9 := hide hst9
            clear LD r1 r2 hdev9 hst9 hlo9 hbl9 HST
            go_wp2_with fail
            refine Calls.mono HLD.out ?_
            rintro e w10 ⟨rfl, hdev10, hst10⟩
            have hst := HS9.out.trans hst10
            obtain ⟨ma, mb', mc, hmr8⟩ := HLT8.out.mrow
            have hnF : ¬ F nb := fun hf => by have := HLT.out.dev.lt _ hf; have := HNB.out; omega
            have hl10 := (hst.block _ (heap_lt HLT8.out.lrow) HLT8.out.nl).trans HLT8.out.lrow
            have hm10 := (hst.block _ (heap_lt hmr8) HLT8.out.nm).trans hmr8
            have hn10 := (hst.block _ (heap_lt HRW8.out) hnF).trans HRW8.out
            have m0 : w10.cell? ⟨mb, 0, none⟩ = some ma := by rw [cell_of_row _ _ _ _ _ _ hm10]; rfl
            have m1 : w10.cell? ⟨mb, 1, none⟩ = some mb' := by rw [cell_of_row _ _ _ _ _ _ hm10]; rfl
            have m2 : w10.cell? ⟨mb, 2, none⟩ = some mc := by rw [cell_of_row _ _ _ _ _ _ hm10]; rfl
            have mf0 : w10.frozen? ⟨mb, 0, none⟩ = false := frozen_of_row _ _ _ _ _ hm10
            have mf1 : w10.frozen? ⟨mb, 1, none⟩ = false := frozen_of_row _ _ _ _ _ hm10
            have mf2 : w10.frozen? ⟨mb, 2, none⟩ = false := frozen_of_row _ _ _ _ _ hm10
            have s0 : w10.cell? ⟨nb, 0, none⟩ = some (.int .i64 P) := by rw [cell_of_row _ _ _ _ _ _ hn10]; rfl
            have s1 : w10.cell? ⟨nb, 1, none⟩ = some (.int .i64 R2) := by rw [cell_of_row _ _ _ _ _ _ hn10]; rfl
            have s2 : w10.cell? ⟨nb, 2, none⟩ = some (.int .u64 (T1 : Int)) := by rw [cell_of_row _ _ _ _ _ _ hn10]; rfl
            have hX10 : Boxed w.heap.size [.int .u64 (f0 : Int), .slice (some ⟨rg, ro, none⟩) rn rc, .int .i64 PG, .slice fa fm fc] w10 := ⟨Nat.lt_of_lt_of_le HX8.out.1 hst.size, fun j hj => hst.cell (HX8.out.2 j hj) (fun h => Nat.lt_irrefl _ (Nat.lt_of_lt_of_le HSZ.out (HLT8.out.lo _ h)))⟩
            have t1 := hX10.2 1 (by simp)
            have t3 := hX10.2 3 (by simp)
            simp only [List.getElem_cons_zero, List.getElem_cons_succ] at t1 t3
            have HX10 := hide hX10
            have HS10 := hide hst
            have HL10 := hide hl10
            have HM10 := hide hm10
            have HN10 := hide hn10
            have HD10 := hide hdev10
            have HNF := hide hnF
            have hnx : ¬ w.heap.size = mb := by have := HLB.out.2; have := HSZ.out; omega
            have hnm : ¬ nb = mb := HNBM.out
            have msn : ∀ w, (binOp .neq 31 (.agg #[.int .i64 P, .int .i64 R2, .int .u64 (T1 : Int)]) (.agg #[.int .i64 P, .int .i64 R2, .int .u64 (T1 : Int)])).run Tryd.prog w = .ok (.bool false) w := fun w => mt_neq w _ _ true (mt_self w _ _ _)
            have HMLT : Hid (mb < W8.heap.size) := heap_lt hmr8
            have HNLT : Hid (nb < W8.heap.size) := heap_lt HRW8.out
            clear hst hst10 hdev10 hl10 hm10 hn10 hX10 hmr8 hnF HLD HS9 HX8 HRW8
            have hwl : IntKind.i64.wrap ((rn : Int) - 1) = (rn : Int) - 1 := by rw [IntKind.wrap_i64]; omega
            have hb11 : Sole mb w10 (((w10.setCell ⟨mb, 0, none⟩ (.int .i64 P)).setCell ⟨mb, 1, none⟩ (.int .i64 R2)).setCell ⟨mb, 2, none⟩ (.int .u64 (T1 : Int))) := ((Sole.set mb 0 w10 _).trans (Sole.set mb 1 _ _)).trans (Sole.set mb 2 _ _)
            have hm11 : (((w10.setCell ⟨mb, 0, none⟩ (.int .i64 P)).setCell ⟨mb, 1, none⟩ (.int .i64 R2)).setCell ⟨mb, 2, none⟩ (.int .u64 (T1 : Int))).heap[mb]? = some (.cells #[.int .i64 P, .int .i64 R2, .int .u64 (T1 : Int)] 31 (0, 0)) := set_three HM10.out
            have hl11 := (hb11.block _ (heap_lt HL10.out) HNE6.out).trans HL10.out
            have hn11 := (hb11.block _ (heap_lt HN10.out) HNBM.out).trans HN10.out
            have hnf9 : ¬ F9 mb ∧ ¬ F9 lb ∧ ¬ F9 nb := ⟨step_not HS10.out HLT8.out.nm (HMLT.out), step_not HS10.out HLT8.out.nl (heap_lt HLT8.out.lrow), step_not HS10.out HNF.out HNLT.out⟩
            have hst11 : V.Step (fun k => k = mb) (fun k => k = mb) w10 (((w10.setCell ⟨mb, 0, none⟩ (.int .i64 P)).setCell ⟨mb, 1, none⟩ (.int .i64 R2)).setCell ⟨mb, 2, none⟩ (.int .u64 (T1 : Int))) := ⟨hb11.os, hb11.tape, hb11.output, hb11.size, hb11.block, fun k h => .inl h⟩
            have hd11 := HD10.out.keep hst11 (fun k hk e => hnf9.1 (by have e' : k = mb := e; rw [← e']; exact hk))
            have hlo11 := V.Step.ge HS10.out HLT8.out.lo HLT8.out.bel.size
            have hbl10 := HLT8.out.bel.trans (HS10.out.below HLT8.out.lo HLT8.out.bel.size)
            have hbl11 : Below W0.heap.size W0 (((w10.setCell ⟨mb, 0, none⟩ (.int .i64 P)).setCell ⟨mb, 1, none⟩ (.int .i64 R2)).setCell ⟨mb, 2, none⟩ (.int .u64 (T1 : Int))) := below_three hbl10 HLB.out.2
            have hbx11 : Boxed w.heap.size [.int .u64 (f0 : Int), .slice (some ⟨rg, ro, none⟩) rn rc, .int .i64 PG, .slice fa fm fc] (((w10.setCell ⟨mb, 0, none⟩ (.int .i64 P)).setCell ⟨mb, 1, none⟩ (.int .i64 R2)).setCell ⟨mb, 2, none⟩ (.int .u64 (T1 : Int))) := ⟨Nat.lt_of_lt_of_le HX10.out.1 hb11.size, fun j hj => hb11.cell (HX10.out.2 j hj) hnx⟩
            have HM11 := hide hm11
            have HL11 := hide hl11
            have HN11 := hide hn11
            have HNF9 := hide hnf9
            have HD11 := hide hd11
            have HLO11 := hide hlo11
            have HBL11 := hide hbl11
            have HBX11 := hide hbx11
            have HPL1 : Hid ((readD (readD (storedM d ⟨P, R2, T1⟩))).pend.length ≤ 140737488355328) := by show (V.chunks _ _ 1).length ≤ _; rw [V.chunks_len]; decide
            clear hb11 hm11 hl11 hn11 hnf9 hst11 hd11 hlo11 hbl10 hbl11 hbx11
            by_cases hlast : i + 1 = rn
            · have hdl : ((i : Int) == (rn : Int) - 1) = true := by rw [beq_iff_eq]; omega
              clear hlast
              go_wp2_with fail
              generalize (((w10.setCell ⟨mb, 0, none⟩ (.int .i64 P)).setCell ⟨mb, 1, none⟩ (.int .i64 R2)).setCell ⟨mb, 2, none⟩ (.int .u64 (T1 : Int))) = W11 at *
              clear m0 m1 m2 mf0 mf1 mf2 s0 s1 s2 t1 t3
              have HBWW : Hid (Below w.heap.size w W11) := HB.out.trans (HBL11.out.mono (Nat.le_of_lt HSZ.out))
              refine Calls.mono (HFATE.out W11 HBWW.out) ?_
              rintro e w12 ⟨fv, L, rfl, ho12, hk12, hb12⟩
              obtain ⟨fva, fvn, fvc, rfl⟩ : ∃ a n c, fv = .slice a n c := by
                rcases ho12.2 with ⟨h', h0⟩ | ⟨g, cap, cur, h', _⟩
                · exact ⟨_, _, _, h'⟩
                · exact ⟨_, _, _, h'⟩
              have CR := V.crash_any db F9 (readD (readD (storedM d ⟨P, R2, T1⟩))) w12 (HD11.out.below hb12) L _ (owns_base ho12 (Nat.zero_le _)) HPL1.out
              have HCR := hide CR
              have HK12 := hide hk12
              have HB12 := hide hb12
              clear CR ho12 hk12 hb12
              go_wp2_with fail
              refine Calls.mono HCR.out ?_
              rintro e w13 ⟨rfl, F13, hdev13, hst13⟩
              have HRV := hide (V.revive_any db F13 _ w13 hdev13)
              have HS13 := hide hst13
              clear hdev13 hst13 HCR
              go_wp2_with fail
              refine Calls.mono HRV.out ?_
              rintro e w14 ⟨rfl, hdev14, hst14⟩
              rw [crash_read] at hdev14
              have hst := ((V.Step.of_below (F := F9) HB12.out).trans HS13.out).trans hst14
              have hm14 := (hst.block _ (heap_lt HM11.out) HNF9.out.1).trans HM11.out
              have hl14 := (hst.block _ (heap_lt HL11.out) HNF9.out.2.1).trans HL11.out
              have hn14 := (hst.block _ (heap_lt HN11.out) HNF9.out.2.2).trans HN11.out
              have HLO14 := hide (V.Step.ge hst HLO11.out HBL11.out.size)
              have HBL14 := hide (HBL11.out.trans (hst.below HLO11.out HBL11.out.size))
              have HM14 := hide hm14
              have HL14 := hide hl14
              have HN14 := hide hn14
              have HD14 := hide hdev14
              have HNF14 : Hid (¬ F13 mb ∧ ¬ F13 lb ∧ ¬ F13 nb) := ⟨step_not hst HNF9.out.1 (heap_lt HM11.out), step_not hst HNF9.out.2.1 (heap_lt HL11.out), step_not hst HNF9.out.2.2 (heap_lt HN11.out)⟩
              have HTN := hide (stored_crash HLT.out.tn HLT.out.may hT64 (n := ⟨P, R2, T1⟩) HT1.out L HK12.out)
              clear hdev14 hst14 hst hm14 hl14 hn14 HS13 HRV
              generalize ((storedM d ⟨P, R2, T1⟩).crash L).revive = dX at *
              have HFIN : Hid (∀ w15 (u0 u1 u2 : Value), V.Step F13 F13 w14 w15 → Below w.heap.size w (((w15.setCell ⟨mb, 0, none⟩ u0).setCell ⟨mb, 1, none⟩ u1).setCell ⟨mb, 2, none⟩ u2)) := fun w15 u0 u1 u2 h => HB.out.trans ((below_three (HBL14.out.trans (h.below HLO14.out HBL14.out.size)) HLB.out.2).mono (Nat.le_of_lt HSZ.out))
              rcases HTN.out with htn | htn
              · have htr := htn.read.read
                have LD := load_any W0.heap.size A ac db F13 (readD (readD dX)) w14 HD14.out (HEB.out _ HBL14.out) HLO14.out htr.pr.dead (by rw [htr.pr.size, HSZ8.out]; exact HPK.out) ⟨P, R, T⟩ (lens_dev _ _ (by rw [htr.reads.1]; exact mpage_len _) (by rw [htr.reads.2]; exact htr.pr.len)).1 (lens_dev _ _ (by rw [htr.reads.1]; exact mpage_len _) (by rw [htr.reads.2]; exact htr.pr.len)).2 (by rw [htr.pr.size, HSZ8.out]; exact choV_dev _ _ _ P _ HPK.out HLT.out.may hT64 rfl htr.reads.1 (by rw [htr.reads.2]; exact htr.pr.old))
                have HLD : Hid (Calls Tryd.prog 13 #[.pointer (some ⟨db, 0, none⟩)] w14 fun e w' => e = .returned (.tuple #[.agg #[.int .i64 P, .int .i64 R, .int .u64 (T : Int)], .nilIface]) ∧ V.DevAt w' db F13 (readD (readD (readD (readD dX)))) ∧ V.Step F13 F13 w14 w') := LD
                clear LD htr htn HTN
                go_wp2_with fail
                refine Calls.mono HLD.out ?_
                rintro e w15 ⟨rfl, hdev15, hst15⟩
                have hm15 := (hst15.block _ (heap_lt HM14.out) HNF14.out.1).trans HM14.out
                have hl15 := (hst15.block _ (heap_lt HL14.out) HNF14.out.2.1).trans HL14.out
                have m0 : w15.cell? ⟨mb, 0, none⟩ = some (.int .i64 P) := by rw [cell_of_row _ _ _ _ _ _ hm15]; rfl
                have m1 : w15.cell? ⟨mb, 1, none⟩ = some (.int .i64 R2) := by rw [cell_of_row _ _ _ _ _ _ hm15]; rfl
                have m2 : w15.cell? ⟨mb, 2, none⟩ = some (.int .u64 (T1 : Int)) := by rw [cell_of_row _ _ _ _ _ _ hm15]; rfl
                have mf0 : w15.frozen? ⟨mb, 0, none⟩ = false := frozen_of_row _ _ _ _ _ hm15
                have mf1 : w15.frozen? ⟨mb, 1, none⟩ = false := frozen_of_row _ _ _ _ _ hm15
                have mf2 : w15.frozen? ⟨mb, 2, none⟩ = false := frozen_of_row _ _ _ _ _ hm15
                have s0 : w15.cell? ⟨lb, 0, none⟩ = some (.int .i64 P) := by rw [cell_of_row _ _ _ _ _ _ hl15]; rfl
                have s1 : w15.cell? ⟨lb, 1, none⟩ = some (.int .i64 R) := by rw [cell_of_row _ _ _ _ _ _ hl15]; rfl
                have s2 : w15.cell? ⟨lb, 2, none⟩ = some (.int .u64 (T : Int)) := by rw [cell_of_row _ _ _ _ _ _ hl15]; rfl
                have hlm : ¬ lb = mb := HNE6.out
                have mse : ∀ w, (binOp .eql 31 (.agg #[.int .i64 P, .int .i64 R, .int .u64 (T : Int)]) (.agg #[.int .i64 P, .int .i64 R, .int .u64 (T : Int)])).run Tryd.prog w = .ok (.bool true) w := fun w => mt_self w _ _ _
                have HEND := hide (HFIN.out w15 (.int .i64 P) (.int .i64 R) (.int .u64 (T : Int)) hst15)
                clear hdev15 hst15 hm15 hl15
                go_wp2_with fail
                go_ret
                exact ⟨rfl, HEND.out⟩
              · have htr := htn.read.read
                have LD := load_any W0.heap.size A ac db F13 (readD (readD dX)) w14 HD14.out (HEB.out _ HBL14.out) HLO14.out htr.pr.dead (by rw [htr.pr.size, HSZ8.out]; exact HPK.out) ⟨P, R2, T1⟩ (lens_dev _ _ (by rw [htr.reads.1]; exact mpage_len _) (by rw [htr.reads.2]; exact htr.pr.len)).1 (lens_dev _ _ (by rw [htr.reads.1]; exact mpage_len _) (by rw [htr.reads.2]; exact htr.pr.len)).2 (by rw [htr.pr.size, HSZ8.out]; exact choV_dev _ _ _ P _ HPK.out HMN.out hT164 rfl htr.reads.1 (by rw [htr.reads.2]; exact htr.pr.old))
                have HLD : Hid (Calls Tryd.prog 13 #[.pointer (some ⟨db, 0, none⟩)] w14 fun e w' => e = .returned (.tuple #[.agg #[.int .i64 P, .int .i64 R2, .int .u64 (T1 : Int)], .nilIface]) ∧ V.DevAt w' db F13 (readD (readD (readD (readD dX)))) ∧ V.Step F13 F13 w14 w') := LD
                clear LD htr htn HTN
                go_wp2_with fail
                refine Calls.mono HLD.out ?_
                rintro e w15 ⟨rfl, hdev15, hst15⟩
                have hm15 := (hst15.block _ (heap_lt HM14.out) HNF14.out.1).trans HM14.out
                have hl15 := (hst15.block _ (heap_lt HL14.out) HNF14.out.2.1).trans HL14.out
                have hn15 := (hst15.block _ (heap_lt HN14.out) HNF14.out.2.2).trans HN14.out
                have m0 : w15.cell? ⟨mb, 0, none⟩ = some (.int .i64 P) := by rw [cell_of_row _ _ _ _ _ _ hm15]; rfl
                have m1 : w15.cell? ⟨mb, 1, none⟩ = some (.int .i64 R2) := by rw [cell_of_row _ _ _ _ _ _ hm15]; rfl
                have m2 : w15.cell? ⟨mb, 2, none⟩ = some (.int .u64 (T1 : Int)) := by rw [cell_of_row _ _ _ _ _ _ hm15]; rfl
                have mf0 : w15.frozen? ⟨mb, 0, none⟩ = false := frozen_of_row _ _ _ _ _ hm15
                have mf1 : w15.frozen? ⟨mb, 1, none⟩ = false := frozen_of_row _ _ _ _ _ hm15
                have mf2 : w15.frozen? ⟨mb, 2, none⟩ = false := frozen_of_row _ _ _ _ _ hm15
                have s0 : w15.cell? ⟨lb, 0, none⟩ = some (.int .i64 P) := by rw [cell_of_row _ _ _ _ _ _ hl15]; rfl
                have s1 : w15.cell? ⟨lb, 1, none⟩ = some (.int .i64 R) := by rw [cell_of_row _ _ _ _ _ _ hl15]; rfl
                have s2 : w15.cell? ⟨lb, 2, none⟩ = some (.int .u64 (T : Int)) := by rw [cell_of_row _ _ _ _ _ _ hl15]; rfl
                have q0 : w15.cell? ⟨nb, 0, none⟩ = some (.int .i64 P) := by rw [cell_of_row _ _ _ _ _ _ hn15]; rfl
                have q1 : w15.cell? ⟨nb, 1, none⟩ = some (.int .i64 R2) := by rw [cell_of_row _ _ _ _ _ _ hn15]; rfl
                have q2 : w15.cell? ⟨nb, 2, none⟩ = some (.int .u64 (T1 : Int)) := by rw [cell_of_row _ _ _ _ _ _ hn15]; rfl
                have hlm : ¬ lb = mb := HNE6.out
                have mne : ∀ w, (binOp .eql 31 (.agg #[.int .i64 P, .int .i64 R2, .int .u64 (T1 : Int)]) (.agg #[.int .i64 P, .int .i64 R, .int .u64 (T : Int)])).run Tryd.prog w = .ok (.bool false) w := fun w => by
                  have hTT : ((T1 : Int) == (T : Int)) = false := by rw [beq_eq_false_iff_ne]; have := HT1.out; omega
                  rw [mt_eq, hTT]; simp
                have mse : ∀ w, (binOp .eql 31 (.agg #[.int .i64 P, .int .i64 R2, .int .u64 (T1 : Int)]) (.agg #[.int .i64 P, .int .i64 R2, .int .u64 (T1 : Int)])).run Tryd.prog w = .ok (.bool true) w := fun w => mt_self w _ _ _
                have HEND := hide (HFIN.out w15 (.int .i64 P) (.int .i64 R2) (.int .u64 (T1 : Int)) hst15)
                clear hdev15 hst15 hm15 hl15 hn15
                go_wp2_with fail
                go_ret
                exact ⟨rfl, HEND.out⟩
            · have hdl : ((i : Int) == (rn : Int) - 1) = false := by rw [beq_eq_false_iff_ne]; omega
              clear hlast
              have HSY0 : Hid (Calls Tryd.prog 12 #[.pointer (some ⟨db, 0, none⟩)] (((w10.setCell ⟨mb, 0, none⟩ (.int .i64 P)).setCell ⟨mb, 1, none⟩ (.int .i64 R2)).setCell ⟨mb, 2, none⟩ (.int .u64 (T1 : Int))) fun e w' => e = .returned .nilIface ∧ ∃ F', V.DevAt w' db F' { syncM d ⟨P, R2, T1⟩ with nr := wrap64 (wrap64 (d.nr + 1) + 1) } ∧ V.Step F9 F' (((w10.setCell ⟨mb, 0, none⟩ (.int .i64 P)).setCell ⟨mb, 1, none⟩ (.int .i64 R2)).setCell ⟨mb, 2, none⟩ (.int .u64 (T1 : Int))) w') := by
                have SY := V.sync_any W0.heap.size A db F9 (readD (readD (storedM d ⟨P, R2, T1⟩))) _ HD11.out (HEB.out _ HBL11.out).errs HLO11.out HPL1.out (by show V.OpOk _ _ _ d.arms; rw [HPR.out.arms]; exact V.opdone_nil _ _ _)
                rw [sync_read d _ HPR.out.dead HPR.out.arms] at SY
                exact SY
              go_wp2_with fail
              generalize (((w10.setCell ⟨mb, 0, none⟩ (.int .i64 P)).setCell ⟨mb, 1, none⟩ (.int .i64 R2)).setCell ⟨mb, 2, none⟩ (.int .u64 (T1 : Int))) = W11 at *
              clear m0 m1 m2 mf0 mf1 mf2 s0 s1 s2 t1 t3
              refine Calls.mono HSY0.out ?_
              rintro e w13 ⟨rfl, F13, hdev13, hst13⟩
              have htn : Tn sz P { syncM d ⟨P, R2, T1⟩ with nr := wrap64 (wrap64 (d.nr + 1) + 1) } ⟨P, R2, T1⟩ := HPR.out.synced.same rfl rfl rfl rfl HPR.out.dead
              have hm13 := (hst13.block _ (heap_lt HM11.out) HNF9.out.1).trans HM11.out
              have hl13 := (hst13.block _ (heap_lt HL11.out) HNF9.out.2.1).trans HL11.out
              have hn13 := (hst13.block _ (heap_lt HN11.out) HNF9.out.2.2).trans HN11.out
              have hbl13 := HBL11.out.trans (hst13.below HLO11.out HBL11.out.size)
              have hlo13 := V.Step.ge hst13 HLO11.out HBL11.out.size
              have hnf13 : ¬ F13 mb ∧ ¬ F13 lb := ⟨step_not hst13 HNF9.out.1 (heap_lt HM11.out), step_not hst13 HNF9.out.2.1 (heap_lt HL11.out)⟩
              have hbx13 : Boxed w.heap.size [.int .u64 (f0 : Int), .slice (some ⟨rg, ro, none⟩) rn rc, .int .i64 PG, .slice fa fm fc] w13 := ⟨Nat.lt_of_lt_of_le HBX11.out.1 hst13.size, fun j hj => hst13.cell (HBX11.out.2 j hj) (fun h => Nat.lt_irrefl _ (Nat.lt_of_lt_of_le HSZ.out (HLO11.out _ h)))⟩
              have q0 : w13.cell? ⟨nb, 0, none⟩ = some (.int .i64 P) := by rw [cell_of_row _ _ _ _ _ _ hn13]; rfl
              have q1 : w13.cell? ⟨nb, 1, none⟩ = some (.int .i64 R2) := by rw [cell_of_row _ _ _ _ _ _ hn13]; rfl
              have q2 : w13.cell? ⟨nb, 2, none⟩ = some (.int .u64 (T1 : Int)) := by rw [cell_of_row _ _ _ _ _ _ hn13]; rfl
              have s0 : w13.cell? ⟨lb, 0, none⟩ = some (.int .i64 P) := by rw [cell_of_row _ _ _ _ _ _ hl13]; rfl
              have s1 : w13.cell? ⟨lb, 1, none⟩ = some (.int .i64 R) := by rw [cell_of_row _ _ _ _ _ _ hl13]; rfl
              have s2 : w13.cell? ⟨lb, 2, none⟩ = some (.int .u64 (T : Int)) := by rw [cell_of_row _ _ _ _ _ _ hl13]; rfl
              have lf0 : w13.frozen? ⟨lb, 0, none⟩ = false := frozen_of_row _ _ _ _ _ hl13
              have lf1 : w13.frozen? ⟨lb, 1, none⟩ = false := frozen_of_row _ _ _ _ _ hl13
              have lf2 : w13.frozen? ⟨lb, 2, none⟩ = false := frozen_of_row _ _ _ _ _ hl13
              have hs14 := ((Sole.set lb 0 w13 (.int .i64 P)).trans (Sole.set lb 1 _ (.int .i64 R2))).trans (Sole.set lb 2 _ (.int .u64 (T1 : Int)))
              have hst14 : V.Step (fun k => k = lb) (fun k => k = lb) w13 (((w13.setCell ⟨lb, 0, none⟩ (.int .i64 P)).setCell ⟨lb, 1, none⟩ (.int .i64 R2)).setCell ⟨lb, 2, none⟩ (.int .u64 (T1 : Int))) := ⟨hs14.os, hs14.tape, hs14.output, hs14.size, hs14.block, fun k h => .inl h⟩
              have HLT14 : Hid (LT W0 sz P db lb mb (((w13.setCell ⟨lb, 0, none⟩ (.int .i64 P)).setCell ⟨lb, 1, none⟩ (.int .i64 R2)).setCell ⟨lb, 2, none⟩ (.int .u64 (T1 : Int))) { syncM d ⟨P, R2, T1⟩ with nr := wrap64 (wrap64 (d.nr + 1) + 1) } F13 ⟨P, R2, T1⟩) :=
                ⟨hdev13.keep hst14 (fun k hk e => hnf13.2 (by have e' : k = lb := e; rw [← e']; exact hk)), htn, HMN.out, rfl, hlo13, set_three hl13, ⟨_, _, _, (hs14.block _ (heap_lt hm13) (fun e => HNE6.out e.symm)).trans hm13⟩, hnf13.2, hnf13.1, below_three hbl13 HLB.out.1⟩
              have hxl : ¬ w.heap.size = lb := by have := HLB.out.1; have := HSZ.out; omega
              have HBX14 : Hid (Boxed w.heap.size [.int .u64 (f0 : Int), .slice (some ⟨rg, ro, none⟩) rn rc, .int .i64 PG, .slice fa fm fc] (((w13.setCell ⟨lb, 0, none⟩ (.int .i64 P)).setCell ⟨lb, 1, none⟩ (.int .i64 R2)).setCell ⟨lb, 2, none⟩ (.int .u64 (T1 : Int)))) := ⟨Nat.lt_of_lt_of_le hbx13.1 hs14.size, fun j hj => hs14.cell (hbx13.2 j hj) hxl⟩
              have hnl : ¬ nb = lb := HNBL.out
              clear hdev13 hst13 htn hm13 hl13 hn13 hbl13 hlo13 hnf13 hbx13 hs14 hst14
              go_wp2_with fail
              go_roundw
              case rel => exact ⟨i + 1, _, F13, ⟨P, R2, T1⟩, by omega, by go_num, by have := HT1.out; have := HTX.out; show T1 = _; omega, HLT14.out, HBX14.out⟩
              case measure => simp [intOf]; omega
      · have hke : i = rn := by omega
        subst hke
        have HBWX : Hid (Below w.heap.size w wr) := HBWR.out
        go_wp2_with fail
        refine Calls.mono (HFATE.out wr HBWX.out) ?_
        rintro e w12 ⟨fv, L, rfl, ho12, hk12, hb12⟩
        obtain ⟨fva, fvn, fvc, rfl⟩ : ∃ a n c, fv = .slice a n c := by
          rcases ho12.2 with ⟨h', h0⟩ | ⟨g, cap, cur, h', _⟩
          · exact ⟨_, _, _, h'⟩
          · exact ⟨_, _, _, h'⟩
        have HLT12 := hide (HLT.out.up hb12)
        have HCR := hide (V.crash_any db F d w12 HLT12.out.dev L _ (owns_base ho12 (Nat.zero_le _)) (by rw [HLT.out.tn.pr.pend]; decide))
        clear ho12 hk12 hb12
        go_wp2_with fail
        refine Calls.mono HCR.out ?_
        rintro e w13 ⟨rfl, F13, hdev13, hst13⟩
        have HRV := hide (V.revive_any db F13 _ w13 hdev13)
        have HS13 := hide hst13
        clear hdev13 hst13 HCR
        go_wp2_with fail
        refine Calls.mono HRV.out ?_
        rintro e w14 ⟨rfl, hdev14, hst14⟩
        have htn := HLT.out.tn.crash L
        have HLT14 := hide (HLT12.out.step (HS13.out.trans hst14) hdev14 htn)
        clear hdev14 hst14 HS13 HRV htn
        have htr := HLT14.out.tn
        have LD := load_any W0.heap.size A ac db F13 _ w14 HLT14.out.dev (HEB.out _ HLT14.out.bel) HLT14.out.lo htr.pr.dead (by rw [htr.pr.size, HSZ8.out]; exact HPK.out) ⟨P, R, T⟩ (lens_dev _ _ (by rw [htr.reads.1]; exact mpage_len _) (by rw [htr.reads.2]; exact htr.pr.len)).1 (lens_dev _ _ (by rw [htr.reads.1]; exact mpage_len _) (by rw [htr.reads.2]; exact htr.pr.len)).2 (by rw [htr.pr.size, HSZ8.out]; exact choV_dev _ _ _ P _ HPK.out HLT.out.may hT64 rfl htr.reads.1 (by rw [htr.reads.2]; exact htr.pr.old))
        have HLD : Hid (Calls Tryd.prog 13 #[.pointer (some ⟨db, 0, none⟩)] w14 fun e w' => e = .returned (.tuple #[.agg #[.int .i64 P, .int .i64 R, .int .u64 (T : Int)], .nilIface]) ∧ V.DevAt w' db F13 (readD (readD (d.crash L).revive)) ∧ V.Step F13 F13 w14 w') := LD
        clear LD htr
        go_wp2_with fail
        refine Calls.mono HLD.out ?_
        rintro e w15 ⟨rfl, hdev15, hst15⟩
        have HLT15 := hide (HLT14.out.step hst15 hdev15 HLT14.out.tn.read.read)
        obtain ⟨ma, mb', mc, hm15⟩ := HLT15.out.mrow
        have m0 : w15.cell? ⟨mb, 0, none⟩ = some ma := by rw [cell_of_row _ _ _ _ _ _ hm15]; rfl
        have m1 : w15.cell? ⟨mb, 1, none⟩ = some mb' := by rw [cell_of_row _ _ _ _ _ _ hm15]; rfl
        have m2 : w15.cell? ⟨mb, 2, none⟩ = some mc := by rw [cell_of_row _ _ _ _ _ _ hm15]; rfl
        have mf0 : w15.frozen? ⟨mb, 0, none⟩ = false := frozen_of_row _ _ _ _ _ hm15
        have mf1 : w15.frozen? ⟨mb, 1, none⟩ = false := frozen_of_row _ _ _ _ _ hm15
        have mf2 : w15.frozen? ⟨mb, 2, none⟩ = false := frozen_of_row _ _ _ _ _ hm15
        have s0 : w15.cell? ⟨lb, 0, none⟩ = some (.int .i64 P) := by rw [cell_of_row _ _ _ _ _ _ HLT15.out.lrow]; rfl
        have s1 : w15.cell? ⟨lb, 1, none⟩ = some (.int .i64 R) := by rw [cell_of_row _ _ _ _ _ _ HLT15.out.lrow]; rfl
        have s2 : w15.cell? ⟨lb, 2, none⟩ = some (.int .u64 (T : Int)) := by rw [cell_of_row _ _ _ _ _ _ HLT15.out.lrow]; rfl
        have hlm : ¬ lb = mb := HNE6.out
        have mse : ∀ w, (binOp .eql 31 (.agg #[.int .i64 P, .int .i64 R, .int .u64 (T : Int)]) (.agg #[.int .i64 P, .int .i64 R, .int .u64 (T : Int)])).run Tryd.prog w = .ok (.bool true) w := fun w => mt_self w _ _ _
        have HEND : Hid (Below w.heap.size w (((w15.setCell ⟨mb, 0, none⟩ (.int .i64 P)).setCell ⟨mb, 1, none⟩ (.int .i64 R)).setCell ⟨mb, 2, none⟩ (.int .u64 (T : Int)))) := HB.out.trans ((below_three HLT15.out.bel HLB.out.2).mono (Nat.le_of_lt HSZ.out))
        clear hdev15 hst15 hm15 x0 x1 x2 b1 b3
        go_wp2_with fail
        go_ret
        exact ⟨rfl, HEND.out⟩

end Go.Proofs.YtlopimdnjookeaaDoor
