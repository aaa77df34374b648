import Derived.Test.YtmifadjgmjnkgaaDoorSeal
import Derived.Test.YtmifadjgmjnkgaaDoorRSeal
import Derived.Test.YtmifadjgmjnkgaaDoorSame
import Derived.Test.YtmifadjgmjnkgaaDoorFrm
import Derived.Test.YtmifadjgmjnkgaaDoorNum
namespace Go.Proofs.YtmifadjgmjnkgaaDoor
open Go.RowKit

theorem slice_form {w : World} {b n : Nat} {v : Value} {xs : List Value} (h : w.ownsRow b 5 1 v n xs) : ∃ a0 cap, v = .slice a0 n cap := by
  rcases h.2 with ⟨h', h0⟩ | ⟨g, cap, cur, h', _⟩
  · exact ⟨none, 0, by rw [h', h0]⟩
  · exact ⟨_, cap, h'⟩

/-- What Seal answers: the bytes and the refusal, as the document's own answer has them. -/
def SealIs (A : Nat → Addr) (s : Sh) (l : List UInt8) (E : Value) (F : Int) : Prop :=
  l.length ≤ 4096 ∧
  (∀ w, Lay w → Tab w → ErrsAt A w → Calls Tryd.prog 16 #[.agg s.cells.toArray] w fun e w' => ∃ v, e = .returned (.tuple #[v, E]) ∧ w'.ownsRow w.heap.size 5 1 v l.length (u8s l) ∧ Below w.heap.size w w') ∧
  (∀ w, Calls Tryd.prog 20 #[.agg s.cells.toArray] w fun e w' => ∃ v, e = .returned (.tuple #[v, .int .i64 F]) ∧ w'.ownsRow w.heap.size 5 1 v l.length (u8s l) ∧ Below w.heap.size w w') ∧
  (∀ w, ErrsAt A w → Calls Tryd.prog 17 #[E] w fun e w' => e = .returned (.int .i64 F) ∧ w = w')

theorem seal_is (A : Nat → Addr) (s : Sh) (hs : s.body.size ≤ 140737488355328) (hx : s.txid < 18446744073709551616) : ∃ l E F, SealIs A s l E F := by
  by_cases hm : May s
  · have hl := page_len s hm
    refine ⟨page s, .nilIface, 0, by omega, fun w h1 h2 _ => ?_, fun w => ?_, fun w _ => num_nil w⟩
    · refine (seal_ok s w hm hx h1 h2).mono ?_
      rintro e w' ⟨g, rfl, hr, hg, hb⟩
      refine ⟨_, rfl, ?_, hb⟩
      have h := hr.owns w.heap.size hg (by rw [hl]; decide)
      rw [hl] at h ⊢
      exact h
    · refine (rseal_ok s w hm hx).mono ?_
      rintro e w' ⟨g, cap, rfl, ho, hb⟩
      exact ⟨_, rfl, by rw [hl]; exact ho, hb⟩
  · refine ⟨[], .iface 118 (.pointer (some (A 0))), 1, by decide, fun w _ _ hA => ?_, fun w => ?_, fun w hA => num_arg A w hA⟩
    · refine (seal_no (A 0) s w hs hm (hA.1 0 (by decide)).1).mono ?_
      rintro e w' ⟨rfl, hb⟩
      exact ⟨_, rfl, World.ownsRow_nil _ _ _ _, hb⟩
    · refine (rseal_no s w hs hm).mono ?_
      rintro e w' ⟨rfl, hb⟩
      exact ⟨_, rfl, World.ownsRow_nil _ _ _ _, hb⟩

set_option maxRecDepth 100000 in
set_option maxHeartbeats 2000000 in
theorem seals_any (A : Nat → Addr) (s : Sh) (w : World) (hs : s.body.size ≤ 140737488355328) (hx : s.txid < 18446744073709551616) (hL : Lay w) (hT : Tab w) (hA : ErrsAt A w) :
    Calls Tryd.prog 6 #[.agg s.cells.toArray] w fun e w' => e = .returned (.bool true) ∧ Below w.heap.size w w' := by
  obtain ⟨l, E, F, hl, hP, hR, hN⟩ := seal_is A s hs hx
  obtain ⟨k, i, t, c, b⟩ := s
  have HP : Hid (∀ w, Lay w → Tab w → ErrsAt A w → Calls Tryd.prog 16 #[.agg #[.int .i64 k, .int .i64 i, .int .u64 (t : Int), .int .i64 c, .string b]] w fun e w' => ∃ v, e = .returned (.tuple #[v, E]) ∧ w'.ownsRow w.heap.size 5 1 v l.length (u8s l) ∧ Below w.heap.size w w') := hP
  have HR : Hid (∀ w, Calls Tryd.prog 20 #[.agg #[.int .i64 k, .int .i64 i, .int .u64 (t : Int), .int .i64 c, .string b]] w fun e w' => ∃ v, e = .returned (.tuple #[v, .int .i64 F]) ∧ w'.ownsRow w.heap.size 5 1 v l.length (u8s l) ∧ Below w.heap.size w w') := hR
  have HN := hide hN
  have HL := hide hL
  have HT := hide hT
  have HA := hide hA
  have HX : Hid (Boxed w.heap.size [.int .i64 k, .int .i64 i, .int .u64 (t : Int), .int .i64 c, .string b] (w.alloc (.cells #[.int .i64 k, .int .i64 i, .int .u64 (t : Int), .int .i64 c, .string b] 31))) := boxed_new w _ _
  have HB : Hid (Below w.heap.size w (w.alloc (.cells #[.int .i64 k, .int .i64 i, .int .u64 (t : Int), .int .i64 c, .string b] 31))) := below_new w _
  obtain ⟨i0, hi, hz0, hz1, hz2⟩ := info_parts Tryd.info5
  clear hP hR hN hL hT hA hs hx
  show Calls Tryd.prog 6 #[.agg #[.int .i64 k, .int .i64 i, .int .u64 (t : Int), .int .i64 c, .string b]] w _
  go_enter Tryd.func6, Tryd.ntmps6
  go_wp2_with fail
  generalize w.alloc (.cells #[.int .i64 k, .int .i64 i, .int .u64 (t : Int), .int .i64 c, .string b] 31) = W0 at *
  -- p
  refine (HP.out _ (HL.out.below HB.out) (HT.out.below HB.out) (HA.out.below HB.out)).mono ?_
  rintro e w1 ⟨vp, rfl, ownP, hb1⟩
  have HX1 := hide (HX.out.below hb1)
  have HB1 := hide (Below.next HB.out hb1)
  have OP1 := hide ownP
  have z1 : W0.heap.size ≤ w1.heap.size := hb1.size
  have PP : Hid (∀ q, vp.ownBlock = some q → W0.heap.size ≤ q ∧ q < w1.heap.size) := fun q hq => ownP.lt q hq
  have HW0 : Hid (w.heap.size < W0.heap.size) := HX.out.1
  clear ownP hb1 HX HB
  have c0 : w1.cell? ⟨w.heap.size, 0, none⟩ = some (.int .i64 k) := HX1.out.2 0 (by simp)
  have c1 : w1.cell? ⟨w.heap.size, 1, none⟩ = some (.int .i64 i) := HX1.out.2 1 (by simp)
  have c2 : w1.cell? ⟨w.heap.size, 2, none⟩ = some (.int .u64 (t : Int)) := HX1.out.2 2 (by simp)
  have c3 : w1.cell? ⟨w.heap.size, 3, none⟩ = some (.int .i64 c) := HX1.out.2 3 (by simp)
  have c4 : w1.cell? ⟨w.heap.size, 4, none⟩ = some (.string b) := HX1.out.2 4 (by simp)
  go_wp2_with fail
  -- q
  refine (HR.out _).mono ?_
  rintro e w2 ⟨vq, rfl, ownQ, hb2⟩
  have HX2 := hide (HX1.out.below hb2)
  have HB2 := hide (Below.next HB1.out hb2)
  have OP2 := hide (owns_keep OP1.out hb2)
  have OQ2 := hide ownQ
  have z2 : w1.heap.size ≤ w2.heap.size := hb2.size
  clear c0 c1 c2 c3 c4 ownQ hb2 HX1 HB1 OP1
  go_wp2_with fail
  refine (same_any vp vq l l _ (by omega) (by omega) (rd_of_owns OP2.out).any (rd_of_owns OQ2.out).any).mono ?_
  rintro e w3 ⟨rfl, hb3⟩
  rw [decide_eq_true (Eq.refl l)]
  have HX3 := hide (HX2.out.below hb3)
  have HB3 := hide (Below.next HB2.out hb3)
  have OP3 := hide (owns_keep OP2.out hb3)
  have OQ3 := hide (owns_keep OQ2.out hb3)
  have z3 : w2.heap.size ≤ w3.heap.size := hb3.size
  clear hb3 HX2 HB2 OP2
  go_wp2_with fail
  refine (HN.out _ (HA.out.below HB3.out)).mono ?_
  rintro e w3' ⟨rfl, rfl⟩
  have c0 : w3.cell? ⟨w.heap.size, 0, none⟩ = some (.int .i64 k) := HX3.out.2 0 (by simp)
  have c1 : w3.cell? ⟨w.heap.size, 1, none⟩ = some (.int .i64 i) := HX3.out.2 1 (by simp)
  have c2 : w3.cell? ⟨w.heap.size, 2, none⟩ = some (.int .u64 (t : Int)) := HX3.out.2 2 (by simp)
  have c3 : w3.cell? ⟨w.heap.size, 3, none⟩ = some (.int .i64 c) := HX3.out.2 3 (by simp)
  have c4 : w3.cell? ⟨w.heap.size, 4, none⟩ = some (.string b) := HX3.out.2 4 (by simp)
  go_wp2_with fail
  -- other
  refine (HP.out _ (HL.out.below HB3.out) (HT.out.below HB3.out) (HA.out.below HB3.out)).mono ?_
  rintro e w4 ⟨vo, rfl, ownO, hb4⟩
  have HX4 := hide (HX3.out.below hb4)
  have HB4 := hide (Below.next HB3.out hb4)
  have OP4 := hide (owns_keep OP3.out hb4)
  have OQ4 := hide (owns_keep OQ3.out hb4)
  have OO4 := hide ownO
  have z4 : w3.heap.size ≤ w4.heap.size := hb4.size
  have PQ : Hid (∀ q, vq.ownBlock = some q → w1.heap.size ≤ q) := fun q hq => (OQ4.out.lt q hq).1
  have PO : Hid (∀ q, vo.ownBlock = some q → w3.heap.size ≤ q) := fun q hq => (OO4.out.lt q hq).1
  clear c0 c1 c2 c3 c4 ownO hb4 HX3 HB3 OP3 OQ3 OQ2
  obtain ⟨a0, capP, rfl⟩ := slice_form OP4.out
  obtain ⟨aq, capQ, rfl⟩ := slice_form OQ4.out
  go_wp2_with fail
  go_loopw [10] (fun i wr => ∃ k : Nat, k ≤ l.length ∧ i = .int .i64 k ∧ wr.ownsRow W0.heap.size 5 1 (.slice a0 l.length capP) l.length (u8s (List.replicate k 99 ++ l.drop k)) ∧ Fr w4 wr (fun q => some q = (Value.slice a0 l.length capP).ownBlock)) (fun i _ => l.length - (intOf i).toNat)
  case atStart => exact ⟨0, Nat.zero_le _, rfl, by simpa using OP4.out, Fr.refl _ _⟩
  case round =>
    obtain ⟨j, hj, rfl, ho, hfr⟩ := hrel
    by_cases hlt : j < l.length
    · obtain ⟨ga, cp, he, hga1, hga2⟩ := ho.form (by omega)
      cases he
      have HST := hide (fill_step 99 j rfl hlt (show some ga = (Value.slice (some ⟨ga, 0, none⟩) l.length capP).ownBlock from rfl) ho hfr)
      have hcell : wr.cell? ⟨ga, j, none⟩ = some (.int .u8 ((((List.replicate j 99 ++ l.drop j)[j]'(by simp; omega))).toNat : Int)) := by
        rw [ho.cellAt j (by omega), u8s_get _ j (by simp; omega)]
      obtain ⟨old, hold⟩ : ∃ old : Int, old = ((((List.replicate j 99 ++ l.drop j)[j]'(by simp; omega))).toNat : Int) := ⟨_, rfl⟩
      rw [← hold] at hcell
      have hfz : wr.frozen? ⟨ga, j, none⟩ = false := ho.frozenAt j
      clear hold ho hfr OP4
      go_wp2
      go_roundw
      case rel => exact ⟨j + 1, by omega, by go_num, HST.out.1, HST.out.2⟩
      case measure => simp [intOf]; omega
    · have hke : j = l.length := by omega
      subst hke
      have HI : Hid (Inv1 w4 wr W0.heap.size (Value.slice a0 l.length capP).ownBlock (.slice a0 l.length capP) l.length) := ⟨⟨_, ho⟩, .inl rfl, hfr⟩
      clear ho hfr OP4
      generalize (Value.slice a0 l.length capP).ownBlock = oa at *
      go_wp2_with fail
      go_loopw [3, 11] (fun vL i wr => ∃ k : Nat, k ≤ 64 ∧ i = .int .i64 k ∧ Inv1 w4 wr W0.heap.size oa vL (l.length + k)) (fun _ i _ => 64 - (intOf i).toNat)
      case atStart => exact ⟨0, Nat.zero_le _, rfl, HI.out⟩
      case round =>
        obtain ⟨k2, hk2, rfl, hinv⟩ := hrel
        have HI2 := hide hinv
        obtain ⟨xs, hown⟩ := hinv.own
        clear HI hinv
        by_cases hlt2 : k2 < 64
        · have hs1 : W0.heap.size ≤ wr.heap.size := by have := HI2.out.fr.size; omega
          go_wp2_with (first
            | (at_builtin; refine wpList_append_lies _ rfl _ _ 47 rfl W0.heap.size 5 i0 (.int .u8 0) 1 1 Tryd.underlying47 hi hz0 hz1 hz2 rfl (by decide) _ _ _ rfl (hown.alloc _) ⟨wr.heap.size, 0, none⟩ 1 1 [.int .u8 98] rfl rfl ?c1 ?c2 ?c3 ?c4 ?c5 ?c6 (wr.heap.size + 1) ?c7 ?_))
          case c1 =>
            intro j u hj
            match j, hj with
            | 0, hj => simp at hj; subst hj; simp [Addr.add]
          case c2 => intro u hu; simp at hu; subst hu; rfl
          case c3 => decide
          case c4 => unfold maxLen; omega
          case c5 => omega
          case c6 => simp; omega
          case c7 => simp
          intro gL cL w6 hown6 hgrow6 hat6 hlg6
          have e98 : u8s xs ++ [.int .u8 98] = u8s (xs ++ [98]) := by rw [u8s_append]; rfl
          rw [e98] at hown6
          have HI6 := hide (HI2.out.grow hgrow6 hown6 hat6)
          clear hown6 hgrow6 hat6 hlg6 HI2 hown e98
          go_wp2
          go_roundw
          case rel => exact ⟨k2 + 1, by omega, by go_num, HI6.out⟩
          case measure => simp [intOf]; omega
        · have hke : k2 = 64 := by omega
          subst hke
          rw [show ((64 : Nat) : Int) = 64 from rfl]
          obtain ⟨gL, cL, rfl, _, _⟩ := hown.form (by omega)
          have hfr := HI2.out.fr
          have hexLow : ∀ q, q < W0.heap.size → ¬ (some q = oa) := fun q hq h => by
            have := (PP.out q h.symm).1; omega
          have OOr := hide (hfr.owns OO4.out (fun q hq h => by have h1 := PO.out q hq; have := (PP.out q h.symm).2; omega))
          have OQr := hide (hfr.owns OQ4.out (fun q hq h => by have h1 := PQ.out q hq; have := (PP.out q h.symm).2; omega))
          have HBr := hide (hfr.below HB4.out (fun q hq => hexLow q (by have := HW0.out; omega)))
          have HXr := hide (hfr.boxed HX4.out (hexLow _ HW0.out))
          clear hfr hexLow HI2 hown OO4 OQ4 HB4 HX4
          have c0 : wr.cell? ⟨w.heap.size, 0, none⟩ = some (.int .i64 k) := HXr.out.2 0 (by simp)
          have c1 : wr.cell? ⟨w.heap.size, 1, none⟩ = some (.int .i64 i) := HXr.out.2 1 (by simp)
          have c2 : wr.cell? ⟨w.heap.size, 2, none⟩ = some (.int .u64 (t : Int)) := HXr.out.2 2 (by simp)
          have c3 : wr.cell? ⟨w.heap.size, 3, none⟩ = some (.int .i64 c) := HXr.out.2 3 (by simp)
          have c4 : wr.cell? ⟨w.heap.size, 4, none⟩ = some (.string b) := HXr.out.2 4 (by simp)
          go_wp2_with fail
          refine (HP.out _ (HL.out.below HBr.out) (HT.out.below HBr.out) (HA.out.below HBr.out)).mono ?_
          rintro e w8 ⟨vc, rfl, ownC, hb8⟩
          have rc := hide (rd_of_owns ownC)
          have ro := hide ((rd_of_owns OOr.out).below hb8)
          have rq := hide ((rd_of_owns OQr.out).below hb8)
          have HB8 := hide (Below.next HBr.out hb8)
          clear ownC hb8 c0 c1 c2 c3 c4 HXr OOr OQr HBr
          go_wp2_with fail
          refine (same_any _ _ l l _ (by omega) (by omega) ro.out.any rq.out.any).mono ?_
          rintro e w9 ⟨rfl, hb9⟩
          rw [decide_eq_true (Eq.refl l)]
          have rc9 := hide (rc.out.below hb9)
          have rq9 := hide (rq.out.below hb9)
          have HB9 := hide (Below.next HB8.out hb9)
          clear rc ro rq HB8 hb9
          go_wp2_with fail
          refine (same_any _ _ l l _ (by omega) (by omega) rc9.out.any rq9.out.any).mono ?_
          rintro e w10 ⟨rfl, hb10⟩
          rw [decide_eq_true (Eq.refl l)]
          have HB10 := hide (Below.next HB9.out hb10)
          clear rc9 rq9 HB9 hb10
          go_wp2_with fail
          go_ret
          exact ⟨rfl, HB10.out⟩

end Go.Proofs.YtmifadjgmjnkgaaDoor
