import Derived.Test.YtnaedmmfiiebaaaGreatDoorTBelow4
import Derived.Test.YtnaedmmfiiebaaaGreatDoorSVOpen
import Derived.Test.YtnaedmmfiiebaaaGreatDoorG45
namespace Go.Proofs.YtnaedmmfiiebaaaGreatDoor.T
open Go.RowKit

theorem eql_err_nil (p : Option Addr) (w : World) : (binOp .eql 32 (.iface 360 (.pointer p)) .nilIface).run Tryz.prog w = .ok (.bool false) w := by
  have h2 : ∀ d : Nat, (Op.equalIn (d + 1) 32 (.iface 360 (.pointer p)) .nilIface).run Tryz.prog w = .ok false w := fun d => by
    simp [Op.equalIn, run_underlying Tryz.underlying32]
  simp only [binOp]
  simp [Op.equal, Op.maxDepth, h2 9999]
theorem num_nil (w : World) : Calls Tryz.prog 14 #[.nilIface] w fun e w' => e = .returned (.int .i64 0) ∧ w = w' := by
  go_enter Tryz.func14, Tryz.ntmps14
  go_wp2
  go_ret
  exact ⟨rfl, rfl⟩
set_option maxHeartbeats 800000 in
theorem num_arg (A : Nat → Addr) (w : World) (h : ErrsG 13 gAll A w) : Calls Tryz.prog 14 #[.iface 360 (.pointer (some (A 0)))] w fun e w' => e = .returned (.int .i64 1) ∧ w = w' := by
  have c0 : w.cell? ⟨0, 0, none⟩ = some (.iface 360 (.pointer (some (A 0)))) := (h.1 0 (by decide)).1
  have e0 := eq_same A 0
  have hn := fun W => eql_err_nil (some (A 0)) W
  clear h
  go_enter Tryz.func14, Tryz.ntmps14
  go_wp2
  go_ret
  exact ⟨rfl, rfl⟩
set_option maxHeartbeats 800000 in
theorem more_corrupt (A : Nat → Addr) (w : World) (h : ErrsG 13 gAll A w) : Calls Tryz.prog 44 #[.iface 360 (.pointer (some (A 8)))] w fun e w' => e = .returned (.int .i64 9) ∧ w = w' := by
  have c7 : w.cell? ⟨7, 0, none⟩ = some (.iface 360 (.pointer (some (A 7)))) := (h.1 7 (by decide)).1
  have c8 : w.cell? ⟨8, 0, none⟩ = some (.iface 360 (.pointer (some (A 8)))) := (h.1 8 (by decide)).1
  have e7 := eq_other A 8 7 w h (by decide) (by decide) (by decide)
  have e8 := eq_same A 8
  clear h
  go_enter Tryz.func44, Tryz.ntmps44
  go_wp2
  go_ret
  exact ⟨rfl, rfl⟩
set_option maxHeartbeats 1600000 in
theorem num_corrupt (A : Nat → Addr) (w : World) (h : ErrsG 13 gAll A w) : Calls Tryz.prog 14 #[.iface 360 (.pointer (some (A 8)))] w fun e w' => e = .returned (.int .i64 9) ∧ w = w' := by
  have HM := hide (more_corrupt A w h)
  have c0 : w.cell? ⟨0, 0, none⟩ = some (.iface 360 (.pointer (some (A 0)))) := (h.1 0 (by decide)).1
  have c1 : w.cell? ⟨1, 0, none⟩ = some (.iface 360 (.pointer (some (A 1)))) := (h.1 1 (by decide)).1
  have c2 : w.cell? ⟨2, 0, none⟩ = some (.iface 360 (.pointer (some (A 2)))) := (h.1 2 (by decide)).1
  have c3 : w.cell? ⟨3, 0, none⟩ = some (.iface 360 (.pointer (some (A 3)))) := (h.1 3 (by decide)).1
  have c4 : w.cell? ⟨4, 0, none⟩ = some (.iface 360 (.pointer (some (A 4)))) := (h.1 4 (by decide)).1
  have c5 : w.cell? ⟨5, 0, none⟩ = some (.iface 360 (.pointer (some (A 5)))) := (h.1 5 (by decide)).1
  have c6 : w.cell? ⟨6, 0, none⟩ = some (.iface 360 (.pointer (some (A 6)))) := (h.1 6 (by decide)).1
  have e0 := eq_other A 8 0 w h (by decide) (by decide) (by decide)
  have e1 := eq_other A 8 1 w h (by decide) (by decide) (by decide)
  have e2 := eq_other A 8 2 w h (by decide) (by decide) (by decide)
  have e3 := eq_other A 8 3 w h (by decide) (by decide) (by decide)
  have e4 := eq_other A 8 4 w h (by decide) (by decide) (by decide)
  have e5 := eq_other A 8 5 w h (by decide) (by decide) (by decide)
  have e6 := eq_other A 8 6 w h (by decide) (by decide) (by decide)
  have hn := fun W => eql_err_nil (some (A 8)) W
  clear h
  go_enter Tryz.func14, Tryz.ntmps14
  go_wp2_with fail
  refine HM.out.mono ?_
  rintro e w1 ⟨rfl, rfl⟩
  go_wp2
  go_ret
  exact ⟨rfl, rfl⟩
theorem num_any (A : Nat → Addr) (v : Value) (w : World) (h : ErrsG 13 gAll A w) (hv : ErrV A v) : Calls Tryz.prog 14 #[v] w fun e w' => (∃ i : Int, e = .returned (.int .i64 i) ∧ (i = 0 ∨ i = 1 ∨ i = 9)) ∧ w = w' := by
  rcases hv with rfl | rfl | rfl
  · exact (num_nil w).mono fun e w' ⟨h1, h2⟩ => ⟨⟨0, h1, .inl rfl⟩, h2⟩
  · exact (num_arg A w h).mono fun e w' ⟨h1, h2⟩ => ⟨⟨1, h1, .inr (.inl rfl)⟩, h2⟩
  · exact (num_corrupt A w h).mono fun e w' ⟨h1, h2⟩ => ⟨⟨9, h1, .inr (.inr rfl)⟩, h2⟩
theorem fine_a (w : World) : Calls Tryz.prog 29 #[.string ⟨#[97]⟩, .string ⟨#[49]⟩] w fun e w' => e = .returned (.bool true) ∧ w = w' := by
  have s1 : (⟨#[97]⟩ : ByteArray).size = 1 := rfl
  have s2 : (⟨#[49]⟩ : ByteArray).size = 1 := rfl
  go_enter Tryz.func29, Tryz.ntmps29
  go_wp2
  go_ret
  exact ⟨rfl, rfl⟩
theorem place_nil (key : ByteArray) (w : World) : Calls Tryz.prog 28 #[.slice none 0 0, .string key] w fun e w' => e = .returned (.tuple #[.int .i64 0, .bool false]) ∧ w = w' := by
  go_enter Tryz.func28, Tryz.ntmps28
  go_wp2
  go_loopw [6] (fun iv wr => iv = .int .i64 0 ∧ w = wr) (fun _ _ => 0)
  case atStart => exact ⟨rfl, rfl⟩
  case round =>
    obtain ⟨rfl, rfl⟩ := hrel
    go_wp2
    go_ret2
    exact ⟨rfl, rfl⟩
theorem lpick_any (x : Int) (w : World) : Calls Tryz.prog 33 #[.int .i64 x, .int .i64 397] w fun e w' => (∃ r, e = .returned (.int .i64 r)) ∧ w = w' := by
  go_enter Tryz.func33, Tryz.ntmps33
  go_wp2
  all_goals
    go_ret
    exact ⟨⟨_, rfl⟩, rfl⟩
theorem lpages_any (x : Int) (sv : Value) (w : World) : Calls Tryz.prog 12 #[.agg #[.int .i64 x, sv]] w fun e w' => (∃ r, e = .returned (.int .i64 r)) ∧ Below w.heap.size w w' := by
  have q0 := below_new w (.cells #[.int .i64 x, sv] 37)
  have k0 := (B.RowAt.new w #[.int .i64 x, sv] 37).c0
  have HQ := hide q0
  clear q0
  go_enter Tryz.func12, Tryz.ntmps12
  go_wp2_with fail
  refine (lpick_any x _).mono ?_
  rintro e w1 ⟨⟨r, rfl⟩, rfl⟩
  go_wp2
  go_ret
  exact ⟨⟨_, rfl⟩, HQ.out⟩

end Go.Proofs.YtnaedmmfiiebaaaGreatDoor.T

namespace Go.Proofs.YtnaedmmfiiebaaaGreatDoor.T
open Go.RowKit

/-- What stays under a change of one tree. -/
def Kp (db tb : Nat) (w w' : World) : Prop := ∀ k, k < w.heap.size → k ≠ db → k ≠ tb → w'.heap[k]? = w.heap[k]?
section
variable {base : Nat} {A : Nat → Addr} {db : Nat} {F : Nat → Prop} {d : S.V.Dev} {W0 : World}
theorem change_none2 {w w1 : World} {tb : Nat} {pv : Value} {ps : List Pr} (h : Tc base A db F d W0 w tb) (hm : Mv db F w w1) (hv : Dv base A db F d w1) (ht : B.RowAt w1 tb #[.pointer (some ⟨db, 0, none⟩), .nilIface] 100) (hp : PrR w1 pv ps) (hpm : ∀ p ∈ ps, mayP p = true) (hsz : szL ps ≤ 5627) :
    Calls Tryz.prog 47 #[.pointer (some ⟨tb, 0, none⟩), .slice none 0 0, pv] w1 fun e w' => e = .returned .nilIface ∧ Tc base A db F d W0 w' tb ∧ Kp db tb w w' := by
  have hl := szL_len ps
  have hc := change_sys (noS d) (fun _ _ => True) FlA (fun _ _ _ h => h.1) tb .nilIface none 0 [] [] () () pv ps w w1 (.inl ⟨rfl, rfl⟩) (by simp) (StO.nil _ _) rfl hp ⟨hpm, by omega⟩ (leaf_fl hsz) ht hv h.dv hm (fun W s z bb nb pb lb cb _ _ hok => (hok.2 : False).elim)
  refine hc.mono fun e w' hh => ?_
  rcases hh with ⟨hE, _⟩ | ⟨W, W2, b, n, pn, ln, cn, u, he, hs, hf, hr, hv2, hm2, ht2, rfl⟩
  · exact (hE : False).elim
  · exact ⟨he, h.root hm2 hv2 ht2 (.inl rfl) hs hf hr, fun k hk hd ht => ((S.Sole.set tb 1 W2 u).block k (Nat.lt_of_lt_of_le hk hm2.size) ht).trans (hm2.one.block k hk hd)⟩
set_option maxRecDepth 100000 in
set_option maxHeartbeats 4000000 in
theorem put_none {w : World} {tb : Nat} (key value : ByteArray) (hc : Tc base A db F d W0 w tb) (ht : B.RowAt w tb #[.pointer (some ⟨db, 0, none⟩), .nilIface] 100) (hm : mayP (key, value) = true) :
    Calls Tryz.prog 15 #[.pointer (some ⟨tb, 0, none⟩), .string key, .string value] w fun e w' => e = .returned .nilIface ∧ Tc base A db F d W0 w' tb ∧ Kp db tb w w' := by
  have hmp := may_parts' hm
  have HPF := hide (pfault_any A key value w (by have : key.size ≤ 255 := hmp.2.1; omega) (by have : value.size ≤ 700 := hmp.2.2; omega) hc.dv.errC)
  rw [if_pos hm] at HPF
  have HC := hide hc
  have HT := hide ht
  have HM := hide hm
  clear hc ht hm
  go_enter Tryz.func15, Tryz.ntmps15
  go_wp2_with fail
  refine HPF.out.mono ?_
  rintro e w1 ⟨rfl, hb1⟩
  have HWT := hide (wayto_none tb _ key w1 (HT.out.below hb1))
  have HB1 := hide hb1
  clear hb1 HPF
  go_wp2_with fail
  refine HWT.out.mono ?_
  rintro e w2 ⟨rfl, hb2⟩
  have hbb := Below.next HB1.out hb2
  have HV2 := hide (HC.out.dv.below hbb)
  have HM2 : Hid (Mv db F w w2) := Mv.of hbb
  have HT2 := hide (HT.out.below hbb)
  clear hb2 hbb HWT
  go_wp2_with fail
  refine (pairsat_none w2).mono ?_
  rintro e w2' ⟨rfl, rfl⟩
  go_wp2_with fail
  refine (sclone_any key w2 (by omega)).mono ?_
  rintro e w3 ⟨rfl, hb3⟩
  have HB3 := hide hb3
  clear hb3
  go_wp2_with fail
  refine (sclone_any value w3 (by omega)).mono ?_
  rintro e w4 ⟨rfl, hb4⟩
  have HB4 := hide (Below.next HB3.out hb4)
  clear hb4
  go_wp2_with fail
  refine (lset_any (.slice none 0 0) [] key value w4 (by simp) (PrR.nil _)).mono ?_
  rintro e w5 ⟨u, rfl, hu, hb5⟩
  have HB5 := hide (Below.next HB4.out hb5)
  have HCH := hide (change_none2 HC.out (HM2.out.trans (Mv.of HB5.out)) (HV2.out.below HB5.out) (HT2.out.below HB5.out) hu.at (setL_may (by intro p hp; simp at hp) HM.out) (by
    have := setL_sz [] key value
    have : szP (key, value) ≤ 960 := by have g1 : key.size ≤ 255 := hmp.2.1; have g2 : value.size ≤ 700 := hmp.2.2; unfold szP; dsimp only; omega
    have e : szL [] = 0 := rfl
    omega))
  obtain ⟨ua, uc, huf⟩ := hu.form
  subst huf
  clear hu hb5
  go_wp2_with fail
  refine HCH.out.mono ?_
  rintro e w6 ⟨rfl, htc, hkp⟩
  have HTC := hide htc
  have HKP := hide hkp
  clear htc hkp HCH
  go_wp2
  go_ret
  exact ⟨rfl, HTC.out, HKP.out⟩
end

end Go.Proofs.YtnaedmmfiiebaaaGreatDoor.T

namespace Go.Proofs.YtnaedmmfiiebaaaGreatDoor.T
open Go.RowKit

set_option maxRecDepth 100000 in
set_option maxHeartbeats 1000000 in
theorem with_nil (key value : ByteArray) (w : World) : Calls Tryz.prog 40 #[.slice none 0 0, .string key, .string value] w fun e w' => (∃ a n c, e = .returned (.slice a n c)) ∧ Below w.heap.size w w' := by
  have ho0 : PrO w w.heap.size (.slice none 0 0) [] := World.ownsRow_nil _ _ _ _
  obtain ⟨a2, c2, w2, hr2, ho2, hb2, hs2⟩ := push_prs w.heap.size _ _ (key, value) 52 w w w.heap.size 0 rfl ho0 (by simp) (Nat.le_refl _) (Nat.le_refl _) (Below.refl _ _)
  obtain ⟨a3, c3, w3, hr3, ho3, hg3⟩ := append_prs w.heap.size _ (.slice none 0 0) _ [] w2 ho2 (PrR.nil _) (by simp) hb2.size
  have hb3 : Below w.heap.size w w3 := hb2.grown hg3 hb2.size (fun k hk => (World.ownsRow.lt ho2 k hk).1)
  have HB := hide hb3
  have hr1' : (Builtin.append_ #[63, 63] 63 #[.slice none 0 0, .slice none 0 0]).run Tryz.prog w = .ok (.slice none 0 0) w := by
    obtain ⟨i0, hi, hz, hsz, hby⟩ := info_parts infoP
    exact run_append_owned_none (P := Tryz.prog) w w.heap.size 63 63 52 i0 2 Tryz.underlying63 hi (.slice none 0 0) 0 [] ho0
  have hr2' : (Builtin.append_ #[63, 63] 63 #[.slice none 0 0, .slice (some ⟨w.heap.size, 0, none⟩) 1 1]).run Tryz.prog (w.alloc (.cells #[.string key, .string value] 52)) = .ok (.slice a2 1 c2) w2 := hr2
  have hr3' : (Builtin.append_ #[63, 63] 63 #[.slice a2 1 c2, .slice none 0 0]).run Tryz.prog w2 = .ok (.slice a3 1 c3) w3 := hr3
  have HR1 := hide hr1'
  have HR2 := hide hr2'
  have HR3 := hide hr3'
  clear hr1' hr2' hr3' hr2 hr3 ho0 ho2 ho3 hg3 hb2 hb3 hs2
  go_enter Tryz.func40, Tryz.ntmps40
  go_wp2_with fail
  refine (place_nil key w).mono ?_
  rintro e w' ⟨rfl, rfl⟩
  go_wp2_with (first
    | (at_builtin; refine wpList_append_run 63 rfl (.tmp 16) (.tmp 19) rfl rfl (.slice none 0 0) (.slice none 0 0) rfl rfl _ _ HR1.out ?_)
    | (at_builtin; refine wpList_append_run 63 rfl (.tmp 21) (.tmp 25) rfl rfl (.slice none 0 0) (.slice (some ⟨w.heap.size, 0, none⟩) 1 1) rfl rfl _ _ HR2.out ?_)
    | (at_builtin; refine wpList_append_run 63 rfl (.tmp 30) (.tmp 33) rfl rfl (.slice a2 1 c2) (.slice none 0 0) rfl rfl _ _ HR3.out ?_))
  go_ret
  exact ⟨⟨_, _, _, rfl⟩, HB.out⟩

section
variable {base : Nat} {A : Nat → Addr}
set_option maxRecDepth 100000 in
set_option maxHeartbeats 2000000 in
theorem oput_a {db : Nat} {F : Nat → Prop} {d : S.V.Dev} {W0 w : World} {ob tb : Nat} {mv : Value} (hm : ∃ q, mv = .pointer q) (hrow : B.RowAt w ob #[.int .i64 4000, .pointer (some ⟨db, 0, none⟩), mv, .pointer (some ⟨tb, 0, none⟩), .slice none 0 0, .int .i64 0, .int .u64 0] 65) (hc : Tc base A db F d W0 w tb) (ht : B.RowAt w tb #[.pointer (some ⟨db, 0, none⟩), .nilIface] 100) (ho : W0.heap.size ≤ ob ∧ ob ≠ db ∧ ob ≠ tb) :
    Calls Tryz.prog 10 #[.pointer (some ⟨ob, 0, none⟩), .string ⟨#[97]⟩, .string ⟨#[49]⟩] w fun e w' => e = .returned (.bool true) ∧ S.V.Step F F W0 w' := by
  obtain ⟨q, rfl⟩ := hm
  have HP := hide (put_none ⟨#[97]⟩ ⟨#[49]⟩ hc ht (by decide))
  have p3 := hrow.cell 3 (by simp)
  simp only [List.getElem_toArray, List.getElem_cons_zero, List.getElem_cons_succ] at p3
  have HR := hide hrow
  have HO := hide ho
  clear hrow hc ht ho
  go_enter Tryz.func10, Tryz.ntmps10
  go_wp2_with fail
  refine (fine_a w).mono ?_
  rintro e w' ⟨rfl, rfl⟩
  go_wp2_with fail
  refine HP.out.mono ?_
  rintro e w1 ⟨rfl, htc, hkp⟩
  have hrow1 : B.RowAt w1 ob #[.int .i64 4000, .pointer (some ⟨db, 0, none⟩), .pointer q, .pointer (some ⟨tb, 0, none⟩), .slice none 0 0, .int .i64 0, .int .u64 0] 65 := (hkp ob HR.out.lt HO.out.2.1 HO.out.2.2).trans HR.out
  have HR1 := hide hrow1
  have p4 := hrow1.cell 4 (by simp)
  simp only [List.getElem_toArray, List.getElem_cons_zero, List.getElem_cons_succ] at p4
  have HST := hide htc.st
  clear htc hkp hrow1 HP p3
  go_wp2_with fail
  refine (with_nil _ _ w1).mono ?_
  rintro e w2 ⟨⟨a, n, c, rfl⟩, hb2⟩
  have z4 := (HR1.out.below hb2).cell 4 (by simp)
  simp only [List.getElem_toArray, List.getElem_cons_zero, List.getElem_cons_succ] at z4
  have y4 := (HR1.out.below hb2).free 4
  have HS2 := hide (HST.out.trans (S.V.Step.of_below hb2))
  clear hb2 p4
  go_wp2
  go_ret
  refine ⟨rfl, ?_⟩
  have hs := S.Sole.set ob 4 w2 (.slice a n c)
  have h1 := HS2.out
  exact ⟨hs.os.trans h1.os, hs.tape.trans h1.tape, hs.output.trans h1.output, Nat.le_trans h1.size hs.size, fun k hk hn => (hs.block k (Nat.lt_of_lt_of_le hk h1.size) (by have := HO.out; omega)).trans (h1.block k hk hn), fun _ h => .inl h⟩
set_option maxRecDepth 100000 in
set_option maxHeartbeats 4000000 in
theorem start_any (w : World) (hE : S.Env base A w) (hG : ErrsG 13 gAll A w) (hlo : ∀ i, i < 13 → gAll i < base ∧ (A i).block < base) :
    Calls Tryz.prog 9 #[] w fun e w' => ∃ (ob db tb : Nat) (F : Nat → Prop) (d : S.V.Dev) (mv : Value), e = .returned (.tuple #[.pointer (some ⟨ob, 0, none⟩), .bool true]) ∧ (∃ q, mv = .pointer q) ∧ B.RowAt w' ob #[.int .i64 4000, .pointer (some ⟨db, 0, none⟩), mv, .pointer (some ⟨tb, 0, none⟩), .slice none 0 0, .int .i64 0, .int .u64 0] 65 ∧ Tc base A db F d w w' tb ∧ B.RowAt w' tb #[.pointer (some ⟨db, 0, none⟩), .nilIface] 100 ∧ (w.heap.size ≤ ob ∧ ob ≠ db ∧ ob ≠ tb) ∧ ∀ k, F k → w.heap.size ≤ k := by
  have HE := hide hE
  have HG := hide hG
  have HLO := hide hlo
  have HN := hide (S.V.new_any 32000 w)
  clear hE hG hlo
  go_enter Tryz.func9, Tryz.ntmps9
  go_wp2_with fail
  refine HN.out.mono ?_
  rintro e w1 ⟨db, F, rfl, hd, hb1, hF⟩
  have hv1 : Dv base A db F (S.V.newDev 32000) w1 := ⟨⟨_, Nr.refl _, hd⟩, HE.out.up hb1, HG.out.keep hb1, fun k hk => Nat.le_trans HE.out.errs.size (hF k hk), rfl, HLO.out⟩
  have hdlt := hv1.dblt
  have hFlt := hd.lt
  have q1 := below_new w1 (.cells #[.int .i64 4000, .pointer (some ⟨db, 0, none⟩), .pointer none, .pointer none, .slice none 0 0, .int .i64 0, .int .u64 0] 65)
  have x1 := B.RowAt.new w1 #[.int .i64 4000, .pointer (some ⟨db, 0, none⟩), .pointer none, .pointer none, .slice none 0 0, .int .i64 0, .int .u64 0] 65
  have HV1 := hide hv1
  have HB1 := hide hb1
  have HF := hide hF
  have HFL := hide hFlt
  have HDL := hide hdlt
  have HQ1 := hide q1
  have HX1 := hide x1
  have HFN := hide (Q.new_any 4000 (w1.alloc (.cells #[.int .i64 4000, .pointer (some ⟨db, 0, none⟩), .pointer none, .pointer none, .slice none 0 0, .int .i64 0, .int .u64 0] 65)) (by decide) (by decide))
  clear hd hb1 hF hv1 hdlt hFlt q1 x1 HN
  go_wp2_with fail
  refine HFN.out.mono ?_
  rintro e w3 ⟨mb, mg, rfl, _, _, _, hb3⟩
  have hx3 := HX1.out.below hb3
  have HX3 := hide hx3
  have HB3 := hide (Below.next HQ1.out hb3)
  have k1 := hx3.cell 1 (by simp)
  have k2 := hx3.cell 2 (by simp)
  simp only [List.getElem_toArray, List.getElem_cons_zero, List.getElem_cons_succ] at k1 k2
  have y2 := hx3.free 2
  have hx4 : B.RowAt (w3.setCell ⟨w1.heap.size, 2, none⟩ (.pointer (some ⟨mb, 0, none⟩))) w1.heap.size #[.int .i64 4000, .pointer (some ⟨db, 0, none⟩), .pointer (some ⟨mb, 0, none⟩), .pointer none, .slice none 0 0, .int .i64 0, .int .u64 0] 65 := heap_setCell_same _ _ 2 _ _ _ hx3
  have hw1 : w.heap.size ≤ w1.heap.size := HB1.out.size
  have hnf : ¬ F w1.heap.size := fun h => by have := HFL.out _ h; omega
  have hv4 : Dv base A db F (S.V.newDev 32000) (w3.setCell ⟨w1.heap.size, 2, none⟩ (.pointer (some ⟨mb, 0, none⟩))) := (HV1.out.below HB3.out).tree (Nat.le_trans HE.out.errs.size hw1) hnf 2 _
  have hb4 : Below w.heap.size w (w3.setCell ⟨w1.heap.size, 2, none⟩ (.pointer (some ⟨mb, 0, none⟩))) := (Below.next HB1.out HB3.out).setCell (p := ⟨w1.heap.size, 2, none⟩) hw1 _
  have k3 := hx4.cell 1 (by simp)
  simp only [List.getElem_toArray, List.getElem_cons_zero, List.getElem_cons_succ] at k3
  generalize hW4 : w3.setCell ⟨w1.heap.size, 2, none⟩ (.pointer (some ⟨mb, 0, none⟩)) = W4 at *
  have HTO := hide (topen_any (W0 := W4) 4000 0 (.int .u64 0) hv4 (S.V.Step.refl _ _))
  have HX4 := hide hx4
  have HB4 := hide hb4
  have HNF := hide hnf
  have HW1 := hide hw1
  clear hb3 hx3 HFN hx4 hv4 hb4 hnf hw1
  go_wp2_with fail
  refine HTO.out.mono ?_
  rintro e w5 ⟨tb, rfl, htc, htr⟩
  have hx5 : B.RowAt w5 w1.heap.size #[.int .i64 4000, .pointer (some ⟨db, 0, none⟩), .pointer (some ⟨mb, 0, none⟩), .pointer none, .slice none 0 0, .int .i64 0, .int .u64 0] 65 := (htc.st.block _ HX4.out.lt HNF.out).trans HX4.out
  have hot : w1.heap.size ≠ tb := by have := HX4.out.lt; have := htc.lo.2.1; omega
  have hx6 : B.RowAt (w5.setCell ⟨w1.heap.size, 3, none⟩ (.pointer (some ⟨tb, 0, none⟩))) w1.heap.size #[.int .i64 4000, .pointer (some ⟨db, 0, none⟩), .pointer (some ⟨mb, 0, none⟩), .pointer (some ⟨tb, 0, none⟩), .slice none 0 0, .int .i64 0, .int .u64 0] 65 := heap_setCell_same _ _ 3 _ _ _ hx5
  have htr6 : B.RowAt (w5.setCell ⟨w1.heap.size, 3, none⟩ (.pointer (some ⟨tb, 0, none⟩))) tb #[.pointer (some ⟨db, 0, none⟩), .nilIface] 100 := (htr (by first | trivial | rfl)).other hot.symm _
  have htc6 : Tc base A db F (S.V.newDev 32000) w (w5.setCell ⟨w1.heap.size, 3, none⟩ (.pointer (some ⟨tb, 0, none⟩))) tb := by
    have hs := S.Sole.set w1.heap.size 3 w5 (.pointer (some ⟨tb, 0, none⟩))
    have h1 : S.V.Step F F w w5 := (S.V.Step.of_below HB4.out).trans htc.st
    refine ⟨htc.dv.tree (Nat.le_trans HE.out.errs.size HW1.out) HNF.out 3 _, ⟨_, htr6, .inl rfl⟩, ⟨hs.os.trans h1.os, hs.tape.trans h1.tape, hs.output.trans h1.output, Nat.le_trans h1.size hs.size, fun k hk hn => (hs.block k (Nat.lt_of_lt_of_le hk h1.size) (by have := HW1.out; omega)).trans (h1.block k hk hn), fun _ h => .inl h⟩, htc.lo.1, Nat.le_trans HB4.out.size htc.lo.2.1, htc.lo.2.2⟩
  have m3 := hx5.cell 3 (by simp)
  have f3 := hx5.free 3
  have n3 := hx6.cell 3 (by simp)
  simp only [List.getElem_toArray, List.getElem_cons_zero, List.getElem_cons_succ] at m3 n3
  have HRES : Hid (∀ k, (∃ q, (Value.pointer (some ⟨mb, 0, none⟩)) = .pointer q) ∧ B.RowAt ((w5.setCell ⟨w1.heap.size, 3, none⟩ (.pointer (some ⟨tb, 0, none⟩))).drewN k) w1.heap.size #[.int .i64 4000, .pointer (some ⟨db, 0, none⟩), .pointer (some ⟨mb, 0, none⟩), .pointer (some ⟨tb, 0, none⟩), .slice none 0 0, .int .i64 0, .int .u64 0] 65 ∧ Tc base A db F (S.V.newDev 32000) w ((w5.setCell ⟨w1.heap.size, 3, none⟩ (.pointer (some ⟨tb, 0, none⟩))).drewN k) tb ∧ B.RowAt ((w5.setCell ⟨w1.heap.size, 3, none⟩ (.pointer (some ⟨tb, 0, none⟩))).drewN k) tb #[.pointer (some ⟨db, 0, none⟩), .nilIface] 100 ∧ (w.heap.size ≤ w1.heap.size ∧ w1.heap.size ≠ db ∧ w1.heap.size ≠ tb) ∧ ∀ k, F k → w.heap.size ≤ k) := fun k => by
    have hd := below_drewN' (Below.refl (w5.setCell ⟨w1.heap.size, 3, none⟩ (.pointer (some ⟨tb, 0, none⟩))).heap.size (w5.setCell ⟨w1.heap.size, 3, none⟩ (.pointer (some ⟨tb, 0, none⟩)))) k
    exact ⟨⟨_, rfl⟩, hx6.below hd, htc6.below hd, htr6.below hd, ⟨HW1.out, by have := HDL.out; omega, hot⟩, HF.out⟩
  clear htc htr hx5 hot hx6 htr6 htc6 HTO k1 k2 k3 y2
  go_wp2_with fail
  go_quiet (fail)
  go_wp2
  go_ret2
  exact ⟨_, _, _, F, S.V.newDev 32000, _, rfl, HRES.out _⟩
end

end Go.Proofs.YtnaedmmfiiebaaaGreatDoor.T
