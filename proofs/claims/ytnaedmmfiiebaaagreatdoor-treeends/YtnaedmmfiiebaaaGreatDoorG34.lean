import Derived.Test.YtnaedmmfiiebaaaGreatDoorG33
import Derived.Test.YtnaedmmfiiebaaaGreatDoorG06
import Derived.Test.YtnaedmmfiiebaaaGreatDoorG01
namespace Go.Proofs.YtnaedmmfiiebaaaGreatDoor.T
open Go.RowKit

/-- What a read of a page answers. -/
def LoadR (A : Nat → Addr) (P : Option PD) (e : Ending) (w' : World) : Prop :=
  (P = none ∧ e = .returned (.tuple #[.pointer none, .iface 360 (.pointer (some (A 8)))])) ∨
  (∃ p b pv lv cv, P = some p ∧ e = .returned (.tuple #[.pointer (some ⟨b, 0, none⟩), .nilIface]) ∧ SNR w' b p.sn pv lv cv)
theorem LoadR.form {A : Nat → Addr} {P : Option PD} {e : Ending} {w' : World} (h : LoadR A P e w') : ∃ p v, e = .returned (.tuple #[.pointer p, v]) ∧ LoadR A P (.returned (.tuple #[.pointer p, v])) w' ∧ (v = .nilIface ∨ v = .iface 360 (.pointer (some (A 8)))) := by
  rcases h with ⟨h1, rfl⟩ | ⟨p, b, pv, lv, cv, h1, rfl, h2⟩
  · exact ⟨_, _, rfl, .inl ⟨h1, rfl⟩, .inr rfl⟩
  · exact ⟨_, _, rfl, .inr ⟨p, b, pv, lv, cv, h1, rfl, h2⟩, .inl rfl⟩

set_option maxRecDepth 20000 in
set_option maxHeartbeats 2000000 in
theorem nload_gen (base : Nat) (A : Nat → Addr) (db : Nat) (F : Nat → Prop) (d : S.V.Dev) (id : Int) (w : World) (hv : Dv base A db F d w) :
    Calls Tryz.prog 135 #[.pointer (some ⟨db, 0, none⟩), .int .i64 id] w fun e w' => LoadR A (PGof d id) e w' ∧ Dv base A db F d w' ∧ Mv db F w w' := by
  obtain ⟨d0, hn0, hd⟩ := hv.dev
  have hdd0 : d0.dead = false := by obtain ⟨n, rfl⟩ := hn0; exact hv.alive
  have hpg : PGof d0 = PGof d := by obtain ⟨n, rfl⟩ := hn0; rfl
  rw [← hpg]
  obtain ⟨hnr, hcs⟩ := loadR_cases d0 id hdd0
  have HLD := hide (S.loadG_any base A db F d0 id w hd hv.env hv.up)
  generalize S.loadR d0 id = R at *
  obtain ⟨Rd, s, c⟩ := R
  simp only at hnr hcs HLD
  have HPOST : Hid (∀ w1, S.V.DevAt w1 db F Rd → S.V.Step F F w w1 → One db w w1 → Dv base A db F d w1 ∧ Mv db F w w1) := fun w1 h1 h2 h3 =>
    ⟨⟨⟨Rd, hn0.trans hnr, h1⟩, hv.env.step h2 hv.up, errs_one h3 hd h1 hv.errs, hv.up, hv.alive, hv.lo⟩, ⟨h2, h3⟩⟩
  obtain ⟨kd, sid, tx, cn, bd⟩ := s
  simp only [S.Sh.cells] at HLD
  rcases hcs with ⟨rfl, hsh⟩ | ⟨hc12, hno⟩
  · have hkd : kd = 66 ∨ kd = 76 := hsh.1.1
    have hc0 : (0 : Int) ≤ cn := hsh.1.2.1.1
    have hnn := fun W => eql_nil_err (some (A 7)) W
    have HSH := hide hsh
    have HC0 := hide hc0
    have e0 : S.V.errV A 0 = .nilIface := rfl
    rw [e0] at HLD
    clear hv hd hdd0 hn0 hpg hnr hsh hc0 e0
    rcases hkd with rfl | rfl
    · by_cases hdec : B.DecB cn.toNat bd.data.toList
      · have HPG := hide (pgof_eq HSH.out (.inr ⟨rfl, hdec, rfl⟩))
        have HDEC := hide hdec
        clear hdec
        go_enter Tryz.func135, Tryz.ntmps135
        go_wp2_with fail
        refine HLD.out.mono ?_
        rintro e w1 ⟨rfl, hd1, hs1, ho1⟩
        obtain ⟨hv1, hm1⟩ := HPOST.out w1 hd1 hs1 ho1
        have q2 := below_new w1 (.cells #[.int .i64 66, .int .i64 sid, .int .u64 (tx : Int), .int .i64 cn, .string bd] 87)
        have x2 := B.RowAt.new w1 #[.int .i64 66, .int .i64 sid, .int .u64 (tx : Int), .int .i64 cn, .string bd] 87
        have g7' : (w1.alloc (.cells #[.int .i64 66, .int .i64 sid, .int .u64 (tx : Int), .int .i64 cn, .string bd] 87)).cell? ⟨7, 0, none⟩ = some (.iface 360 (.pointer (some (A 7)))) := (hv1.below q2).g 7 (by decide)
        have k0 := x2.cell 0 (by simp)
        have k1 := x2.cell 1 (by simp)
        have k2 := x2.cell 2 (by simp)
        have k3 := x2.cell 3 (by simp)
        have k4 := x2.cell 4 (by simp)
        simp only [List.getElem_toArray, List.getElem_cons_zero, List.getElem_cons_succ] at k0 k1 k2 k3 k4
        have HLL := hide (loadb_ok A (.int .i64 66) (.int .i64 sid) (.int .u64 (tx : Int)) (.int .i64 cn) cn bd rfl (w1.alloc (.cells #[.int .i64 66, .int .i64 sid, .int .u64 (tx : Int), .int .i64 cn, .string bd] 87)) HC0.out HDEC.out (hv1.below q2).errK)
        have HQ2 := hide q2
        have HV1 := hide hv1
        have HM1 := hide hm1
        clear HLD hd1 hs1 ho1 q2 x2 hv1 hm1 HPOST
        go_wp2_with fail
        refine HLL.out.mono ?_
        rintro e w3 ⟨b, pv, lv, cv, rfl, hsn, hb3⟩
        have hball := Below.next HQ2.out hb3
        have HRES : Hid (LoadR A (PGof d0 id) (.returned (.tuple #[.pointer (some ⟨b, 0, none⟩), .nilIface])) w3 ∧ Dv base A db F d w3 ∧ Mv db F w w3) := ⟨.inr ⟨_, b, pv, lv, cv, HPG.out, rfl, hsn⟩, HV1.out.below hball, HM1.out.trans (Mv.of hball)⟩
        clear hsn hb3 hball k0 k1 k2 k3 k4 g7' HLL
        go_wp2
        go_ret2
        exact HRES.out
      · have HPG : Hid (PGof d0 id = none) := pgof_no fun s p h1 h2 => by
          rw [sheet_one h1 HSH.out] at h2
          rcases h2 with ⟨h, _⟩ | ⟨_, h, _⟩
          · exact absurd (show (66 : Int) = 76 from h) (by decide)
          · exact hdec h
        have HDEC := hide hdec
        clear hdec
        go_enter Tryz.func135, Tryz.ntmps135
        go_wp2_with fail
        refine HLD.out.mono ?_
        rintro e w1 ⟨rfl, hd1, hs1, ho1⟩
        obtain ⟨hv1, hm1⟩ := HPOST.out w1 hd1 hs1 ho1
        have q2 := below_new w1 (.cells #[.int .i64 66, .int .i64 sid, .int .u64 (tx : Int), .int .i64 cn, .string bd] 87)
        have x2 := B.RowAt.new w1 #[.int .i64 66, .int .i64 sid, .int .u64 (tx : Int), .int .i64 cn, .string bd] 87
        have g7' : (w1.alloc (.cells #[.int .i64 66, .int .i64 sid, .int .u64 (tx : Int), .int .i64 cn, .string bd] 87)).cell? ⟨7, 0, none⟩ = some (.iface 360 (.pointer (some (A 7)))) := (hv1.below q2).g 7 (by decide)
        have k0 := x2.cell 0 (by simp)
        have k1 := x2.cell 1 (by simp)
        have k2 := x2.cell 2 (by simp)
        have k3 := x2.cell 3 (by simp)
        have k4 := x2.cell 4 (by simp)
        simp only [List.getElem_toArray, List.getElem_cons_zero, List.getElem_cons_succ] at k0 k1 k2 k3 k4
        have HLL := hide (loadb_err A (.int .i64 66) (.int .i64 sid) (.int .u64 (tx : Int)) (.int .i64 cn) cn bd rfl (w1.alloc (.cells #[.int .i64 66, .int .i64 sid, .int .u64 (tx : Int), .int .i64 cn, .string bd] 87)) (fun h => HDEC.out h.2) (hv1.below q2).errs)
        have HQ2 := hide q2
        have HV1 := hide hv1
        have HM1 := hide hm1
        clear HLD hd1 hs1 ho1 q2 x2 hv1 hm1 HPOST
        go_wp2_with fail
        refine HLL.out.mono ?_
        rintro e w3 ⟨rfl, hb3⟩
        have hball := Below.next HQ2.out hb3
        have HRES : Hid (LoadR A (PGof d0 id) (.returned (.tuple #[.pointer none, .iface 360 (.pointer (some (A 8)))])) w3 ∧ Dv base A db F d w3 ∧ Mv db F w w3) := ⟨.inl ⟨HPG.out, rfl⟩, HV1.out.below hball, HM1.out.trans (Mv.of hball)⟩
        clear hb3 hball k0 k1 k2 k3 k4 g7' HLL
        go_wp2
        go_ret2
        exact HRES.out
    · by_cases hdec : DecOk cn.toNat bd.data.toList
      · have HPG := hide (pgof_eq HSH.out (.inl ⟨rfl, hdec, rfl⟩))
        have HDEC := hide hdec
        clear hdec
        go_enter Tryz.func135, Tryz.ntmps135
        go_wp2_with fail
        refine HLD.out.mono ?_
        rintro e w1 ⟨rfl, hd1, hs1, ho1⟩
        obtain ⟨hv1, hm1⟩ := HPOST.out w1 hd1 hs1 ho1
        have q2 := below_new w1 (.cells #[.int .i64 76, .int .i64 sid, .int .u64 (tx : Int), .int .i64 cn, .string bd] 87)
        have x2 := B.RowAt.new w1 #[.int .i64 76, .int .i64 sid, .int .u64 (tx : Int), .int .i64 cn, .string bd] 87
        have g7' : (w1.alloc (.cells #[.int .i64 76, .int .i64 sid, .int .u64 (tx : Int), .int .i64 cn, .string bd] 87)).cell? ⟨7, 0, none⟩ = some (.iface 360 (.pointer (some (A 7)))) := (hv1.below q2).g 7 (by decide)
        have k0 := x2.cell 0 (by simp)
        have k1 := x2.cell 1 (by simp)
        have k2 := x2.cell 2 (by simp)
        have k3 := x2.cell 3 (by simp)
        have k4 := x2.cell 4 (by simp)
        simp only [List.getElem_toArray, List.getElem_cons_zero, List.getElem_cons_succ] at k0 k1 k2 k3 k4
        have HLL := hide (loadl_ok A (.int .i64 76) (.int .i64 sid) (.int .u64 (tx : Int)) (.int .i64 cn) cn bd rfl (w1.alloc (.cells #[.int .i64 76, .int .i64 sid, .int .u64 (tx : Int), .int .i64 cn, .string bd] 87)) HC0.out HDEC.out (hv1.below q2).errC)
        have HQ2 := hide q2
        have HV1 := hide hv1
        have HM1 := hide hm1
        clear HLD hd1 hs1 ho1 q2 x2 hv1 hm1 HPOST
        go_wp2_with fail
        refine HLL.out.mono ?_
        rintro e w3 ⟨b, pv, lv, cv, rfl, hsn, hb3⟩
        have hball := Below.next HQ2.out hb3
        have HRES : Hid (LoadR A (PGof d0 id) (.returned (.tuple #[.pointer (some ⟨b, 0, none⟩), .nilIface])) w3 ∧ Dv base A db F d w3 ∧ Mv db F w w3) := ⟨.inr ⟨_, b, pv, lv, cv, HPG.out, rfl, hsn⟩, HV1.out.below hball, HM1.out.trans (Mv.of hball)⟩
        clear hsn hb3 hball k0 k1 k2 k3 k4 g7' HLL
        go_wp2
        go_ret2
        exact HRES.out
      · have HPG : Hid (PGof d0 id = none) := pgof_no fun s p h1 h2 => by
          rw [sheet_one h1 HSH.out] at h2
          rcases h2 with ⟨_, h, _⟩ | ⟨h, _⟩
          · exact hdec h
          · exact absurd (show (76 : Int) = 66 from h) (by decide)
        have HDEC := hide hdec
        clear hdec
        go_enter Tryz.func135, Tryz.ntmps135
        go_wp2_with fail
        refine HLD.out.mono ?_
        rintro e w1 ⟨rfl, hd1, hs1, ho1⟩
        obtain ⟨hv1, hm1⟩ := HPOST.out w1 hd1 hs1 ho1
        have q2 := below_new w1 (.cells #[.int .i64 76, .int .i64 sid, .int .u64 (tx : Int), .int .i64 cn, .string bd] 87)
        have x2 := B.RowAt.new w1 #[.int .i64 76, .int .i64 sid, .int .u64 (tx : Int), .int .i64 cn, .string bd] 87
        have g7' : (w1.alloc (.cells #[.int .i64 76, .int .i64 sid, .int .u64 (tx : Int), .int .i64 cn, .string bd] 87)).cell? ⟨7, 0, none⟩ = some (.iface 360 (.pointer (some (A 7)))) := (hv1.below q2).g 7 (by decide)
        have k0 := x2.cell 0 (by simp)
        have k1 := x2.cell 1 (by simp)
        have k2 := x2.cell 2 (by simp)
        have k3 := x2.cell 3 (by simp)
        have k4 := x2.cell 4 (by simp)
        simp only [List.getElem_toArray, List.getElem_cons_zero, List.getElem_cons_succ] at k0 k1 k2 k3 k4
        have HLL := hide (loadl_err A (.int .i64 76) (.int .i64 sid) (.int .u64 (tx : Int)) (.int .i64 cn) cn bd rfl (w1.alloc (.cells #[.int .i64 76, .int .i64 sid, .int .u64 (tx : Int), .int .i64 cn, .string bd] 87)) (fun h => HDEC.out h.2) (hv1.below q2).errs)
        have HQ2 := hide q2
        have HV1 := hide hv1
        have HM1 := hide hm1
        clear HLD hd1 hs1 ho1 q2 x2 hv1 hm1 HPOST
        go_wp2_with fail
        refine HLL.out.mono ?_
        rintro e w3 ⟨rfl, hb3⟩
        have hball := Below.next HQ2.out hb3
        have HRES : Hid (LoadR A (PGof d0 id) (.returned (.tuple #[.pointer none, .iface 360 (.pointer (some (A 8)))])) w3 ∧ Dv base A db F d w3 ∧ Mv db F w w3) := ⟨.inl ⟨HPG.out, rfl⟩, HV1.out.below hball, HM1.out.trans (Mv.of hball)⟩
        clear hb3 hball k0 k1 k2 k3 k4 g7' HLL
        go_wp2
        go_ret2
        exact HRES.out
  · have HPG : Hid (PGof d0 id = none) := pgof_no fun s p h1 _ => hno s h1
    obtain ⟨j, hj, hec⟩ : ∃ j, j < 2 ∧ S.V.errV A c = .iface 360 (.pointer (some (A j))) := by
      rcases hc12 with rfl | rfl
      · exact ⟨0, by decide, rfl⟩
      · exact ⟨1, by decide, rfl⟩
    rw [hec] at HLD
    clear hv hd hdd0 hn0 hpg hnr hno hc12 hec
    go_enter Tryz.func135, Tryz.ntmps135
    go_wp2_with fail
    refine HLD.out.mono ?_
    rintro e w1 ⟨rfl, hd1, hs1, ho1⟩
    obtain ⟨hv1, hm1⟩ := HPOST.out w1 hd1 hs1 ho1
    have q2 := below_new w1 (.cells #[.int .i64 kd, .int .i64 sid, .int .u64 (tx : Int), .int .i64 cn, .string bd] 87)
    have g7' : (w1.alloc (.cells #[.int .i64 kd, .int .i64 sid, .int .u64 (tx : Int), .int .i64 cn, .string bd] 87)).cell? ⟨7, 0, none⟩ = some (.iface 360 (.pointer (some (A 7)))) := (hv1.below q2).g 7 (by decide)
    have g8' : (w1.alloc (.cells #[.int .i64 kd, .int .i64 sid, .int .u64 (tx : Int), .int .i64 cn, .string bd] 87)).cell? ⟨8, 0, none⟩ = some (.iface 360 (.pointer (some (A 8)))) := (hv1.below q2).g 8 (by decide)
    have hne := eq_other A j 7 _ (hv1.below q2).errs (by omega) (by decide) (by omega)
    have HQ2 := hide q2
    have HRES : Hid (LoadR A (PGof d0 id) (.returned (.tuple #[.pointer none, .iface 360 (.pointer (some (A 8)))])) (w1.alloc (.cells #[.int .i64 kd, .int .i64 sid, .int .u64 (tx : Int), .int .i64 cn, .string bd] 87)) ∧ Dv base A db F d (w1.alloc (.cells #[.int .i64 kd, .int .i64 sid, .int .u64 (tx : Int), .int .i64 cn, .string bd] 87)) ∧ Mv db F w (w1.alloc (.cells #[.int .i64 kd, .int .i64 sid, .int .u64 (tx : Int), .int .i64 cn, .string bd] 87))) := ⟨.inl ⟨HPG.out, rfl⟩, hv1.below q2, hm1.trans (Mv.of q2)⟩
    clear HLD hd1 hs1 ho1 q2 hv1 hm1 HPOST
    go_wp2_with fail
    go_quiet (fail)
    go_wp2
    go_ret2
    exact ⟨.inl ⟨HPG.out, rfl⟩, HRES.out.2.1.below (below_drewN' (Below.refl _ _) _), HRES.out.2.2.trans (Mv.of (below_drewN' (Below.refl _ _) _))⟩


end Go.Proofs.YtnaedmmfiiebaaaGreatDoor.T

namespace Go.Proofs.YtnaedmmfiiebaaaGreatDoor.W
open Go.RowKit

/-- A step of a way: the block of its node, the number of the child. -/
abbrev Lk := Nat × Int

/-- The cells of steps. -/
def lks (l : List Lk) : List Value := l.flatMap fun p => [Value.pointer (some ⟨p.1, 0, none⟩), .int .i64 p.2]
theorem lks_cons (p : Lk) (l : List Lk) : lks (p :: l) = .pointer (some ⟨p.1, 0, none⟩) :: .int .i64 p.2 :: lks l := by simp [lks]
theorem lks_append (a b : List Lk) : lks (a ++ b) = lks a ++ lks b := by simp [lks]
theorem lks_length (l : List Lk) : (lks l).length = l.length * 2 := by
  induction l with
  | nil => rfl
  | cons p l ih => rw [lks_cons]; simp [ih]; omega
theorem lks_get (l : List Lk) : ∀ j (h : j < l.length), (lks l)[j * 2]? = some (.pointer (some ⟨l[j].1, 0, none⟩)) ∧ (lks l)[j * 2 + 1]? = some (.int .i64 l[j].2) := by
  induction l with
  | nil => intro j h; simp at h
  | cons p l ih =>
    intro j h
    rw [lks_cons]
    cases j with
    | zero => exact ⟨rfl, rfl⟩
    | succ j =>
      have := ih j (by simpa using h)
      rw [show (j + 1) * 2 = j * 2 + 1 + 1 by omega]
      simpa using this
theorem lks_one (l : List Lk) : ∀ u ∈ lks l, u.oneCell' = true := by
  intro u hu
  simp only [lks, List.mem_flatMap] at hu
  obtain ⟨p, _, h⟩ := hu
  simp at h
  rcases h with rfl | rfl <;> rfl
theorem infoK : (Tryz.prog.info? 159).map (fun i => (i.zero, i.size, i.bytes)) = some (some (.agg #[.pointer none, .int .i64 0]), 2, 16) := by kernel_rfl

/-- The slice value v reads as the steps l. -/
def LkR (w : World) (v : Value) (l : List Lk) : Prop := ∃ a cap, v = .slice a l.length cap ∧ l.length ≤ cap ∧ (a = none → cap = 0) ∧
  ∀ j (h : j < l.length), ∃ g o, a = some ⟨g, o, none⟩ ∧ w.cell? ⟨g, o + j * 2, none⟩ = some (.pointer (some ⟨l[j].1, 0, none⟩)) ∧ w.cell? ⟨g, o + j * 2 + 1, none⟩ = some (.int .i64 l[j].2)
theorem LkR.below {w w' : World} {v : Value} {l : List Lk} (h : LkR w v l) (hb : Below w.heap.size w w') : LkR w' v l := by
  obtain ⟨a, cap, rfl, hle, hn, hc⟩ := h
  refine ⟨a, cap, rfl, hle, hn, fun j hj => ?_⟩
  obtain ⟨g, o, ha, h1, h2⟩ := hc j hj
  exact ⟨g, o, ha, (hb.cell (p := ⟨g, o + j * 2, none⟩) (World.block_lt_of_cell? w _ h1)).trans h1, (hb.cell (p := ⟨g, o + j * 2 + 1, none⟩) (World.block_lt_of_cell? w _ h2)).trans h2⟩
theorem LkR.form {w : World} {v : Value} {l : List Lk} (h : LkR w v l) : ∃ a c, v = .slice a l.length c := by
  obtain ⟨a, c, rfl, _⟩ := h; exact ⟨a, c, rfl⟩
theorem LkR.of_owns {w : World} {base n : Nat} {v : Value} {l : List Lk} (h : w.ownsRow base 159 2 v n (lks l)) : LkR w v l := by
  have hl := h.1
  rw [lks_length] at hl
  have hl : l.length = n := by omega
  rcases h.2 with ⟨rfl, hn⟩ | ⟨g, cap, cur, rfl, hb, hg, hnc, hcm, hcs, htk⟩
  · have h0 : l.length = 0 := by omega
    exact ⟨none, 0, by rw [h0], by omega, fun _ => rfl, fun j hj => by omega⟩
  · refine ⟨some ⟨g, 0, none⟩, cap, by rw [hl], by omega, fun h => (by cases h), fun j hj => ⟨g, 0, rfl, ?_, ?_⟩⟩
    · rw [Nat.zero_add, h.cellAt (j * 2) (by omega)]; exact (lks_get l j hj).1
    · rw [Nat.zero_add, h.cellAt (j * 2 + 1) (by omega)]; exact (lks_get l j hj).2
theorem LkR.take {w : World} {a : Option Addr} {n m cap : Nat} {l : List Lk} (h : LkR w (.slice a n cap) l) (hm : m ≤ n) : LkR w (.slice a m cap) (l.take m) := by
  obtain ⟨a', cap', he, hle, hn, hc⟩ := h
  cases he
  refine ⟨a, cap, by rw [List.length_take, Nat.min_eq_left hm], by rw [List.length_take]; omega, hn, fun j hj => ?_⟩
  rw [List.length_take] at hj
  obtain ⟨g, o, ha, h1, h2⟩ := hc j (by omega)
  exact ⟨g, o, ha, by rw [List.getElem_take]; exact h1, by rw [List.getElem_take]; exact h2⟩
theorem LkR.nil (w : World) : LkR w (.slice none 0 0) [] := ⟨none, 0, rfl, Nat.le_refl _, fun _ => rfl, fun j h => by simp at h⟩


/-- A list of the call's own that reads as these steps. -/
def LkO (w : World) (base : Nat) (v : Value) (l : List Lk) : Prop := w.ownsRow base 159 2 v l.length (lks l)
theorem LkO.at {w : World} {base : Nat} {v : Value} {l : List Lk} (h : LkO w base v l) : LkR w v l := LkR.of_owns h
theorem LkO.form {w : World} {base : Nat} {v : Value} {l : List Lk} (h : LkO w base v l) : ∃ a c, v = .slice a l.length c := h.at.form
theorem LkO.below {w w' : World} {base : Nat} {v : Value} {l : List Lk} (h : LkO w base v l) (hb : Below w.heap.size w w') : LkO w' base v l := by
  refine ⟨h.1, ?_⟩
  rcases h.2 with h' | ⟨g, cap, cur, h', h1, h2, hr⟩
  · exact .inl h'
  · refine .inr ⟨g, cap, cur, h', h1, ?_, hr⟩
    have hg : g < w.heap.size := by
      rcases Nat.lt_or_ge g w.heap.size with h' | h'
      · exact h'
      · rw [Array.getElem?_eq_none h'] at h2; cases h2
    rw [hb.block g hg]; exact h2
theorem LkO.mono {w : World} {b b2 : Nat} {v : Value} {l : List Lk} (h : LkO w b v l) (hb : b2 ≤ b) : LkO w b2 v l := by
  refine ⟨h.1, ?_⟩
  rcases h.2 with h' | ⟨g, cap, cur, h', h1, hr⟩
  · exact .inl h'
  · exact .inr ⟨g, cap, cur, h', Nat.le_trans hb h1, hr⟩
theorem LkO.nil (w : World) (base : Nat) : LkO w base (.slice none 0 0) [] := World.ownsRow_nil _ _ _ _

/-- append(v, s...) of steps. -/
theorem append_lks (base : Nat) (v s : Value) (xs us : List Lk) (w : World) (hown : LkO w base v xs) (hs : LkR w s us) (hb : (xs.length + us.length) * 16 ≤ 140737488355328) (hbase : base ≤ w.heap.size) :
    ∃ a' cap' w', (Builtin.append_ #[101, 101] 101 #[v, s]).run Tryz.prog w = .ok (.slice a' (xs.length + us.length) cap') w' ∧ LkO w' base (.slice a' (xs.length + us.length) cap') (xs ++ us) ∧ w.grownBy w' v.ownBlock := by
  obtain ⟨i0, hi, hz, hsz, hby⟩ := info_parts infoK
  obtain ⟨a, cap, rfl, hle, hnil, hc⟩ := hs
  have hf0 : ∃ a' c', v = .slice a' xs.length c' := hown.form
  unfold LkO at hown ⊢
  rw [List.length_append, lks_append]
  cases a with
  | none =>
    have h0 : us = [] := by
      cases us with
      | nil => rfl
      | cons u r => obtain ⟨g, o, he, _⟩ := hc 0 (by simp); cases he
    subst h0
    rw [hnil rfl]
    have hr := run_append_owned_none (P := Tryz.prog) w base 101 101 159 i0 2 Tryz.underlying101 hi v xs.length (lks xs) hown
    obtain ⟨a', c', rfl⟩ := hf0
    exact ⟨a', c', w, hr, by simpa [lks] using hown, ⟨rfl, rfl, rfl, Nat.le_refl _, fun _ _ _ => rfl⟩⟩
  | some ad =>
    obtain ⟨v', w', hr, hown', hgr, _⟩ := run_append_own (P := Tryz.prog) w base 101 101 159 i0 _ 2 16 Tryz.underlying101 hi hz hsz hby rfl (by decide) v xs.length (lks xs) hown ad us.length cap (lks us) (lks_length us) (fun j u hj => by
      have hj' := (List.getElem?_eq_some_iff.1 hj).1
      rw [lks_length] at hj'
      obtain ⟨g, o, he, c1, c2⟩ := hc (j / 2) (by omega)
      cases he
      have hg := lks_get us (j / 2) (by omega)
      rw [add_plain']
      rcases Nat.mod_two_eq_zero_or_one j with hm | hm
      · have e : j / 2 * 2 = j := by omega
        rw [e] at hg c1
        rw [hg.1] at hj; cases hj; exact c1
      · have e : j / 2 * 2 + 1 = j := by omega
        rw [Nat.add_assoc, e] at c2
        rw [e] at hg
        rw [hg.2] at hj; cases hj; exact c2) (lks_one us) (by unfold maxLen; omega) hb hbase
    have hf : ∃ a' c', v' = .slice a' (xs.length + us.length) c' := by
      rcases hown'.2 with ⟨rfl, h0⟩ | ⟨g, cap, cur, rfl, _⟩
      · exact ⟨none, 0, by rw [h0]⟩
      · exact ⟨_, _, rfl⟩
    obtain ⟨a', c', rfl⟩ := hf
    exact ⟨a', c', w', hr, hown', hgr⟩

theorem LkO.blk {w : World} {base : Nat} {v : Value} {l : List Lk} (h : LkO w base v l) : ∀ k, v.ownBlock = some k → base ≤ k ∧ k < w.heap.size := World.ownsRow.lt h
theorem lkR_lit (w : World) (p : Lk) (t : TypeId) : LkR (w.alloc (.cells #[Value.pointer (some ⟨p.1, 0, none⟩), .int .i64 p.2] t)) (.slice (some ⟨w.heap.size, 0, none⟩) 1 1) [p] := by
  have hb := boxed_new w #[Value.pointer (some ⟨p.1, 0, none⟩), .int .i64 p.2] t
  refine ⟨_, _, rfl, Nat.le_refl _, fun h => (by cases h), fun j hj => ⟨_, _, rfl, ?_, ?_⟩⟩
  · have : j = 0 := by simpa using hj
    subst this
    exact hb.2 0 (by simp)
  · have : j = 0 := by simpa using hj
    subst this
    exact hb.2 1 (by simp)
theorem LkR.cap {w : World} {a : Option Addr} {n c : Nat} {l : List Lk} (h : LkR w (.slice a n c) l) : l.length ≤ c := by
  obtain ⟨_, _, he, h, _⟩ := h; cases he; exact h
theorem LkO.under {w w' : World} {B base : Nat} {v : Value} {l : List Lk} (h : LkO w base v l) (hv : ∀ k, v.ownBlock = some k → k < B) (hb : Below B w w') : LkO w' base v l := by
  refine ⟨h.1, ?_⟩
  rcases h.2 with h' | ⟨g, cap, cur, h', h1, h2, hr⟩
  · exact .inl h'
  · refine .inr ⟨g, cap, cur, h', h1, ?_, hr⟩
    rw [hb.block g (hv g (by rw [h']; rfl))]; exact h2
theorem LkO.has {w : World} {base : Nat} {v : Value} {l : List Lk} (h : LkO w base v l) (hl : 0 < l.length) : ∃ g c, v = .slice (some ⟨g, 0, none⟩) l.length c ∧ base ≤ g ∧ g < w.heap.size ∧ l.length ≤ c := by
  rcases h.2 with ⟨_, h0⟩ | ⟨g, cap, cur, rfl, h1, h2, h3, _⟩
  · omega
  · exact ⟨g, cap, rfl, h1, (h.blk g rfl).2, h3⟩

theorem LkR.spot {w : World} {a : Option Addr} {n c : Nat} {l : List Lk} (h : LkR w (.slice a n c) l) (j : Nat) (hj : j < l.length) :
    ∃ g o, a = .some ⟨g, o, none⟩ ∧ w.cell? ⟨g, o + j * 2, none⟩ = .some (.pointer (some ⟨l[j].1, 0, none⟩)) ∧ w.cell? ⟨g, o + j * 2 + 1, none⟩ = .some (.int .i64 l[j].2) := by
  obtain ⟨a', c', he, _, _, hc⟩ := h
  cases he
  exact hc j hj

end Go.Proofs.YtnaedmmfiiebaaaGreatDoor.W
