import Derived.Test.YtnaedmmfiiebaaaGreatDoorG46
import Derived.Test.YtnaedmmfiiebaaaGreatDoorRows
import Derived.ProofKit
import Derived.LaidMore
import Derived.LaidSub
import Derived.Lay
import Derived.OpenShut
import Derived.Stop.Joined
import Derived.Lib.LaidTab
import Derived.Lib.SmallJoins
import Derived.SizedLaws
import Derived.ChangeMaps5
import Derived.Deep.Slices
namespace Go.Proofs.YtnaedmmfiiebaaaGreatDoor.T
open Go.RowKit

/-- A step of a script. -/
structure LS where
  kind : Int
  at' : Int
  n : Int
  key : ByteArray
  value : ByteArray
  to' : ByteArray
/-- The slice value v reads as these steps. -/
def StpR (w : World) (v : Value) (l : List LS) : Prop := ∃ a c, v = .slice a l.length c ∧ ∀ j (h : j < l.length), ∃ g o, a = some ⟨g, o, none⟩ ∧ w.cell? ⟨g, o + j * 6, none⟩ = some (.int .i64 l[j].kind) ∧ w.cell? ⟨g, o + j * 6 + 1, none⟩ = some (.int .i64 l[j].at') ∧ w.cell? ⟨g, o + j * 6 + 2, none⟩ = some (.int .i64 l[j].n) ∧ w.cell? ⟨g, o + j * 6 + 3, none⟩ = some (.string l[j].key) ∧ w.cell? ⟨g, o + j * 6 + 4, none⟩ = some (.string l[j].value) ∧ w.cell? ⟨g, o + j * 6 + 5, none⟩ = some (.string l[j].to')
theorem StpR.below {w w' : World} {v : Value} {l : List LS} (h : StpR w v l) (hb : Below w.heap.size w w') : StpR w' v l := by
  obtain ⟨a, c, hv, hc⟩ := h
  refine ⟨a, c, hv, fun j hj => ?_⟩
  obtain ⟨g, o, ha, h0, h1, h2, h3, h4, h5⟩ := hc j hj
  have f : ∀ {m : Nat} {u : Value}, w.cell? ⟨g, m, none⟩ = some u → w'.cell? ⟨g, m, none⟩ = some u := fun {m u} hu => (hb.cell (p := ⟨g, m, none⟩) (World.block_lt_of_cell? w _ hu)).trans hu
  exact ⟨g, o, ha, f h0, f h1, f h2, f h3, f h4, f h5⟩
theorem secR_below {w w' : World} {v : Value} {l : List S.V.Sec} (h : S.V.SecR w v l) (hb : Below w.heap.size w w') : S.V.SecR w' v l := by
  obtain ⟨a, c, hv, hc⟩ := h
  refine ⟨a, c, hv, fun j hj => ?_⟩
  obtain ⟨g, o, ha, h0, h1⟩ := hc j hj
  exact ⟨g, o, ha, (hb.cell (p := ⟨g, o + j * 2, none⟩) (World.block_lt_of_cell? w _ h0)).trans h0, (hb.cell (p := ⟨g, o + j * 2 + 1, none⟩) (World.block_lt_of_cell? w _ h1)).trans h1⟩
/-- What a step's block and what is ahead of the tree keep. -/
theorem Tc.bel {base : Nat} {A : Nat → Addr} {db : Nat} {F : Nat → Prop} {d : S.V.Dev} {W0 w : World} {tb : Nat} (h : Tc base A db F d W0 w tb) (hF : ∀ k, F k → W0.heap.size ≤ k) : Below W0.heap.size W0 w := h.st.below hF (Nat.le_refl _)

theorem op_form {A : Nat → Addr} {W w' : World} {n : Int} {l : List S.V.Sec} {e : Ending} (h : S.V.OpenPost A W n l e w') : (∃ pp ev, e = .returned (.tuple #[.pointer pp, ev])) ∧ Below W.heap.size W w' := by
  rcases h with ⟨_, b, F, he, _, hb, _⟩ | ⟨_, he, hb⟩
  · exact ⟨⟨_, _, he⟩, hb⟩
  · exact ⟨⟨_, _, he⟩, hb⟩
set_option maxRecDepth 100000 in
set_option maxHeartbeats 8000000 in
/-- The loop of the law, from where the tree is opened. -/
theorem ends_any {base : Nat} {A : Nat → Addr} (pages root : Int) (lv sv : Value) (l : List S.V.Sec) (ks : List LS) (w : World) (hE : S.Env base A w) (hG : ErrsG 13 gAll A w) (hlo : ∀ i, i < 13 → gAll i < base ∧ (A i).block < base) (hl : S.V.SecR w lv l) (hll : l.length ≤ 5864062014805) (hs : StpR w sv ks) (hkl : ks.length ≤ 140737488355328) (hks : ∀ s ∈ ks, s.key.size ≤ 140737488355328 ∧ s.value.size ≤ 140737488355328) :
    Calls Tryz.prog 3 #[.agg #[.int .i64 pages, lv, .int .i64 root, sv]] w fun e w' => e = .returned (.bool true) ∧ Below w.heap.size w w' := by
  obtain ⟨la, lc, hlv⟩ : ∃ a c, lv = .slice a l.length c := by obtain ⟨a, c, h, _⟩ := hl; exact ⟨a, c, h⟩
  obtain ⟨sa, sc, hsv⟩ : ∃ a c, sv = .slice a ks.length c := by obtain ⟨a, c, h, _⟩ := hs; exact ⟨a, c, h⟩
  subst hlv hsv
  obtain ⟨LN, hLN⟩ : ∃ LN, LN = l.length := ⟨_, rfl⟩
  obtain ⟨KN, hKN⟩ : ∃ KN, KN = ks.length := ⟨_, rfl⟩
  rw [← hLN] at hl
  rw [← hKN] at hs hkl
  rw [← hLN, ← hKN]
  have HKN := hide hKN
  have q1 := below_new w (.cells #[.int .i64 pages, .slice la LN lc, .int .i64 root, .slice sa KN sc] 25)
  have x1 := B.RowAt.new w #[.int .i64 pages, .slice la LN lc, .int .i64 root, .slice sa KN sc] 25
  generalize hW1 : w.alloc (.cells #[.int .i64 pages, .slice la LN lc, .int .i64 root, .slice sa KN sc] 25) = W1 at *
  have HE := hide (hE.up q1)
  have HG := hide (hG.keep q1)
  have HLO := hide hlo
  have HL := hide (secR_below hl q1)
  have HLL := hide hll
  have HS := hide (hs.below q1)
  have HKS := hide hks
  have HQ := hide q1
  have HX := hide x1
  have HST := hide (start_any W1 HE.out HG.out hlo)
  have hKs : (KN : Int) ≤ 140737488355328 := by omega
  have hK0 : (0 : Int) ≤ (KN : Int) := by omega
  have HOP : Hid (∀ n W, Below W1.heap.size W1 W → Calls Tryz.prog 11 #[.int .i64 n, .slice la LN lc] W (S.V.OpenPost A W n l)) := fun n W hW => by
    have h := S.V.open_any base A n l (.slice la LN lc) W (HE.out.up hW).errs (secR_below HL.out hW) HLL.out
    exact h
  clear hE hG hlo hl hll hs hkl hks q1 x1 hLN hKN
  go_enter Tryz.func3, Tryz.ntmps3
  go_wp2_with fail
  refine HST.out.mono ?_
  rintro e w2 ⟨ob, db, tb, F, d, mv, rfl, hmv, hrow, htc, htr, hob, hF⟩
  have HPT := hide (oput_a hmv hrow htc htr hob)
  have HF := hide hF
  clear hmv hrow htc htr hob hF HST
  go_wp2_with fail
  refine HPT.out.mono ?_
  rintro e w3 ⟨rfl, hst3⟩
  have hb3 : Below W1.heap.size W1 w3 := hst3.below HF.out (Nat.le_refl _)
  have HB3 := hide hb3
  have k0 := (HX.out.below hb3).cell 0 (by simp)
  have k1 := (HX.out.below hb3).cell 1 (by simp)
  simp only [List.getElem_toArray, List.getElem_cons_zero, List.getElem_cons_succ] at k0 k1
  have HX3 := hide (HX.out.below hb3)
  have HLPG : Hid (Calls Tryz.prog 12 #[.agg #[.int .i64 pages, .slice none 0 0]] w3.drew fun e w' => (∃ r, e = .returned (.int .i64 r)) ∧ Below w3.heap.size w3 w') := (lpages_any pages (.slice none 0 0) w3.drew).mono fun e w' h => ⟨h.1, B.undrewB h.2⟩
  clear hst3 hb3 HPT HF
  go_wp2_with fail
  go_region_held3 (fun w' => w'.cell? ⟨w.heap.size, 0, none⟩ = some (.int .i64 pages) ∧ w'.cell? ⟨w.heap.size, 1, none⟩ = some (.slice la LN lc)) (go_keep)
    (first
      | (go_at_call 12; refine HLPG.out.mono ?_; rintro e w4 ⟨⟨r, rfl⟩, hb4⟩; have m0 := (HX3.out.below hb4).cell 0 (by simp); have m1 := (HX3.out.below hb4).cell 1 (by simp); simp only [List.getElem_toArray, List.getElem_cons_zero, List.getElem_cons_succ] at m0 m1; have HX4 := hide (HX3.out.below hb4); have HB4 := hide (Below.next HB3.out hb4); clear hb4)
      | (go_at_call 11; refine (HOP.out _ _ HB4.out).mono ?_; rintro e w5 hop; obtain ⟨⟨pp, ev, hpe⟩, hb5⟩ := op_form hop; subst hpe; have n0 := (HX4.out.below hb5).cell 0 (by simp); have n1 := (HX4.out.below hb5).cell 1 (by simp); simp only [List.getElem_toArray, List.getElem_cons_zero, List.getElem_cons_succ] at n0 n1; have HX5 := hide (HX4.out.below hb5); have HB5 := hide (Below.next HB4.out hb5); have HOPN := hide hop; clear hb5 hop))
  all_goals
    clear k0 k1 m0 m1 n0 n1 HX3 HX4 HLPG HOP
    rcases HOPN.out with ⟨_, b, F2, he, hd5, _, hF5⟩ | ⟨_, he, _⟩
    · simp only [Ending.returned.injEq, Value.tuple.injEq, Array.mk.injEq, List.cons.injEq, Value.pointer.injEq, and_true] at he
      obtain ⟨rfl, rfl⟩ := he
      have hv5 : Dv base A b F2 _ w5 := ⟨⟨_, Nr.refl _, hd5⟩, HE.out.up HB5.out, HG.out.keep HB5.out, fun k hk => Nat.le_trans HE.out.errs.size (Nat.le_trans HB4.out.size (hF5 k hk)), rfl, HLO.out⟩
      have HF2 : Hid (∀ k, F2 k → W1.heap.size ≤ k) := fun k hk => Nat.le_trans HB4.out.size (hF5 k hk)
      have HTO := hide (topen_any (W0 := W1) 0 root (.int .u64 0) hv5 (S.V.Step.of_below HB5.out))
      have k2 := HX5.out.cell 2 (by simp)
      simp only [List.getElem_toArray, List.getElem_cons_zero, List.getElem_cons_succ] at k2
      generalize ({ S.V.newDev _ with dur := S.V.openD l } : S.V.Dev) = d2 at HTO
      clear hd5 hF5 hv5 HOPN
      go_wp2_with fail
      refine HTO.out.mono ?_
      rintro e w6 ⟨tb, rfl, htc6, -⟩
      have HTC6 := hide htc6
      clear htc6 HTO k2
      go_wp2
      go_loopw [7, 8] (fun tv iv wr => ∃ (tb : Nat) (i : Nat), tv = .pointer (some ⟨tb, 0, none⟩) ∧ iv = .int .i64 (i : Int) ∧ i ≤ KN ∧ Tc base A b F2 d2 W1 wr tb) (fun _ iv _ => KN - (intOf iv).toNat)
      case atStart => exact ⟨tb, 0, rfl, rfl, Nat.zero_le _, HTC6.out⟩
      case round =>
        obtain ⟨tb, i, rfl, rfl, hi, htc⟩ := hrel
        have hbr := htc.bel HF2.out
        have p3 := (HX.out.below hbr).cell 3 (by simp)
        simp only [List.getElem_toArray, List.getElem_cons_zero, List.getElem_cons_succ] at p3
        have HB := hide hbr
        have HTC := hide htc
        clear HTC6 hbr htc
        by_cases hlt : i < KN ∧ i < 300
        · have hI1 : (i : Int) < (KN : Int) := by omega
          have hI2 : (i : Int) < 300 := by omega
          have hI0 : (0 : Int) ≤ (i : Int) := by omega
          have hik : i < ks.length := by rw [← HKN.out]; exact hlt.1
          obtain ⟨_, _, hsv, hcell⟩ := HS.out
          simp only [Value.slice.injEq] at hsv
          obtain ⟨rfl, -, rfl⟩ := hsv
          obtain ⟨g, o, rfl, c0, c1, c2, c3, c4, c5⟩ := hcell i hik
          have hbr := HB.out
          have f0 := (hbr.cell (p := ⟨g, o + i * 6, none⟩) (World.block_lt_of_cell? W1 _ c0)).trans c0
          have f1 := (hbr.cell (p := ⟨g, o + i * 6 + 1, none⟩) (World.block_lt_of_cell? W1 _ c1)).trans c1
          have f2 := (hbr.cell (p := ⟨g, o + i * 6 + 2, none⟩) (World.block_lt_of_cell? W1 _ c2)).trans c2
          have f3 := (hbr.cell (p := ⟨g, o + i * 6 + 3, none⟩) (World.block_lt_of_cell? W1 _ c3)).trans c3
          have f4 := (hbr.cell (p := ⟨g, o + i * 6 + 4, none⟩) (World.block_lt_of_cell? W1 _ c4)).trans c4
          have f5 := (hbr.cell (p := ⟨g, o + i * 6 + 5, none⟩) (World.block_lt_of_cell? W1 _ c5)).trans c5
          have HKV := hide (HKS.out ks[i] (List.getElem_mem hik))
          generalize (ks[i]).kind = kind at *
          generalize (ks[i]).at' = kat at *
          generalize (ks[i]).n = kn at *
          generalize (ks[i]).key = key at *
          generalize (ks[i]).value = value at *
          generalize (ks[i]).to' = kto at *
          have qb := below_new wr (.cells #[.int .i64 kind, .int .i64 kat, .int .i64 kn, .string key, .string value, .string kto] 44)
          have xb := B.RowAt.new wr #[.int .i64 kind, .int .i64 kat, .int .i64 kn, .string key, .string value, .string kto] 44
          have HTCB := hide (HTC.out.below qb)
          have r0 := xb.cell 0 (by simp)
          have r3 := xb.cell 3 (by simp)
          have r4 := xb.cell 4 (by simp)
          simp only [List.getElem_toArray, List.getElem_cons_zero, List.getElem_cons_succ] at r0 r3 r4
          clear hcell hbr qb xb c0 c1 c2 c3 c4 c5 hik
          by_cases hk1 : kind = 1
          · subst hk1
            go_wp2_with fail
            refine (put_any key value HTCB.out HKV.out.1 HKV.out.2).mono ?_
            rintro e w8 ⟨⟨ev, rfl, hev, -⟩, htc8⟩
            have HTC8 := hide htc8
            have HEV := hide hev
            clear htc8 hev r0 r3 r4
            go_wp2_with fail
            refine (num_any A ev _ HTC8.out.dv.errs HEV.out).mono ?_
            rintro e w9 ⟨⟨x, rfl, hx⟩, rfl⟩
            rcases hx with rfl | rfl | rfl
            · go_wp2
              go_roundw
              case rel => exact ⟨tb, i + 1, rfl, by go_num, hlt.1, HTC8.out⟩
              case measure => simp [intOf]; omega
            · go_wp2
              go_roundw
              case rel => exact ⟨tb, i + 1, rfl, by go_num, hlt.1, HTC8.out⟩
              case measure => simp [intOf]; omega
            · go_wp2
              go_roundw
              case rel => exact ⟨tb, i + 1, rfl, by go_num, hlt.1, HTC8.out⟩
              case measure => simp [intOf]; omega
          · have hn1 : (kind == 1) = false := by simp [hk1]
            clear hk1
            by_cases hk2 : kind = 2
            · subst hk2
              go_wp2_with fail
              refine (del_any key HTCB.out HKV.out.1).mono ?_
              rintro e w8 ⟨⟨bb, ev, rfl, hev⟩, htc8⟩
              have HTC8 := hide htc8
              have HEV := hide hev
              clear htc8 hev r0 r3 r4
              go_wp2_with fail
              refine (num_any A ev _ HTC8.out.dv.errs HEV.out).mono ?_
              rintro e w9 ⟨⟨x, rfl, hx⟩, rfl⟩
              rcases hx with rfl | rfl | rfl
              · go_wp2
                go_roundw
                case rel => exact ⟨tb, i + 1, rfl, by go_num, hlt.1, HTC8.out⟩
                case measure => simp [intOf]; omega
              · go_wp2
                go_roundw
                case rel => exact ⟨tb, i + 1, rfl, by go_num, hlt.1, HTC8.out⟩
                case measure => simp [intOf]; omega
              · go_wp2
                go_roundw
                case rel => exact ⟨tb, i + 1, rfl, by go_num, hlt.1, HTC8.out⟩
                case measure => simp [intOf]; omega
            · have hn2 : (kind == 2) = false := by simp [hk2]
              clear hk2
              by_cases hk3 : kind = 3
              · subst hk3
                go_wp2_with fail
                refine (get_any key HTCB.out HKV.out.1).mono ?_
                rintro e w8 ⟨⟨gv, bb, ev, rfl, hev⟩, htc8⟩
                have HTC8 := hide htc8
                have HEV := hide hev
                clear htc8 hev r0 r3 r4
                go_wp2_with fail
                refine (num_any A ev _ HTC8.out.dv.errs HEV.out).mono ?_
                rintro e w9 ⟨⟨x, rfl, hx⟩, rfl⟩
                rcases hx with rfl | rfl | rfl
                · go_wp2
                  go_roundw
                  case rel => exact ⟨tb, i + 1, rfl, by go_num, hlt.1, HTC8.out⟩
                  case measure => simp [intOf]; omega
                · go_wp2
                  go_roundw
                  case rel => exact ⟨tb, i + 1, rfl, by go_num, hlt.1, HTC8.out⟩
                  case measure => simp [intOf]; omega
                · go_wp2
                  go_roundw
                  case rel => exact ⟨tb, i + 1, rfl, by go_num, hlt.1, HTC8.out⟩
                  case measure => simp [intOf]; omega
              · have hn3 : (kind == 3) = false := by simp [hk3]
                clear hk3
                by_cases hk5 : kind = 5
                · subst hk5
                  go_wp2_with fail
                  refine (below_any key HTCB.out).mono ?_
                  rintro e w8 ⟨⟨bk, bx, bb, ev, rfl, hev⟩, htc7⟩
                  have htc8 := htc7.below (below_new w8 (.cells #[.string bk, .string bx] 52))
                  have HTC8 := hide htc8
                  have HEV := hide hev
                  clear htc8 htc7 hev r0 r3 r4
                  go_wp2_with fail
                  refine (num_any A ev _ HTC8.out.dv.errs HEV.out).mono ?_
                  rintro e w9 ⟨⟨x, rfl, hx⟩, rfl⟩
                  rcases hx with rfl | rfl | rfl
                  · go_wp2
                    go_roundw
                    case rel => exact ⟨tb, i + 1, rfl, by go_num, hlt.1, HTC8.out⟩
                    case measure => simp [intOf]; omega
                  · go_wp2
                    go_roundw
                    case rel => exact ⟨tb, i + 1, rfl, by go_num, hlt.1, HTC8.out⟩
                    case measure => simp [intOf]; omega
                  · go_wp2
                    go_roundw
                    case rel => exact ⟨tb, i + 1, rfl, by go_num, hlt.1, HTC8.out⟩
                    case measure => simp [intOf]; omega
                · have hn5 : (kind == 5) = false := by simp [hk5]
                  clear hk5
                  by_cases hk8 : kind = 8
                  · subst hk8
                    go_wp2_with fail
                    refine (depth_any HTCB.out).mono ?_
                    rintro e w8 ⟨⟨dn, ev, rfl, hev⟩, htc8⟩
                    have HTC8 := hide htc8
                    have HEV := hide hev
                    clear htc8 hev r0 r3 r4
                    go_wp2_with fail
                    refine (num_any A ev _ HTC8.out.dv.errs HEV.out).mono ?_
                    rintro e w9 ⟨⟨x, rfl, hx⟩, rfl⟩
                    rcases hx with rfl | rfl | rfl
                    · go_wp2
                      go_roundw
                      case rel => exact ⟨tb, i + 1, rfl, by go_num, hlt.1, HTC8.out⟩
                      case measure => simp [intOf]; omega
                    · go_wp2
                      go_roundw
                      case rel => exact ⟨tb, i + 1, rfl, by go_num, hlt.1, HTC8.out⟩
                      case measure => simp [intOf]; omega
                    · go_wp2
                      go_roundw
                      case rel => exact ⟨tb, i + 1, rfl, by go_num, hlt.1, HTC8.out⟩
                      case measure => simp [intOf]; omega
                  · have hn8 : (kind == 8) = false := by simp [hk8]
                    clear hk8
                    by_cases hk7 : kind = 7
                    · subst hk7
                      go_wp2_with fail
                      refine (changed_any HTCB.out).mono ?_
                      rintro e w8 ⟨⟨dn, rfl⟩, rfl⟩
                      have HTC8 := HTCB
                      clear r0 r3 r4
                      go_wp2
                      go_roundw
                      case rel => exact ⟨tb, i + 1, rfl, by go_num, hlt.1, HTC8.out⟩
                      case measure => simp [intOf]; omega
                    · have hn7 : (kind == 7) = false := by simp [hk7]
                      clear hk7
                      by_cases hk11 : kind = 11
                      · subst hk11
                        go_wp2_with fail
                        refine (copy_any HTCB.out).mono ?_
                        rintro e w8 ⟨tb', rfl, htc8⟩
                        have HTC8 := hide htc8
                        clear htc8 r0 r3 r4
                        go_wp2
                        go_roundw
                        case rel => exact ⟨tb', i + 1, rfl, by go_num, hlt.1, HTC8.out⟩
                        case measure => simp [intOf]; omega
                      · have hn11 : (kind == 11) = false := by simp [hk11]
                        clear hk11
                        have HTC8 := HTCB
                        clear r3 r4
                        go_wp2
                        go_roundw
                        case rel => exact ⟨tb, i + 1, rfl, by go_num, hlt.1, HTC8.out⟩
                        case measure => simp [intOf]; omega
        · by_cases h1 : i < KN
          · have hI1 : (i : Int) < (KN : Int) := by omega
            have hI2 : ¬ (i : Int) < 300 := by omega
            go_wp2
            go_ret
            exact ⟨rfl, Below.next HQ.out HB.out⟩
          · have hI1 : ¬ (i : Int) < (KN : Int) := by omega
            go_wp2
            go_ret
            exact ⟨rfl, Below.next HQ.out HB.out⟩
    · simp only [Ending.returned.injEq, Value.tuple.injEq, Array.mk.injEq, List.cons.injEq, Value.pointer.injEq, and_true] at he
      obtain ⟨rfl, rfl⟩ := he
      have e1 : S.V.errV A 1 = .iface 360 (.pointer (some (A 0))) := rfl
      rw [e1]
      clear HOPN e1
      go_wp2
      go_ret
      exact ⟨rfl, Below.next HQ.out HB5.out⟩

end Go.Proofs.YtnaedmmfiiebaaaGreatDoor.T

namespace Go.Proofs.YtnaedmmfiiebaaaGreatDoor.S
open Go.ChangeShapes Go.WideShapes Go.ChangeAt Go.WideMaps Go.WideElems Go.RowKit

theorem gTab : Tryz.prog.globalNamed "copse/codec.halfByteSteps" = some 15 := by kernel_rfl
theorem tTab : (Tryz.prog.globals[15]?).map (·.type) = some 330 := by kernel_rfl
theorem gLay : Tryz.prog.globalNamed "copse/sheet.layout" = some 14 := by kernel_rfl
theorem tLay : (Tryz.prog.globals[14]?).map (·.type) = some 327 := by kernel_rfl
theorem cells32 : Tryz.prog.cellsOf 225 = 1 := by kernel_rfl
theorem cellsTab : Tryz.prog.cellsOf 330 = 16 := by kernel_rfl
theorem cellsInt : Tryz.prog.cellsOf 3 = 1 := by kernel_rfl
theorem cellsLay : Tryz.prog.cellsOf 327 = 10 := by kernel_rfl
theorem cellsNum : Tryz.prog.cellsOf 326 = 2 := by kernel_rfl

theorem tab_of_laid {W : World} (h : laidMet Tryz.prog [("copse/codec.halfByteSteps", Rows.laid_copse_codec_halfByteSteps)] W) : Tab W := by
  have e : (Rows.laid_copse_codec_halfByteSteps : DataW Unit) = Lib.tabData .u32 (tabL.map Int.ofNat) := by simp [Rows.laid_copse_codec_halfByteSteps, Lib.tabData, tabL]
  rw [e] at h
  have hv := Lib.tabIs_of_head gTab tTab Tryz.underlying330 Tryz.underlying225 cells32 cellsTab h
  have hc := World.var?_cell gTab hv
  have h16 : ∀ j, j < 16 → W.cell? ⟨15, j, none⟩ = some (.int .u32 (tab j : Nat)) := by
    intro j hj
    have h1 := hc j
    rw [h1]
    have : ∀ i : Fin 16, ((tabL.map Int.ofNat).map fun z => Value.int .u32 z).toArray[i.1]? = some (.int .u32 ((tab i.1 : Nat) : Int)) := by
      intro i
      simp only [List.map_map, List.getElem?_toArray, List.getElem?_map]
      have hi : i.1 < tabL.length := i.2
      rw [List.getElem?_eq_getElem hi]
      simp only [Option.map_some, Function.comp]
      unfold tab
      rw [List.getD, List.getElem?_eq_getElem hi]
      rfl
    exact this ⟨j, hj⟩
  refine ⟨h16, ?_⟩
  exact World.block_lt_of_cell? W _ (h16 0 (by decide))

set_option maxRecDepth 100000 in
theorem number_cells {W : World} {m : Nat} {a b : Value} {y : DataW Unit × List MemPlace} {p q : Int} (h : DataW.trod (fun _ => ()) Tryz.prog W 0 (fun _ => true) false m 326 [a, b] = some y) (hy : y.1 = .agg [.lit (.int .i64 p), .lit (.int .i64 q)]) :
    a = .int .i64 p ∧ b = .int .i64 q := by
  obtain ⟨y0, y1, n, rfl, _, h0, h1⟩ := trod_struct2 Tryz.underlying326 h
  have h0' : DataW.trod (fun _ => ()) Tryz.prog W 0 (fun _ => true) false n 3 [a] = some y0 := by simpa [cellsInt] using h0
  have h1' : DataW.trod (fun _ => ()) Tryz.prog W 0 (fun _ => true) false n 3 [b] = some y1 := by simpa [cellsInt] using h1
  obtain ⟨k0, e0, rfl, _⟩ := DataW.trod_int Tryz.underlying3 h0'
  obtain ⟨k1, e1, rfl, _⟩ := DataW.trod_int Tryz.underlying3 h1'
  simp only [List.cons.injEq, and_true] at e0 e1
  subst e0 e1
  simp only [DataW.agg.injEq, List.cons.injEq, DataW.lit.injEq, Lit.int.injEq, true_and, and_true] at hy
  obtain ⟨rfl, rfl⟩ := hy
  exact ⟨rfl, rfl⟩

set_option maxRecDepth 100000 in
theorem lay_of_laid {W : World} (h : laidMet Tryz.prog [("copse/sheet.layout", Rows.laid_copse_sheet_layout)] W) : Lay W := by
  obtain ⟨ps, ⟨g, t, cs, fuel, p, q, hg, ht, hvar, hd, _, _⟩, _, _⟩ := h
  obtain rfl := Option.some.inj (gLay.symm.trans hg)
  obtain rfl := Option.some.inj (tLay.symm.trans ht)
  have hc := World.var?_cell gLay hvar
  obtain ⟨xs, m, _, hx, hcl, hxl, hf⟩ := DataW.trod_array Tryz.underlying327 hd
  rw [cellsLay] at hcl
  obtain ⟨cl⟩ := cs
  match xs, hxl, cl, hcl with
  | [y0, y1, y2, y3, y4], _, [v0, v1, v2, v3, v4, v5, v6, v7, v8, v9], _ =>
    have g0 := hf 0 (by decide)
    have g1 := hf 1 (by decide)
    have g2 := hf 2 (by decide)
    have g3 := hf 3 (by decide)
    have g4 := hf 4 (by decide)
    simp [cellsNum] at g0 g1 g2 g3 g4
    have hx1 := congrArg Prod.fst hx
    simp only [Rows.laid_copse_sheet_layout, List.map_cons, List.map_nil, DataW.agg.injEq, List.cons.injEq, and_true] at hx1
    obtain ⟨x0, x1, x2, x3, x4⟩ := hx1
    obtain ⟨rfl, rfl⟩ := number_cells g0 x0.symm
    obtain ⟨rfl, rfl⟩ := number_cells g1 x1.symm
    obtain ⟨rfl, rfl⟩ := number_cells g2 x2.symm
    obtain ⟨rfl, rfl⟩ := number_cells g3 x3.symm
    obtain ⟨rfl, rfl⟩ := number_cells g4 x4.symm
    have k0 := hc 0
    have k1 := hc 1
    have k2 := hc 2
    have k3 := hc 3
    have k4 := hc 4
    have k5 := hc 5
    have k6 := hc 6
    have k7 := hc 7
    have k8 := hc 8
    have k9 := hc 9
    simp at k0 k1 k2 k3 k4 k5 k6 k7 k8 k9
    exact ⟨World.block_lt_of_cell? W _ k0, k0, k1, k2, k3, k4, k5, k6, k7, k8, k9⟩


end Go.Proofs.YtnaedmmfiiebaaaGreatDoor.S
namespace Go.Proofs.YtnaedmmfiiebaaaGreatDoor
open Go.ChangeShapes Go.WideShapes Go.ChangeAt Go.WideMaps Go.WideElems Go.RowKit Go.Joins

theorem own : ownKnob Tryz.prog.godebug = none := by kernel_rfl
theorem laidOut : laidOutB Tryz.prog = true := by kernel_rfl
def err13L : List (String × List UInt8) := [("copse/api.ErrArg", errText Rows.laid_copse_api_ErrArg), ("copse/api.ErrText", errText Rows.laid_copse_api_ErrText), ("copse/api.ErrMany", errText Rows.laid_copse_api_ErrMany), ("copse/api.ErrShort", errText Rows.laid_copse_api_ErrShort), ("copse/api.ErrTwice", errText Rows.laid_copse_api_ErrTwice), ("copse/api.ErrLost", errText Rows.laid_copse_api_ErrLost), ("copse/api.ErrFull", errText Rows.laid_copse_api_ErrFull), ("copse/api.ErrDead", errText Rows.laid_copse_api_ErrDead), ("copse/api.ErrCorrupt", errText Rows.laid_copse_api_ErrCorrupt), ("copse/api.ErrStatus", errText Rows.laid_copse_api_ErrStatus), ("copse/api.ErrTxid", errText Rows.laid_copse_api_ErrTxid), ("copse/api.ErrOrder", errText Rows.laid_copse_api_ErrOrder), ("copse/api.ErrKind", errText Rows.laid_copse_api_ErrKind)]
theorem err13L_eq : err13L.map mkErr ++ [] = [("copse/api.ErrArg", Rows.laid_copse_api_ErrArg), ("copse/api.ErrText", Rows.laid_copse_api_ErrText), ("copse/api.ErrMany", Rows.laid_copse_api_ErrMany), ("copse/api.ErrShort", Rows.laid_copse_api_ErrShort), ("copse/api.ErrTwice", Rows.laid_copse_api_ErrTwice), ("copse/api.ErrLost", Rows.laid_copse_api_ErrLost), ("copse/api.ErrFull", Rows.laid_copse_api_ErrFull), ("copse/api.ErrDead", Rows.laid_copse_api_ErrDead), ("copse/api.ErrCorrupt", Rows.laid_copse_api_ErrCorrupt), ("copse/api.ErrStatus", Rows.laid_copse_api_ErrStatus), ("copse/api.ErrTxid", Rows.laid_copse_api_ErrTxid), ("copse/api.ErrOrder", Rows.laid_copse_api_ErrOrder), ("copse/api.ErrKind", Rows.laid_copse_api_ErrKind)] := rfl
theorem err13L_all : ((List.range 13).all fun i => match err13L[i]? with
    | some x => (Tryz.prog.globalNamed x.1 == some (gAll i)) && ((Tryz.prog.globals[gAll i]?).map (·.type) == some 32)
    | none => false) = true := by kernel_rfl
theorem err13L_glob : ∀ i x, err13L[i]? = some x → Tryz.prog.globalNamed x.1 = some (gAll i) ∧ (Tryz.prog.globals[gAll i]?).map (·.type) = some 32 := by
  intro i x hx
  have hi : i < 13 := by
    rcases Nat.lt_or_ge i 13 with h | h
    · exact h
    · rw [List.getElem?_eq_none (by exact h)] at hx; cases hx
  have h := List.all_eq_true.1 err13L_all i (List.mem_range.2 hi)
  rw [hx] at h
  simpa using h
def isErr13 (x : String × DataW Unit) : Bool := x.1 == "copse/api.ErrArg" || x.1 == "copse/api.ErrText" || x.1 == "copse/api.ErrMany" || x.1 == "copse/api.ErrShort" || x.1 == "copse/api.ErrTwice" || x.1 == "copse/api.ErrLost" || x.1 == "copse/api.ErrFull" || x.1 == "copse/api.ErrDead" || x.1 == "copse/api.ErrCorrupt" || x.1 == "copse/api.ErrStatus" || x.1 == "copse/api.ErrTxid" || x.1 == "copse/api.ErrOrder" || x.1 == "copse/api.ErrKind"
set_option maxRecDepth 100000 in
theorem err13_of_laid {W : World} (h : laidMet Tryz.prog [("copse/api.ErrArg", Rows.laid_copse_api_ErrArg), ("copse/api.ErrText", Rows.laid_copse_api_ErrText), ("copse/api.ErrMany", Rows.laid_copse_api_ErrMany), ("copse/api.ErrShort", Rows.laid_copse_api_ErrShort), ("copse/api.ErrTwice", Rows.laid_copse_api_ErrTwice), ("copse/api.ErrLost", Rows.laid_copse_api_ErrLost), ("copse/api.ErrFull", Rows.laid_copse_api_ErrFull), ("copse/api.ErrDead", Rows.laid_copse_api_ErrDead), ("copse/api.ErrCorrupt", Rows.laid_copse_api_ErrCorrupt), ("copse/api.ErrStatus", Rows.laid_copse_api_ErrStatus), ("copse/api.ErrTxid", Rows.laid_copse_api_ErrTxid), ("copse/api.ErrOrder", Rows.laid_copse_api_ErrOrder), ("copse/api.ErrKind", Rows.laid_copse_api_ErrKind)] W) : ∃ A, ErrsG 13 gAll A W := by
  obtain ⟨A, hA, _⟩ := errs_of (rest := []) gAll (show err13L.length = 13 from rfl) err13L_glob (by rw [err13L_eq]; exact h)
  exact ⟨A, hA⟩


namespace T
def isHalf (x : String × DataW Unit) : Bool := x.1 == "copse/codec.halfByteSteps"
def isLay (x : String × DataW Unit) : Bool := x.1 == "copse/sheet.layout"
set_option maxRecDepth 100000 in
theorem ends_laid {W : World} (h : laidMetH Tryz.prog Rows.treeEndsRow.laid W) : ∃ A, S.Env W.heap.size A W ∧ ErrsG 13 gAll A W ∧ ∀ i, i < 13 → gAll i < W.heap.size ∧ (A i).block < W.heap.size := by
  rw [MakeChecks.laidMetH_plain _ _ _ (by kernel_rfl)] at h
  obtain ⟨A, hA⟩ := err13_of_laid (h.filter isErr13)
  have hT := S.tab_of_laid (h.filter isHalf)
  have hL := S.lay_of_laid (h.filter isLay)
  refine ⟨A, ⟨⟨(hA.1 0 (by decide)).1, (hA.1 2 (by decide)).1, (hA.1 7 (by decide)).1, ⟨World.block_lt_of_cell? W _ (hA.1 0 (by decide)).1, World.block_lt_of_cell? W _ (hA.1 2 (by decide)).1, World.block_lt_of_cell? W _ (hA.1 7 (by decide)).1⟩, Nat.le_refl _⟩, (hA.1 1 (by decide)).1, ⟨World.block_lt_of_cell? W _ (hA.1 1 (by decide)).1, hL.1, hT.2⟩, hL, hT⟩, hA, fun i hi => ?_⟩
  obtain ⟨h1, c, t, h2⟩ := hA.1 i hi
  exact ⟨World.block_lt_of_cell? W _ h1, (Array.getElem?_eq_some_iff.1 h2).1⟩
end T

end Go.Proofs.YtnaedmmfiiebaaaGreatDoor
