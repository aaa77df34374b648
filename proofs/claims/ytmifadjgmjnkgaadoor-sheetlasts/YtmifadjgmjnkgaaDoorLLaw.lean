import Derived.Test.YtmifadjgmjnkgaaDoorLMath
import Derived.Test.YtmifadjgmjnkgaaDoorKnown
import Derived.Test.YtmifadjgmjnkgaaDoorShEql
import Derived.Deep.DeepCutAuto
import Derived.Deep.QuietTactic
import Derived.BigQuiet
namespace Go.Proofs.YtmifadjgmjnkgaaDoor
open Go.RowKit

/-- The steps of a script, wherever they lie. -/
def StepAt (w : World) (g off j : Nat) (kd nn : Int) (s : Sh) (dat : ByteArray) (fv : Value) : Prop :=
  w.cell? ⟨g, off + j * 9, none⟩ = some (.int .i64 kd) ∧ w.cell? ⟨g, off + j * 9 + 1, none⟩ = some (.int .i64 nn) ∧ w.cell? ⟨g, off + j * 9 + 2, none⟩ = some (.int .i64 s.kind) ∧ w.cell? ⟨g, off + j * 9 + 3, none⟩ = some (.int .i64 s.id) ∧ w.cell? ⟨g, off + j * 9 + 4, none⟩ = some (.int .u64 (s.txid : Int)) ∧
  w.cell? ⟨g, off + j * 9 + 5, none⟩ = some (.int .i64 s.count) ∧ w.cell? ⟨g, off + j * 9 + 6, none⟩ = some (.string s.body) ∧ w.cell? ⟨g, off + j * 9 + 7, none⟩ = some (.string dat) ∧ w.cell? ⟨g, off + j * 9 + 8, none⟩ = some fv
def StepsR (w : World) (sa : Option Addr) (m : Nat) : Prop := ∀ j, j < m → ∃ g off kd nn s dat fv, sa = some ⟨g, off, none⟩ ∧ g < w.heap.size ∧ StepAt w g off j kd nn s dat fv ∧ s.txid < 18446744073709551616 ∧ s.body.size ≤ 140737488355328 ∧ V.FatesR w fv
theorem StepAt.keep {w w' : World} {g off j : Nat} {kd nn : Int} {s : Sh} {dat : ByteArray} {fv : Value} {B : Nat} (h : StepAt w g off j kd nn s dat fv) (hb : Below B w w') (hg : g < B) : StepAt w' g off j kd nn s dat fv := by
  obtain ⟨h0, h1, h2, h3, h4, h5, h6, h7, h8⟩ := h
  exact ⟨(hb.cell hg).trans h0, (hb.cell hg).trans h1, (hb.cell hg).trans h2, (hb.cell hg).trans h3, (hb.cell hg).trans h4, (hb.cell hg).trans h5, (hb.cell hg).trans h6, (hb.cell hg).trans h7, (hb.cell hg).trans h8⟩
theorem fates_keep {w w' : World} {v : Value} (h : V.FatesR w v) (hb : Below w.heap.size w w') : V.FatesR w' v := h.below hb
theorem Boxed.step {b : Nat} {cs : List Value} {w w' : World} {F F' : Nat → Prop} (h : Boxed b cs w) (hs : V.Step F F' w w') (hn : ¬ F b) : Boxed b cs w' :=
  ⟨Nat.lt_of_lt_of_le h.1 hs.size, fun j hj => hs.cell (h.2 j hj) hn⟩
theorem step_not {w w' : World} {F F' : Nat → Prop} {b : Nat} (hs : V.Step F F' w w') (hn : ¬ F b) (hb : b < w.heap.size) : ¬ F' b := fun h => (hs.sub b h).elim hn (by omega)

/-- What the outer loop holds. -/
structure LInv (w0 : World) (sz : Int) (db : Nat) (wr : World) (u5 : Value) (L : List Sh) (d : V.Dev) (F : Nat → Prop) : Prop where
  row : wr.ownsRow w0.heap.size 31 5 u5 L.length (shCells L)
  dev : V.DevAt wr db F d
  held : Holds sz d L
  lo : ∀ k, F k → w0.heap.size ≤ k
  off : ∀ g, u5.ownBlock = some g → ¬ F g
  bel : Below w0.heap.size w0 wr
theorem LInv.up {w0 wr w' : World} {sz : Int} {db : Nat} {u5 : Value} {L : List Sh} {d : V.Dev} {F : Nat → Prop} (h : LInv w0 sz db wr u5 L d F) (hb : Below wr.heap.size wr w') : LInv w0 sz db w' u5 L d F :=
  ⟨owns_keep h.row hb, h.dev.below hb, h.held, h.lo, h.off, Below.next h.bel hb⟩

theorem Env.base {b b' : Nat} {A : Nat → Addr} {w : World} (h : Env b A w) (hb : b ≤ b') (hs : b' ≤ w.heap.size) : Env b' A w :=
  ⟨⟨h.errs.arg, h.errs.many, h.errs.dead, ⟨Nat.lt_of_lt_of_le h.errs.lo.1 hb, Nat.lt_of_lt_of_le h.errs.lo.2.1 hb, Nat.lt_of_lt_of_le h.errs.lo.2.2 hb⟩, hs⟩, h.text, ⟨Nat.lt_of_lt_of_le h.lo.1 hb, Nat.lt_of_lt_of_le h.lo.2.1 hb, Nat.lt_of_lt_of_le h.lo.2.2 hb⟩, h.lay, h.tab⟩
theorem LInv.step {w0 wr w' : World} {sz : Int} {db : Nat} {u5 : Value} {L : List Sh} {d d' : V.Dev} {F F' : Nat → Prop} (h : LInv w0 sz db wr u5 L d F) (hs : V.Step F F' wr w') (hd : V.DevAt w' db F' d') (hh : Holds sz d' L) : LInv w0 sz db w' u5 L d' F' :=
  ⟨V.owns_step h.row hs h.off, hd, hh, V.Step.ge hs h.lo h.bel.size, fun g hg => step_not hs (h.off g hg) (V.owns_blk h.row g hg).2.1, h.bel.trans (hs.below h.lo h.bel.size)⟩

set_option maxRecDepth 100000 in
set_option maxHeartbeats 8000000 in
theorem lasts_any (A : Nat → Addr) (X : Int) (sa : Option Addr) (m sc : Nat) (w : World) (hm : m ≤ 9223372036854775807) (hst : StepsR w sa m) (hE : Env w.heap.size A w) :
    Calls Tryd.prog 3 #[.agg #[.int .i64 X, .slice sa m sc]] w fun e w' => e = .returned (.bool true) ∧ Below w.heap.size w w' := by
  have HE := hide hE
  have HST := hide hst
  have HX : Hid (Boxed w.heap.size [.int .i64 X, .slice sa m sc] (w.alloc (.cells #[.int .i64 X, .slice sa m sc] 24))) := boxed_new w _ _
  have HB := hide (below_new w (.cells #[.int .i64 X, .slice sa m sc] 24))
  have HSZ : Hid (w.heap.size < (w.alloc (.cells #[.int .i64 X, .slice sa m sc] 24)).heap.size) := by show _ < _; simp
  clear hE hst
  go_enter Tryd.func3, Tryd.ntmps3
  go_wp2_with fail
  generalize w.alloc (.cells #[.int .i64 X, .slice sa m sc] 24) = W0 at *
  refine (known_any (A 1) W0 (HE.out.up HB.out).lay (HE.out.up HB.out).tab (HE.out.up HB.out).text).mono ?_
  rintro e w1 ⟨rfl, hb1⟩
  have HX1 := hide (HX.out.below hb1)
  have HB1 := hide hb1
  have c0 : w1.cell? ⟨w.heap.size, 0, none⟩ = some (.int .i64 X) := HX1.out.2 0 (by simp)
  obtain ⟨sz, hsz1, hsz2, hsz3⟩ : ∃ sz : Int, max 64 (min X 4096) = sz ∧ 64 ≤ sz ∧ sz ≤ 4096 := ⟨_, rfl, by omega, by omega⟩
  have HSZX := hide hsz1
  clear hb1 hsz1
  go_wp2_with fail
  refine (V.new_any (max 64 (min X 4096)) w1).mono ?_
  rintro e w2 ⟨db, F0, rfl, hdev, hb2, hlo⟩
  have HI0 : Hid (LInv W0 sz db w2 (.slice none 0 0) [] (V.newDev (max 64 (min X 4096))) F0) := ⟨World.ownsRow_nil _ _ _ _, hdev, ⟨by
    show V.clampN _ 0 8388615 = sz
    rw [HSZX.out]; unfold V.clampN; rw [if_neg (by omega), if_neg (by omega)], rfl, rfl, rfl, List.nodup_nil, fun t ht => by simp at ht⟩, fun k hk => Nat.le_trans HB1.out.size (hlo k hk), fun g hg => by simp [Value.ownBlock] at hg, Below.next HB1.out hb2⟩
  clear hdev hb2 hlo c0 HX1
  go_wp2_with fail
  go_loopw [5, 6] (fun u5 u6 wr => ∃ (j : Nat) (L : List Sh) (d : V.Dev) (F : Nat → Prop), j ≤ m ∧ u6 = .int .i64 j ∧ LInv W0 sz db wr u5 L d F) (fun _ u6 _ => m - (intOf u6).toNat)
  case atStart => exact ⟨0, [], _, F0, Nat.zero_le _, rfl, HI0.out⟩
  case round =>
    obtain ⟨j, L, d, F, hj, rfl, inv⟩ := hrel
    have INV := hide inv
    clear inv HI0
    have hbx := HX.out.low INV.out.bel HSZ.out
    have x1 : wr.cell? ⟨w.heap.size, 1, none⟩ = some (.slice sa m sc) := hbx.2 1 (by simp)
    obtain ⟨va, vc, hu5⟩ : ∃ a c, u5 = .slice a L.length c := by
      rcases INV.out.row.2 with ⟨h', h0⟩ | ⟨g, cap, cur, h', _⟩
      · exact ⟨none, 0, by rw [h', h0]⟩
      · exact ⟨_, cap, h'⟩
    subst hu5
    have hLlen : L.length ≤ 512 := INV.out.held.len hsz3
    clear hbx
    by_cases hlt : j < m
    · obtain ⟨g, off, kd, nn, s, dat, fv, rfl, hg, hsa, htx, hbs, hfr⟩ := HST.out j hlt
      have HBW : Hid (Below w.heap.size w wr) := HB.out.trans (INV.out.bel.mono (Nat.le_of_lt HSZ.out))
      have hsr := hsa.keep HBW.out hg
      obtain ⟨s0, s1, s2, s3, s4, s5, s6, s7, s8⟩ := hsr
      have HFR := hide hfr
      obtain ⟨fa, fm, fc, rfl, _⟩ := hfr
      obtain ⟨k, i, t, c, b⟩ := s
      simp only at s2 s3 s4 s5 s6 htx hbs
      have HTX := hide htx
      have HBS := hide hbs
      clear hsa htx hbs
      have INV2 := hide (INV.out.up (below_new wr (.cells #[.int .i64 kd, .int .i64 nn, .int .i64 k, .int .i64 i, .int .u64 (t : Int), .int .i64 c, .string b, .string dat, .slice fa fm fc] 34)))
      have HSX : Hid (Boxed wr.heap.size [.int .i64 kd, .int .i64 nn, .int .i64 k, .int .i64 i, .int .u64 (t : Int), .int .i64 c, .string b, .string dat, .slice fa fm fc] (wr.alloc (.cells #[.int .i64 kd, .int .i64 nn, .int .i64 k, .int .i64 i, .int .u64 (t : Int), .int .i64 c, .string b, .string dat, .slice fa fm fc] 34))) := boxed_new wr _ _
      have HNF : Hid (¬ F wr.heap.size) := fun hf => by have := INV.out.dev.lt _ hf; omega
      by_cases hk1 : kd = 1
      · subst hk1
        have hkd : ((1 : Int) != 1) = false := by decide
        go_wp2_with fail
        generalize wr.alloc (.cells #[.int .i64 1, .int .i64 nn, .int .i64 k, .int .i64 i, .int .u64 (t : Int), .int .i64 c, .string b, .string dat, .slice fa fm fc] 34) = wA at *
        have HEA : Hid (Env W0.heap.size A wA) := ((HE.out.up HB.out).base (Nat.le_of_lt HSZ.out) (Nat.le_refl _)).keep INV2.out.bel
        have ST := store_any W0.heap.size A db F d ⟨k, i, t, c, b⟩ wA HBS.out HTX.out INV2.out.dev HEA.out INV2.out.lo INV2.out.held.pend INV2.out.held.dead INV2.out.held.arms
        have HSTO : Hid (Calls Tryd.prog 10 #[.pointer (some ⟨db, 0, none⟩), .agg #[.int .i64 k, .int .i64 i, .int .u64 (t : Int), .int .i64 c, .string b]] wA fun e w' =>
          (e = .returned .nilIface ∧ (May ⟨k, i, t, c, b⟩ ∧ (i + 1) * 8 ≤ d.size) ∧ ∃ F', V.DevAt w' db F' (storedD d ⟨k, i, t, c, b⟩) ∧ V.Step F F' wA w') ∨ (e = .returned (.iface 118 (.pointer (some (A 0)))) ∧ Below wA.heap.size wA w')) := ST
        clear ST s0 s1 s2 s3 s4 s5 s6 s7 s8 x1
        refine Calls.mono HSTO.out ?_
        rintro e w3 (⟨rfl, ⟨hmay, hfit⟩, F3, hdev3, hst3⟩ | ⟨rfl, hb3⟩)
        · rw [INV2.out.held.size] at hfit
          have HMAY := hide hmay
          have HFIT := hide hfit
          have HNFA : Hid (¬ F wr.heap.size) := HNF.out
          have HSX3 := hide (HSX.out.step hst3 HNFA.out)
          have HNF3 : Hid (¬ F3 wr.heap.size) := step_not hst3 HNFA.out HSX.out.1
          have hlo3 := V.Step.ge hst3 INV2.out.lo INV2.out.bel.size
          have hbel3 := INV2.out.bel.trans (hst3.below INV2.out.lo INV2.out.bel.size)
          have HE3 : Hid (Env W0.heap.size A w3) := ((HE.out.up HB.out).base (Nat.le_of_lt HSZ.out) (Nat.le_refl _)).keep hbel3
          have SY := V.sync_any W0.heap.size A db F3 (storedD d ⟨k, i, t, c, b⟩) w3 hdev3 HE3.out.errs hlo3 (by show (V.chunks _ _ 8).length ≤ _; rw [V.chunks_len]; decide) (by show V.OpOk _ _ _ d.arms; rw [INV2.out.held.arms]; exact V.opdone_nil _ _ _)
          rw [sync_stored d ⟨k, i, t, c, b⟩ INV2.out.held.dead INV2.out.held.arms] at SY
          have HSY : Hid (Calls Tryd.prog 11 #[.pointer (some ⟨db, 0, none⟩)] w3 fun e w' => e = .returned .nilIface ∧ ∃ F', V.DevAt w' db F' (syncedD d ⟨k, i, t, c, b⟩) ∧ V.Step F3 F' w3 w') := SY
          have HROW3 := hide (V.owns_step INV2.out.row hst3 INV2.out.off)
          have HOFF3 : Hid (∀ g, (Value.slice va L.length vc).ownBlock = some g → ¬ F3 g) := fun g hg => step_not hst3 (INV2.out.off g hg) (V.owns_blk INV2.out.row g hg).2.1
          have HLO3 := hide hlo3
          have HBEL3 := hide hbel3
          clear SY hmay hfit hdev3 hst3 hlo3 hbel3
          go_wp2_with fail
          refine Calls.mono HSY.out ?_
          rintro e w4 ⟨rfl, F4, hdev4, hst4⟩
          have HSX4 := hide (HSX3.out.step hst4 HNF3.out)
          have HNF4 : Hid (¬ F4 wr.heap.size) := step_not hst4 HNF3.out HSX3.out.1
          have HROW4 := hide (V.owns_step HROW3.out hst4 HOFF3.out)
          have HLO4 := hide (V.Step.ge hst4 HLO3.out HBEL3.out.size)
          have HBEL4 := hide (HBEL3.out.trans (hst4.below HLO3.out HBEL3.out.size))
          have HDEV4 := hide hdev4
          have y2 : w4.cell? ⟨wr.heap.size, 2, none⟩ = some (.int .i64 k) := HSX4.out.2 2 (by simp)
          have y3 : w4.cell? ⟨wr.heap.size, 3, none⟩ = some (.int .i64 i) := HSX4.out.2 3 (by simp)
          have y4 : w4.cell? ⟨wr.heap.size, 4, none⟩ = some (.int .u64 (t : Int)) := HSX4.out.2 4 (by simp)
          have y5 : w4.cell? ⟨wr.heap.size, 5, none⟩ = some (.int .i64 c) := HSX4.out.2 5 (by simp)
          have y6 : w4.cell? ⟨wr.heap.size, 6, none⟩ = some (.string b) := HSX4.out.2 6 (by simp)
          clear hdev4 hst4 HSX3 HNF3 HROW3 HOFF3 HLO3 HBEL3
          have PU := put_any W0.heap.size L (.slice va L.length vc) ⟨k, i, t, c, b⟩ w4 HROW4.out (by omega)
          have HPU : Hid (Calls Tryd.prog 12 #[.slice va L.length vc, .agg #[.int .i64 k, .int .i64 i, .int .u64 (t : Int), .int .i64 c, .string b]] w4 fun e w' => ∃ g cap, e = .returned (.slice (some ⟨g, 0, none⟩) (putL L ⟨k, i, t, c, b⟩).length cap) ∧ w'.ownsRow w4.heap.size 31 5 (.slice (some ⟨g, 0, none⟩) (putL L ⟨k, i, t, c, b⟩).length cap) (putL L ⟨k, i, t, c, b⟩).length (shCells (putL L ⟨k, i, t, c, b⟩)) ∧ Below w4.heap.size w4 w') := PU
          clear PU
          have HHELD := hide (INV2.out.held.put ⟨k, i, t, c, b⟩ HMAY.out HTX.out HFIT.out)
          have HLPOS : Hid (0 < (putL L ⟨k, i, t, c, b⟩).length) := by show _ < _; simp [putL]
          go_wp2_with fail
          refine Calls.mono HPU.out ?_
          rintro e w5 ⟨g5, cap5, rfl, hrow5, hb5⟩
          have HI5 : Hid (LInv W0 sz db w5 (.slice (some ⟨g5, 0, none⟩) (putL L ⟨k, i, t, c, b⟩).length cap5) (putL L ⟨k, i, t, c, b⟩) (syncedD d ⟨k, i, t, c, b⟩) F4) := ⟨owns_base hrow5 HBEL4.out.size, HDEV4.out.below hb5, HHELD.out, HLO4.out, fun q hq hf => by
            have h1 := (V.owns_blk hrow5 q hq).1
            have h2 := HDEV4.out.lt q hf
            omega, Below.next HBEL4.out hb5⟩
          have HSX5 := hide (HSX4.out.below hb5)
          clear y2 y3 y4 y5 y6 hrow5 hb5 HSX4 HROW4 HLO4 HBEL4 HDEV4 HHELD INV INV2 HSX HNF HNFA
          generalize syncedD d ⟨k, i, t, c, b⟩ = d5 at *
          generalize hL2 : putL L ⟨k, i, t, c, b⟩ = L2 at *
          clear hL2
          have hL2len : L2.length ≤ 512 := HI5.out.held.len hsz3
          generalize wr.heap.size = bx at *
          go_wp2_with fail
          go_loopw [10, 11] (fun u10 u11 wq => ∃ (q : Nat) (dq : V.Dev), q ≤ L2.length ∧ u10 = .int .i64 q ∧ u11 = .int .i64 q ∧ LInv W0 sz db wq (.slice (some ⟨g5, 0, none⟩) L2.length cap5) L2 dq F4 ∧ Boxed bx [.int .i64 1, .int .i64 nn, .int .i64 k, .int .i64 i, .int .u64 (t : Int), .int .i64 c, .string b, .string dat, .slice fa fm fc] wq) (fun _ u11 _ => L2.length - (intOf u11).toNat)
          case atStart => exact ⟨0, d5, Nat.zero_le _, rfl, rfl, HI5.out, HSX5.out⟩
          case round =>
            obtain ⟨q, dq, hq, rfl, rfl, invq, hbxq⟩ := hrel
            have INVQ := hide invq
            have HBXQ := hide hbxq
            clear invq hbxq HI5 HSX5
            by_cases hlq : q < L2.length
            · -- one sheet more
              obtain ⟨e0, e1, e2, e3, e4⟩ := sheet_cells INVQ.out.row q hlq
              obtain ⟨hmq, htq, hfq, hrq⟩ := INVQ.out.held.at' _ (List.getElem_mem hlq)
              obtain ⟨tt, htt⟩ : ∃ tt, tt = L2[q] := ⟨_, rfl⟩
              rw [← htt] at e0 e1 e2 e3 e4 hmq htq hfq hrq
              have HTT := hide htt
              clear htt
              obtain ⟨k2, i2, t2, c2, b2⟩ := tt
              simp only at e0 e1 e2 e3 e4
              have LD := load_any W0.heap.size A db F4 dq ⟨k2, i2, t2, c2, b2⟩ wr hmq htq INVQ.out.dev (((HE.out.up HB.out).base (Nat.le_of_lt HSZ.out) (Nat.le_refl _)).keep INVQ.out.bel) INVQ.out.lo INVQ.out.held.dead (by rw [INVQ.out.held.size]; exact hfq) hrq
              have HLD : Hid (Calls Tryd.prog 13 #[.pointer (some ⟨db, 0, none⟩), .int .i64 i2] wr fun e w' => e = .returned (.tuple #[.agg #[.int .i64 k2, .int .i64 i2, .int .u64 (t2 : Int), .int .i64 c2, .string b2], .nilIface]) ∧ V.DevAt w' db F4 (loadedD dq) ∧ V.Step F4 F4 wr w') := LD
              clear LD hmq htq hfq hrq
              have hq0 : (0 : Int) ≤ (q : Int) := by omega
              have hqL : (q : Int) < (L2.length : Int) := by omega
              go_wp2_with fail
              refine Calls.mono HLD.out ?_
              rintro e w6 ⟨rfl, hdev6, hst6⟩
              have INV6 := hide (INVQ.out.step hst6 hdev6 INVQ.out.held.loaded)
              have HBX6 := hide (HBXQ.out.step hst6 HNF4.out)
              have hbn := below_new w6 (.cells #[.int .i64 k2, .int .i64 i2, .int .u64 (t2 : Int), .int .i64 c2, .string b2] 31)
              have INV7 := hide (INV6.out.up hbn)
              have HBX7 := hide (HBX6.out.below hbn)
              obtain ⟨f0, f1, f2, f3, f4⟩ := sheet_cells INV7.out.row q hlq
              rw [← HTT.out] at f0 f1 f2 f3 f4
              simp only at f0 f1 f2 f3 f4
              have hneq : ∀ w, (binOp .neq 31 (.agg #[.int .i64 k2, .int .i64 i2, .int .u64 (t2 : Int), .int .i64 c2, .string b2]) (.agg #[.int .i64 k2, .int .i64 i2, .int .u64 (t2 : Int), .int .i64 c2, .string b2])).run Tryd.prog w = .ok (.bool false) w := fun w => sh_nself w k2 i2 (t2 : Int) c2 b2
              clear e0 e1 e2 e3 e4 hdev6 hst6 hbn HLD INV6 INVQ HBX6 HBXQ HTT
              go_wp2_with fail
              generalize hw7 : w6.alloc (.cells #[.int .i64 k2, .int .i64 i2, .int .u64 (t2 : Int), .int .i64 c2, .string b2] 31) = w7 at *
              have g0 : w7.cell? ⟨w6.heap.size, 0, none⟩ = some (.int .i64 k2) := by rw [← hw7]; exact (boxed_new w6 #[.int .i64 k2, .int .i64 i2, .int .u64 (t2 : Int), .int .i64 c2, .string b2] 31).2 0 (by simp)
              have g1 : w7.cell? ⟨w6.heap.size, 1, none⟩ = some (.int .i64 i2) := by rw [← hw7]; exact (boxed_new w6 #[.int .i64 k2, .int .i64 i2, .int .u64 (t2 : Int), .int .i64 c2, .string b2] 31).2 1 (by simp)
              have g2 : w7.cell? ⟨w6.heap.size, 2, none⟩ = some (.int .u64 (t2 : Int)) := by rw [← hw7]; exact (boxed_new w6 #[.int .i64 k2, .int .i64 i2, .int .u64 (t2 : Int), .int .i64 c2, .string b2] 31).2 2 (by simp)
              have g3 : w7.cell? ⟨w6.heap.size, 3, none⟩ = some (.int .i64 c2) := by rw [← hw7]; exact (boxed_new w6 #[.int .i64 k2, .int .i64 i2, .int .u64 (t2 : Int), .int .i64 c2, .string b2] 31).2 3 (by simp)
              have g4 : w7.cell? ⟨w6.heap.size, 4, none⟩ = some (.string b2) := by rw [← hw7]; exact (boxed_new w6 #[.int .i64 k2, .int .i64 i2, .int .u64 (t2 : Int), .int .i64 c2, .string b2] 31).2 4 (by simp)
              clear hw7
              go_quiet (fail)
              go_wp2_with fail
              go_roundw
              case rel => exact ⟨q + 1, loadedD dq, by omega, by go_num, by go_num, INV7.out.up (below_drewN (Below.refl _ _) _), HBX7.out.below (below_drewN (Below.refl _ _) _)⟩
              case measure => simp [intOf]; omega
            · have hqe : q = L2.length := by omega
              subst hqe
              have z8 : wr.cell? ⟨bx, 8, none⟩ = some (.slice fa fm fc) := HBXQ.out.2 8 (by simp)
              have HBWQ : Hid (Below w.heap.size w wr) := HB.out.trans (INVQ.out.bel.mono (Nat.le_of_lt HSZ.out))
              have CR := V.crash_none db F4 dq wr INVQ.out.dev INVQ.out.held.pend INVQ.out.held.dead (.slice fa fm fc) (HFR.out.below HBWQ.out)
              have HCR : Hid (Calls Tryd.prog 14 #[.pointer (some ⟨db, 0, none⟩), .slice fa fm fc] wr fun e w' => e = .returned (.tuple #[]) ∧ ∃ F', V.DevAt w' db F' { dq with dead := true } ∧ V.Step F4 F' wr w') := CR
              clear CR
              go_wp2_with fail
              refine Calls.mono HCR.out ?_
              rintro e w7 ⟨rfl, F7, hdev7, hst7⟩
              have RV := V.revive_any db F7 { dq with dead := true } w7 hdev7
              have HRV : Hid (Calls Tryd.prog 15 #[.pointer (some ⟨db, 0, none⟩)] w7 fun e w' => e = .returned (.tuple #[]) ∧ V.DevAt w' db F7 (againD dq) ∧ V.Step F7 F7 w7 w') := RV
              have HST7 := hide hst7
              clear RV hdev7 hst7 z8
              go_wp2_with fail
              refine Calls.mono HRV.out ?_
              rintro e w8 ⟨rfl, hdev8, hst8⟩
              have INV8 := hide (INVQ.out.step (HST7.out.trans hst8) hdev8 INVQ.out.held.again)
              have hp1 : ((L2.length : Int) != (L2.length : Int)) = false := by simp
              have hp2 : ((L2.length : Int) == 0) = false := beq_eq_false_iff_ne.2 (by have := HLPOS.out; omega)
              clear hdev8 hst8 HST7 HRV HCR INVQ HBXQ
              go_wp2_with fail
              go_roundw
              case rel => exact ⟨j + 1, L2, againD dq, F7, by omega, by go_num, INV8.out⟩
              case measure => simp [intOf]; omega
        · have INV3 := hide (INV2.out.up hb3)
          clear hb3
          go_wp2_with fail
          go_roundw
          case rel => exact ⟨j + 1, L, d, F, by omega, by go_num, INV3.out⟩
          case measure => simp [intOf]; omega
      · have hkd : ((kd : Int) != 1) = true := by rw [bne_iff_ne]; exact hk1
        clear hk1
        go_wp2_with fail
        go_roundw
        case rel => exact ⟨j + 1, L, d, F, by omega, by go_num, INV2.out⟩
        case measure => simp [intOf]; omega
    · clear hLlen
      have hLlen2 : L.length ≤ 512 := INV.out.held.len hsz3
      go_wp2_with fail
      go_loopw [14] (fun u14 wq => ∃ (q : Nat) (dq : V.Dev), q ≤ L.length ∧ u14 = .int .i64 q ∧ LInv W0 sz db wq (.slice va L.length vc) L dq F) (fun u14 _ => L.length - (intOf u14).toNat)
      case atStart => exact ⟨0, d, Nat.zero_le _, rfl, INV.out⟩
      case round =>
        obtain ⟨q, dq, hq, rfl, invq⟩ := hrel
        have INVQ := hide invq
        clear invq INV x1
        by_cases hlq : q < L.length
        · obtain ⟨g5, cap5, he, _, _⟩ := INVQ.out.row.form (by omega)
          cases he
          obtain ⟨e0, e1, e2, e3, e4⟩ := sheet_cells INVQ.out.row q hlq
          obtain ⟨hmq, htq, hfq, hrq⟩ := INVQ.out.held.at' _ (List.getElem_mem hlq)
          obtain ⟨tt, htt⟩ : ∃ tt, tt = L[q] := ⟨_, rfl⟩
          rw [← htt] at e0 e1 e2 e3 e4 hmq htq hfq hrq
          have HTT := hide htt
          clear htt
          obtain ⟨k2, i2, t2, c2, b2⟩ := tt
          simp only at e0 e1 e2 e3 e4
          have LD := load_any W0.heap.size A db F dq ⟨k2, i2, t2, c2, b2⟩ wr hmq htq INVQ.out.dev (((HE.out.up HB.out).base (Nat.le_of_lt HSZ.out) (Nat.le_refl _)).keep INVQ.out.bel) INVQ.out.lo INVQ.out.held.dead (by rw [INVQ.out.held.size]; exact hfq) hrq
          have HLD : Hid (Calls Tryd.prog 13 #[.pointer (some ⟨db, 0, none⟩), .int .i64 i2] wr fun e w' => e = .returned (.tuple #[.agg #[.int .i64 k2, .int .i64 i2, .int .u64 (t2 : Int), .int .i64 c2, .string b2], .nilIface]) ∧ V.DevAt w' db F (loadedD dq) ∧ V.Step F F wr w') := LD
          clear LD hmq htq hfq hrq
          have hq0 : (0 : Int) ≤ (q : Int) := by omega
          have hqL : (q : Int) < (L.length : Int) := by omega
          go_wp2_with fail
          refine Calls.mono HLD.out ?_
          rintro e w6 ⟨rfl, hdev6, hst6⟩
          have INV6 := hide (INVQ.out.step hst6 hdev6 INVQ.out.held.loaded)
          have hbn := below_new w6 (.cells #[.int .i64 k2, .int .i64 i2, .int .u64 (t2 : Int), .int .i64 c2, .string b2] 31)
          have INV7 := hide (INV6.out.up hbn)
          obtain ⟨f0, f1, f2, f3, f4⟩ := sheet_cells INV7.out.row q hlq
          rw [← HTT.out] at f0 f1 f2 f3 f4
          simp only at f0 f1 f2 f3 f4
          have hneq : ∀ w, (binOp .neq 31 (.agg #[.int .i64 k2, .int .i64 i2, .int .u64 (t2 : Int), .int .i64 c2, .string b2]) (.agg #[.int .i64 k2, .int .i64 i2, .int .u64 (t2 : Int), .int .i64 c2, .string b2])).run Tryd.prog w = .ok (.bool false) w := fun w => sh_nself w k2 i2 (t2 : Int) c2 b2
          clear e0 e1 e2 e3 e4 hdev6 hst6 hbn HLD INV6 INVQ  HTT
          go_wp2_with fail
          generalize hw7 : w6.alloc (.cells #[.int .i64 k2, .int .i64 i2, .int .u64 (t2 : Int), .int .i64 c2, .string b2] 31) = w7 at *
          have g0 : w7.cell? ⟨w6.heap.size, 0, none⟩ = some (.int .i64 k2) := by rw [← hw7]; exact (boxed_new w6 #[.int .i64 k2, .int .i64 i2, .int .u64 (t2 : Int), .int .i64 c2, .string b2] 31).2 0 (by simp)
          have g1 : w7.cell? ⟨w6.heap.size, 1, none⟩ = some (.int .i64 i2) := by rw [← hw7]; exact (boxed_new w6 #[.int .i64 k2, .int .i64 i2, .int .u64 (t2 : Int), .int .i64 c2, .string b2] 31).2 1 (by simp)
          have g2 : w7.cell? ⟨w6.heap.size, 2, none⟩ = some (.int .u64 (t2 : Int)) := by rw [← hw7]; exact (boxed_new w6 #[.int .i64 k2, .int .i64 i2, .int .u64 (t2 : Int), .int .i64 c2, .string b2] 31).2 2 (by simp)
          have g3 : w7.cell? ⟨w6.heap.size, 3, none⟩ = some (.int .i64 c2) := by rw [← hw7]; exact (boxed_new w6 #[.int .i64 k2, .int .i64 i2, .int .u64 (t2 : Int), .int .i64 c2, .string b2] 31).2 3 (by simp)
          have g4 : w7.cell? ⟨w6.heap.size, 4, none⟩ = some (.string b2) := by rw [← hw7]; exact (boxed_new w6 #[.int .i64 k2, .int .i64 i2, .int .u64 (t2 : Int), .int .i64 c2, .string b2] 31).2 4 (by simp)
          clear hw7
          go_quiet (fail)
          go_wp2_with fail
          go_roundw
          case rel => exact ⟨q + 1, loadedD dq, by omega, by go_num, INV7.out.up (below_drewN (Below.refl _ _) _)⟩
          case measure => simp [intOf]; omega
        · have HBF : Hid (Below w.heap.size w wr) := HB.out.trans (INVQ.out.bel.mono (Nat.le_of_lt HSZ.out))
          go_wp2_with fail
          go_ret
          exact ⟨rfl, HBF.out⟩

end Go.Proofs.YtmifadjgmjnkgaaDoor
