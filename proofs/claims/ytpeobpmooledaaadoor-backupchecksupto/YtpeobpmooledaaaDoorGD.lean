import Derived.Test.YtpeobpmooledaaaDoorBKit
import Derived.Test.YtpeobpmooledaaaDoorGC
namespace Go.Proofs.YtpeobpmooledaaaDoor
open Go.RowKit
attribute [local go_sem ↓] Go.wp_at_zero Go.wp_at_succ

theorem arC_row (a : Ar) (vi vp : Value) (w : World) : RowAt (w.alloc (.cells (arC a vi vp) 29)) w.heap.size (arC a vi vp) 29 := RowAt.new _ _ _
section
variable {w : World} {b : Nat} {a : Ar} {vi vp : Value} {t : TypeId}
theorem RowAt.a0 (h : RowAt w b (arC a vi vp) t) : w.cell? ⟨b, 0, none⟩ = some (.int .i64 a.pg) := h.cell 0 (by simp [arC])
theorem RowAt.a1 (h : RowAt w b (arC a vi vp) t) : w.cell? ⟨b, 1, none⟩ = some (.int .i64 a.rt) := h.cell 1 (by simp [arC])
theorem RowAt.a2 (h : RowAt w b (arC a vi vp) t) : w.cell? ⟨b, 2, none⟩ = some (.int .u64 (a.tx : Int)) := h.cell 2 (by simp [arC])
theorem RowAt.a3 (h : RowAt w b (arC a vi vp) t) : w.cell? ⟨b, 3, none⟩ = some (.int .u64 (a.si : Int)) := h.cell 3 (by simp [arC])
theorem RowAt.a4 (h : RowAt w b (arC a vi vp) t) : w.cell? ⟨b, 4, none⟩ = some vi := h.cell 4 (by simp [arC])
theorem RowAt.a5 (h : RowAt w b (arC a vi vp) t) : w.cell? ⟨b, 5, none⟩ = some vp := h.cell 5 (by simp [arC])
theorem RowAt.a6 (h : RowAt w b (arC a vi vp) t) : w.cell? ⟨b, 6, none⟩ = some (.int .u32 (a.sum : Int)) := h.cell 6 (by simp [arC])
end

set_option maxHeartbeats 2000000 in
theorem bwhole_any (a : Ar) (vi vp : Value) (w : World) :
    Calls Tryd.prog 33 #[.agg (arC a vi vp)] w fun e w' => e = .returned (.bool (decide (a.si = 0))) ∧ Below w.heap.size w w' := by
  have HB := hide (below_new w (.cells (arC a vi vp) 29))
  have HD : Hid (((a.si : Int) == 0) = decide (a.si = 0)) := by show _ = _; rw [Bool.eq_iff_iff]; simp
  unfold arC at HB ⊢
  go_enter Tryd.func33, Tryd.ntmps33
  go_wp2
  go_ret
  exact ⟨by simp; exact HD.out, HB.out⟩

set_option maxHeartbeats 8000000 in
theorem bpages_any (a : Ar) (vi vp : Value) (w : World) (hf : ArFit a) (hr : RowR w vi (ints a.ids)) :
    Calls Tryd.prog 16 #[.agg (arC a vi vp)] w fun e w' => e = .returned (.bool (pgOk 2 a.pg a.ids)) ∧ Below w.heap.size w w' := by
  obtain ⟨W1, hW1⟩ : ∃ W1, w.alloc (.cells (arC a vi vp) 29) = W1 := ⟨_, rfl⟩
  have x1 : RowAt W1 w.heap.size (arC a vi vp) 29 := by rw [← hW1]; exact arC_row _ _ _ _
  have hb1 : Below w.heap.size w W1 := by rw [← hW1]; exact below_new w _
  have HX := hide x1
  have HB1 := hide hb1
  have HR := hide (hr.below hb1)
  obtain ⟨x, cap, hv, -⟩ := hr
  have HW : Hid (w.alloc (.cells #[.int .i64 a.pg, .int .i64 a.rt, .int .u64 (a.tx : Int), .int .u64 (a.si : Int), vi, vp, .int .u32 (a.sum : Int)] 29) = W1) := hW1
  obtain ⟨n, hn⟩ : ∃ n, n = a.ids.length := ⟨_, rfl⟩
  rw [ints_length, ← hn] at hv
  subst hv
  have HN := hide hn
  have HF := hide hf
  have hnb : n ≤ 1048640 := by rw [hn]; exact hf.ni
  have q0 := x1.a0
  have q4 := x1.a4
  obtain ⟨Q, hQ⟩ : ∃ Q : Ending → World → Prop, Q = fun e w' => e = .returned (.bool (pgOk 2 a.pg a.ids)) ∧ Below w.heap.size w w' := ⟨_, rfl⟩
  rw [← hQ]
  have HQ := hide hQ
  clear hQ hW1 hb1 x1 hn hf
  unfold arC
  go_enter Tryd.func16, Tryd.ntmps16
  go_wp2_with fail
  rw [HW.out]
  go_wp2
  go_loopw [3, 9] (fun c i wr => ∃ (k : Nat) (lo : Int), k ≤ n ∧ i = .int .i64 k ∧ c = .int .i64 lo ∧ (pgOk 2 a.pg a.ids = pgOk lo a.pg (a.ids.drop k)) ∧ wr = W1) (fun _ i _ => n - (intOf i).toNat)
  case atStart => exact ⟨0, 2, Nat.zero_le _, rfl, rfl, rfl, rfl⟩
  case round =>
    obtain ⟨k, lo, hk, rfl, rfl, he, rfl⟩ := hrel
    by_cases hlt : k < n
    · have hkl : k < a.ids.length := by have := HN.out; omega
      have hD : a.ids.drop k = a.ids[k] :: a.ids.drop (k + 1) := List.drop_eq_getElem_cons hkl
      obtain ⟨a9, cap9, he9, _, _, hc⟩ := HR.out
      obtain ⟨g, o, ha, hcell⟩ := hc k _ (ints_get a.ids k hkl)
      obtain ⟨rfl, -, rfl⟩ : x = a9 ∧ n = (ints a.ids).length ∧ cap = cap9 := by simpa using he9
      subst ha
      have hxb := HF.out.ids a.ids[k] (List.getElem_mem _)
      have hpb := HF.out.pg
      obtain ⟨y, hy⟩ : ∃ y, y = a.ids[k] := ⟨_, rfl⟩
      rw [hD, ← hy] at he
      rw [← hy] at hcell hxb
      have HE := hide he
      have hltI : (k : Int) < (n : Int) := by omega
      have j0 : (0 : Int) ≤ (k : Int) := by omega
      clear hc he9 hD hy he
      by_cases h1 : y < lo
      · have HO : Hid (pgOk 2 a.pg a.ids = false) := by show _ = _; rw [HE.out]; simp [pgOk, h1]
        go_wp2
        rw [HQ.out, HO.out]
        exact ⟨rfl, HB1.out⟩
      · by_cases h2 : a.pg ≤ y
        · have HO : Hid (pgOk 2 a.pg a.ids = false) := by show _ = _; rw [HE.out]; simp [pgOk, h2]
          go_wp2
          rw [HQ.out, HO.out]
          exact ⟨rfl, HB1.out⟩
        · have HO : Hid (pgOk 2 a.pg a.ids = pgOk (y + 1) a.pg (a.ids.drop (k + 1))) := by show _ = _; rw [HE.out]; simp [pgOk, h1, h2]
          have hwr : IntKind.i64.wrap (y + 1) = y + 1 := by rw [IntKind.wrap_i64]; omega
          clear HE
          go_wp2
          go_roundw
          case rel => exact ⟨k + 1, y + 1, by omega, by go_num, rfl, HO.out, trivial⟩
          case measure => simp [intOf]; omega
    · have hltI : ¬ (k : Int) < (n : Int) := by omega
      have hkn : k = n := by omega
      subst hkn
      have HO : Hid (pgOk 2 a.pg a.ids = true) := by show _ = _; rw [he, List.drop_of_length_le (Nat.le_of_eq HN.out.symm)]; rfl
      clear he
      go_wp2
      rw [HQ.out, HO.out]
      exact ⟨rfl, HB1.out⟩
end Go.Proofs.YtpeobpmooledaaaDoor

namespace Go.Proofs.YtpeobpmooledaaaDoor
open Go.RowKit
attribute [local go_sem ↓] Go.wp_at_zero Go.wp_at_succ

theorem own_mono {w : World} {b b2 n : Nat} {e : TypeId} {sz : Nat} {v : Value} {us : List Value} (h : w.ownsRow b e sz v n us) (hb : b2 ≤ b) : w.ownsRow b2 e sz v n us := by
  refine ⟨h.1, ?_⟩
  rcases h.2 with h' | ⟨g, cap, cur, h', h1, hr⟩
  · exact .inl h'
  · exact .inr ⟨g, cap, cur, h', Nat.le_trans hb h1, hr⟩
theorem rowSet4 {w : World} {B : Nat} {a : Ar} {v1 v2 : Value} (h : RowAt w B (arC a v1 v2) 29) (v : Value) : RowAt (w.setCell ⟨B, 4, none⟩ v) B (arC a v v2) 29 := Go.heap_setCell_same w B 4 _ 29 _ h
/-- What the law's copy of an archive is: its lists the call's own, with marks behind them in the same memory. -/
structure Arch (w : World) (base : Nat) (a : Ar) (gi ci gp cp : Nat) : Prop where
  own1 : IO w base (.slice (some ⟨gi, 0, none⟩) (a.ids.length + 64) ci) (a.ids ++ List.replicate 64 (-7))
  own2 : PcO w base (.slice (some ⟨gp, 0, none⟩) (a.pcs.length + 64) cp) (a.pcs ++ List.replicate 64 mkP)
  c1 : a.ids.length + 64 ≤ ci
  c2 : a.pcs.length + 64 ≤ cp
theorem Sole.keepM {rb : Nat} {w w' : World} {b : Nat} {cs : Array Value} {t : TypeId} (h : M.Sole rb w w') (hr : RowAt w b cs t) (hn : b ≠ rb) : RowAt w' b cs t := by
  unfold RowAt; rw [h.block b (RowAt.lt hr) hn]; exact hr
set_option maxRecDepth 100000 in
set_option maxHeartbeats 32000000 in
theorem larch_any (a : Ar) (vi vp : Value) (w : World) (hni : a.ids.length ≤ 1048640) (hnp : a.pcs.length ≤ 1048640) (hr : ArR w a vi vp) :
    Calls Tryd.prog 4 #[.agg (arC a vi vp)] w fun e w' => ∃ gi ci gp cp, e = .returned (.agg (arC a (.slice (some ⟨gi, 0, none⟩) a.ids.length ci) (.slice (some ⟨gp, 0, none⟩) a.pcs.length cp))) ∧ Arch w' w.heap.size a gi ci gp cp ∧ Below w.heap.size w w' := by
  obtain ⟨x, cap, hv, -⟩ := hr.ids
  obtain ⟨xp, capp, hvp⟩ := hr.pcs.form
  obtain ⟨n, hn⟩ : ∃ n, n = a.ids.length := ⟨_, rfl⟩
  obtain ⟨m, hm⟩ : ∃ m, m = a.pcs.length := ⟨_, rfl⟩
  rw [ints_length, ← hn] at hv
  rw [← hm] at hvp
  subst hv hvp
  obtain ⟨W3, hW3⟩ : ∃ W3, ((w.alloc (.cells (arC a (.slice x n cap) (.slice xp m capp)) 29)).alloc (.cells #[.int .i64 0, .int .i64 0, .int .u64 0, .int .u64 0, .slice none 0 0, .slice none 0 0, .int .u32 0] 29)).alloc (.cells (arC a (.slice none 0 0) (.slice none 0 0)) 29) = W3 := ⟨_, rfl⟩
  have hb3 : Below w.heap.size w W3 := by rw [← hW3]; exact Below.next (Below.next (below_new w _) (below_new _ _)) (below_new _ _)
  have hsz : W3.heap.size = w.heap.size + 3 := by rw [← hW3]; simp
  have xA : RowAt W3 w.heap.size (arC a (.slice x n cap) (.slice xp m capp)) 29 := by rw [← hW3]; exact ((arC_row _ _ _ _).below (below_new _ _)).below (below_new _ _)
  have xR : RowAt W3 (w.heap.size + 1) #[.int .i64 0, .int .i64 0, .int .u64 0, .int .u64 0, .slice none 0 0, .slice none 0 0, .int .u32 0] 29 := by
    rw [← hW3]
    have := RowAt.new (w.alloc (.cells (arC a (.slice x n cap) (.slice xp m capp)) 29)) #[.int .i64 0, .int .i64 0, .int .u64 0, .int .u64 0, .slice none 0 0, .slice none 0 0, .int .u32 0] 29
    rw [World.size_alloc] at this
    exact this.below (below_new _ _)
  have xB : RowAt W3 (w.heap.size + 1 + 1) (arC a (.slice none 0 0) (.slice none 0 0)) 29 := by
    rw [← hW3]
    have := arC_row a (.slice none 0 0) (.slice none 0 0) ((w.alloc (.cells (arC a (.slice x n cap) (.slice xp m capp)) 29)).alloc (.cells #[.int .i64 0, .int .i64 0, .int .u64 0, .int .u64 0, .slice none 0 0, .slice none 0 0, .int .u32 0] 29))
    rwa [World.size_alloc, World.size_alloc] at this
  have HW : Hid (((w.alloc (.cells #[.int .i64 a.pg, .int .i64 a.rt, .int .u64 (a.tx : Int), .int .u64 (a.si : Int), .slice x n cap, .slice xp m capp, .int .u32 (a.sum : Int)] 29)).alloc (.cells #[.int .i64 0, .int .i64 0, .int .u64 0, .int .u64 0, .slice none 0 0, .slice none 0 0, .int .u32 0] 29)).alloc (.cells #[.int .i64 a.pg, .int .i64 a.rt, .int .u64 (a.tx : Int), .int .u64 (a.si : Int), .slice none 0 0, .slice none 0 0, .int .u32 (a.sum : Int)] 29) = W3) := hW3
  clear hW3
  obtain ⟨B, hB⟩ : ∃ B, B = w.heap.size + 1 + 1 := ⟨_, rfl⟩
  have g0 : Gv W3 W3 B a (.slice none 0 0) (.slice none 0 0) [] [] := ⟨by rw [hB]; exact xB, World.ownsRow_nil _ _ _ _, PcO.nil _ _, M.Sole.refl _ _, by omega⟩
  have hBw : w.heap.size ≤ B := by omega
  have HAR : Hid (∀ U v1 v2 l1 l2, Gv W3 U B a v1 v2 l1 l2 → ArR U a (.slice x n cap) (.slice xp m capp)) := fun _ _ _ _ _ h => hr.below (h.sole.below hb3 hBw)
  have HRA : Hid (∀ U v1 v2 l1 l2, Gv W3 U B a v1 v2 l1 l2 → RowAt U w.heap.size (arC a (.slice x n cap) (.slice xp m capp)) 29) := fun _ _ _ _ _ h => Sole.keepM h.sole xA (by omega)
  have HRR : Hid (∀ U v1 v2 l1 l2, Gv W3 U B a v1 v2 l1 l2 → RowAt U (w.heap.size + 1) #[.int .i64 0, .int .i64 0, .int .u64 0, .int .u64 0, .slice none 0 0, .slice none 0 0, .int .u32 0] 29) := fun _ _ _ _ _ h => Sole.keepM h.sole xR (by omega)
  have HBL : Hid (∀ U v1 v2 l1 l2, Gv W3 U B a v1 v2 l1 l2 → Below w.heap.size w U) := fun _ _ _ _ _ h => h.sole.below hb3 hBw
  have HSZ := hide hsz
  obtain ⟨x5, c5, n5, U5, hrun5, hn5, row5, g5⟩ := g0.app1 _ a.ids (HAR.out _ _ _ _ _ g0).ids (by simp; omega)
  obtain ⟨x6, c6, n6, U6, hrun6, hn6, row6, g6⟩ := g5.app2 _ a.pcs (HAR.out _ _ _ _ _ g5).pcs (by simp; omega)
  have HG6 := hide g6
  have kA5 := (HRA.out _ _ _ _ _ g5).a5
  have kB5 := g5.row.a5
  have f5 := row5.free 4
  have f6 := row6.free 5
  have z5 : U5.cell? ⟨B, 4, none⟩ = some (.slice none 0 0) := row5.a4
  have z6 : U6.cell? ⟨B, 5, none⟩ = some (.slice none 0 0) := row6.a5
  rw [hB] at kA5 kB5 f5 f6 z5 z6 hrun6
  rw [← HW.out] at hrun5
  have HR5 := hide hrun5
  have HR6 := hide hrun6
  have HN5 : Hid (n5 = n) := by show _ = _; rw [hn5, hn]; simp
  have HN6 : Hid (n6 = m) := by show _ = _; rw [hn6, hm]; simp
  have HNI := hide hn
  have HNP := hide hm
  rw [← hn] at hni
  rw [← hm] at hnp
  have HBB := hide hB
  clear hB hn hm hr hb3 hsz xA xR xB g0 g5 g6 row5 row6 hrun5 hrun6 hn5 hn6
  unfold arC
  go_enter Tryd.func4, Tryd.ntmps4
  go_wp2_with (first
    | (at_builtin; refine wpList_append_run 25 rfl _ _ rfl rfl _ _ rfl rfl _ _ HR5.out ?_)
    | (at_builtin; refine wpList_append_run 26 rfl _ _ rfl rfl _ _ rfl rfl _ _ HR6.out ?_))
  rw [← HBB.out]
  clear HR5 HR6 kA5 kB5 f5 f6 z5 z6 HW
  go_loopw [4] (fun i wr => ∃ (q m1 d1 m2 d2 : Nat) (y1 y2 : Option Addr), q ≤ 64 ∧ i = .int .i64 q ∧ Hid (m1 = n + q) ∧ Hid (m2 = m + q) ∧ Hid (Gv W3 wr B a (.slice y1 m1 d1) (.slice y2 m2 d2) (a.ids ++ List.replicate q (-7)) (a.pcs ++ List.replicate q mkP))) (fun i _ => 64 - (intOf i).toNat)
  case atStart => exact ⟨0, n5, c5, n6, c6, x5, x6, Nat.zero_le _, rfl, by show _ = _; rw [HN5.out]; rfl, by show _ = _; rw [HN6.out]; rfl, by show Gv _ _ _ _ _ _ _ _; simpa using HG6.out⟩
  case round =>
    obtain ⟨q, m1, d1, m2, d2, y1, y2, hq, rfl, hm1, hm2, hg⟩ := hrel
    by_cases hlt : q < 64
    · have hltI : (q : Int) < 64 := by omega
      obtain ⟨V1, hV1⟩ : ∃ V1, wr.alloc (.cells #[.int .i64 (-7)] 3) = V1 := ⟨_, rfl⟩
      have hbv : Below wr.heap.size wr V1 := by rw [← hV1]; exact below_new _ _
      have gv := hg.out.below hbv
      have hrow7 : RowR V1 (.slice (some ⟨wr.heap.size, 0, none⟩) 1 1) (ints [-7]) := by rw [← hV1]; exact rowR_new wr #[.int .i64 (-7)] 3
      obtain ⟨x7, c7, n7, U7, hrun7, hn7, row7, g7⟩ := gv.app1 _ [-7] hrow7 (by rw [List.length_append, List.length_replicate, ← HNI.out]; simp; omega)
      rw [← hV1] at hrun7
      obtain ⟨V2, hV2⟩ : ∃ V2, (U7.setCell ⟨B, 4, none⟩ (.slice x7 n7 c7)).alloc (.cells #[.int .i64 (-7), .int .u64 0, .string ⟨#[]⟩] 38) = V2 := ⟨_, rfl⟩
      have hbv2 : Below (U7.setCell ⟨B, 4, none⟩ (.slice x7 n7 c7)).heap.size (U7.setCell ⟨B, 4, none⟩ (.slice x7 n7 c7)) V2 := by rw [← hV2]; exact below_new _ _
      have gv2 := g7.below hbv2
      have hsz7 : (U7.setCell ⟨B, 4, none⟩ (.slice x7 n7 c7)).heap.size = U7.heap.size := by simp [World.setCell]
      have hrow8 : PcR V2 (.slice (some ⟨U7.heap.size, 0, none⟩) 1 1) [mkP] := by
        rw [← hV2, ← hsz7]; exact pcR_lit _ mkP 38
      obtain ⟨x8, c8, n8, U8, hrun8, hn8, row8, g8⟩ := gv2.app2 _ [mkP] hrow8 (by rw [List.length_append, List.length_replicate, ← HNP.out]; simp; omega)
      rw [← hV2] at hrun8
      have HRUN7 := hide hrun7
      have HRUN8 := hide hrun8
      have HG8 : Hid (Gv W3 (U8.setCell ⟨B, 5, none⟩ (.slice x8 n8 c8)) B a (.slice x7 n7 c7) (.slice x8 n8 c8) (a.ids ++ List.replicate (q + 1) (-7)) (a.pcs ++ List.replicate (q + 1) mkP)) := by
        show Gv _ _ _ _ _ _ _ _
        rw [List.replicate_succ', List.replicate_succ', ← List.append_assoc, ← List.append_assoc]
        exact g8
      have HM7 : Hid (n7 = n + (q + 1)) := by show _ = _; rw [hn7, List.length_append, List.length_append, List.length_replicate, ← HNI.out]; simp; omega
      have HM8 : Hid (n8 = m + (q + 1)) := by show _ = _; rw [hn8, List.length_append, List.length_append, List.length_replicate, ← HNP.out]; simp; omega
      have k4 := hg.out.row.a4
      have z7 : U7.cell? ⟨B, 4, none⟩ = some (.slice y1 m1 d1) := row7.a4
      have z7b : U7.cell? ⟨B, 5, none⟩ = some (.slice y2 m2 d2) := row7.a5
      have f7 := row7.free 4
      have z8 : U8.cell? ⟨B, 5, none⟩ = some (.slice y2 m2 d2) := row8.a5
      have f8 := row8.free 5
      clear hV1 hbv gv hrow7 hrun7 hn7 row7 g7 hV2 hbv2 gv2 hsz7 hrow8 hrun8 hn8 row8 g8 hg hm1 hm2 HG6
      go_wp2_with (first
        | (at_builtin; refine wpList_append_run 25 rfl _ _ rfl rfl _ _ rfl rfl _ _ HRUN7.out ?_)
        | (at_builtin; refine wpList_append_run 26 rfl _ _ rfl rfl _ _ rfl rfl _ _ HRUN8.out ?_))
      go_wp2
      go_roundw
      case rel => exact ⟨q + 1, n7, c7, n8, c8, x7, x8, by omega, by go_num, HM7.out, HM8.out, HG8.out⟩
      case measure => simp [intOf]; omega
    · have hq64 : q = 64 := by omega
      subst hq64
      have hltI : ¬ ((64 : Nat) : Int) < 64 := by omega
      have e1 : m1 = n + 64 := hm1.out
      have e2 : m2 = m + 64 := hm2.out
      subst e1 e2
      have ho1 := hg.out.own1
      have ho2 := hg.out.own2
      have hl1 : (a.ids ++ List.replicate 64 (-7 : Int)).length = n + 64 := by rw [List.length_append, List.length_replicate, ← HNI.out]
      have hl2 : (a.pcs ++ List.replicate 64 mkP).length = m + 64 := by rw [List.length_append, List.length_replicate, ← HNP.out]
      unfold IO at ho1
      unfold PcO at ho2
      rw [hl1] at ho1
      rw [hl2] at ho2
      rcases ho1.2 with ⟨_, h0⟩ | ⟨g1, cap1, cur1, hv1, hb1, hh1, hc1, _⟩
      · omega
      rcases ho2.2 with ⟨_, h0⟩ | ⟨g2, cap2, cur2, hv2, hb2, hh2, hc2, _⟩
      · omega
      obtain ⟨rfl, -, rfl⟩ := Value.slice.inj hv1
      obtain ⟨rfl, -, rfl⟩ := Value.slice.inj hv2
      have HO1 := hide ho1
      have HO2 := hide ho2
      have HG := hide hg.out
      have r := hg.out.row
      have xr := HRR.out _ _ _ _ _ hg.out
      have xa := HRA.out _ _ _ _ _ hg.out
      have b0 := r.a0
      have b1 := r.a1
      have b2 := r.a2
      have b3 := r.a3
      have b4 := r.a4
      have b5 := r.a5
      have b6 := r.a6
      have s4 := xa.a4
      have s5 := xa.a5
      have fB4 := r.free 4
      have fB5 := r.free 5
      have i0 : (0 : Int) ≤ (n : Int) := by omega
      have i2 : n ≤ d1 := by omega
      have i3 : (n : Int) ≤ (d1 : Int) := by omega
      have j0 : (0 : Int) ≤ (m : Int) := by omega
      have j2 : m ≤ d2 := by omega
      have j3 : (m : Int) ≤ (d2 : Int) := by omega
      clear hv1 hv2 hh1 hh2 hm1 hm2 hg ho1 ho2 r HG6
      have HXR := hide xr
      have r0 := xr.cell 0 (by simp)
      have fr0 := xr.free 0
      have r1 := xr.cell 1 (by simp)
      have fr1 := xr.free 1
      have r2 := xr.cell 2 (by simp)
      have fr2 := xr.free 2
      have r3 := xr.cell 3 (by simp)
      have fr3 := xr.free 3
      have r4 := xr.cell 4 (by simp)
      have fr4 := xr.free 4
      have r5 := xr.cell 5 (by simp)
      have fr5 := xr.free 5
      have r6 := xr.cell 6 (by simp)
      have fr6 := xr.free 6
      simp only [List.getElem_toArray, List.getElem_cons_zero, List.getElem_cons_succ] at r0 r1 r2 r3 r4 r5 r6
      have hne1 : ¬ w.heap.size + 1 = B := by have := HBB.out; omega
      have hne2 : ¬ B = w.heap.size + 1 := by have := HBB.out; omega
      obtain ⟨Z, hZ⟩ : ∃ Z, (wr.setCell ⟨B, 4, none⟩ (.slice (some ⟨g1, 0, none⟩) n d1)).setCell ⟨B, 5, none⟩ (.slice (some ⟨g2, 0, none⟩) m d2) = Z := ⟨_, rfl⟩
      have xz : RowAt Z (w.heap.size + 1) #[.int .i64 0, .int .i64 0, .int .u64 0, .int .u64 0, .slice none 0 0, .slice none 0 0, .int .u32 0] 29 := by rw [← hZ]; exact (xr.other hne1 _).other hne1 _
      have HZ := hide hZ
      have HXZ := hide xz
      clear hZ xz xr xa
      have hkk : ∀ k, w.heap.size + 1 < k → B < k → ∀ y0 y1 y2 y3 y4 y5 y6, ((((((((Z.setCell ⟨w.heap.size + 1, 0, none⟩ y0).setCell ⟨w.heap.size + 1, 1, none⟩ y1).setCell ⟨w.heap.size + 1, 2, none⟩ y2).setCell ⟨w.heap.size + 1, 3, none⟩ y3).setCell ⟨w.heap.size + 1, 4, none⟩ y4).setCell ⟨w.heap.size + 1, 5, none⟩ y5).setCell ⟨w.heap.size + 1, 6, none⟩ y6)).heap[k]? = wr.heap[k]? := by
        intro k h1 h2 y0 y1 y2 y3 y4 y5 y6
        have hs := ((((((M.Sole.set (w.heap.size + 1) 0 Z y0).trans (M.Sole.set (w.heap.size + 1) 1 _ y1)).trans (M.Sole.set (w.heap.size + 1) 2 _ y2)).trans (M.Sole.set (w.heap.size + 1) 3 _ y3)).trans (M.Sole.set (w.heap.size + 1) 4 _ y4)).trans (M.Sole.set (w.heap.size + 1) 5 _ y5)).trans (M.Sole.set (w.heap.size + 1) 6 _ y6)
        have hz : Z.heap[k]? = wr.heap[k]? := by
          rw [← HZ.out]
          exact (Below.heap_setCell _ _ _ _ (fun e => by have e' : k = B := e; omega)).trans (Below.heap_setCell _ _ _ _ (fun e => by have e' : k = B := e; omega))
        by_cases hk : k < Z.heap.size
        · exact (hs.block k hk (by omega)).trans hz
        · have hz2 : wr.heap[k]? = none := by rw [← hz]; exact Array.getElem?_eq_none (by omega)
          rw [hz2]
          refine Array.getElem?_eq_none ?_
          have hq : ∀ (V : World) o (u : Value), (V.setCell ⟨w.heap.size + 1, o, none⟩ u).heap.size = V.heap.size := fun V o u => by simp [World.setCell]
          rw [hq, hq, hq, hq, hq, hq, hq]; omega
      have hbz : ∀ y0 y1 y2 y3 y4 y5 y6, Below w.heap.size w ((((((((Z.setCell ⟨w.heap.size + 1, 0, none⟩ y0).setCell ⟨w.heap.size + 1, 1, none⟩ y1).setCell ⟨w.heap.size + 1, 2, none⟩ y2).setCell ⟨w.heap.size + 1, 3, none⟩ y3).setCell ⟨w.heap.size + 1, 4, none⟩ y4).setCell ⟨w.heap.size + 1, 5, none⟩ y5).setCell ⟨w.heap.size + 1, 6, none⟩ y6)) := by
        intro y0 y1 y2 y3 y4 y5 y6
        have hz : Below w.heap.size w Z := by rw [← HZ.out]; exact (((HBL.out _ _ _ _ _ HG.out).setCell (p := ⟨B, 4, none⟩) hBw _).setCell (p := ⟨B, 5, none⟩) hBw _)
        have hl : w.heap.size ≤ w.heap.size + 1 := by omega
        exact (((((((hz.setCell (p := ⟨w.heap.size + 1, 0, none⟩) hl _).setCell (p := ⟨w.heap.size + 1, 1, none⟩) hl _).setCell (p := ⟨w.heap.size + 1, 2, none⟩) hl _).setCell (p := ⟨w.heap.size + 1, 3, none⟩) hl _).setCell (p := ⟨w.heap.size + 1, 4, none⟩) hl _).setCell (p := ⟨w.heap.size + 1, 5, none⟩) hl _).setCell (p := ⟨w.heap.size + 1, 6, none⟩) hl _)
      have HKK := hide hkk
      have HBZ := hide hbz
      have HB1 : Hid (W3.heap.size ≤ g1 ∧ W3.heap.size ≤ g2) := ⟨hb1, hb2⟩
      have HGL : Hid (B < W3.heap.size) := HG.out.lt
      have HC1 : Hid (n + 64 ≤ d1) := by show _ ≤ _; omega
      have HC2 : Hid (m + 64 ≤ d2) := by show _ ≤ _; omega
      clear hkk hbz hb1 hb2 hc1 hc2
      go_wp2_with fail
      rw [HZ.out, ← HNI.out, ← HNP.out]
      refine bodyPost_ret (results_one rfl _ _ (w.heap.size + 1) 29 _ (0, 0) _ rfl (rowSet7 HXZ.out _ _ _ _ _ _ _) Tryd.underlying29 rfl (by kernel_rfl)) rfl ?_
      refine ⟨g1, d1, g2, d2, rfl, ⟨?_, ?_, by rw [← HNI.out]; exact HC1.out, by rw [← HNP.out]; exact HC2.out⟩, HBZ.out _ _ _ _ _ _ _⟩
      · unfold IO
        rw [List.length_append, List.length_replicate, ← HNI.out]
        refine own_mono (own_kept HO1.out (fun k hk => HKK.out k ?_ ?_ _ _ _ _ _ _ _)) (by have := HSZ.out; omega)
        · have : g1 = k := (by simpa [Value.ownBlock] using hk); have := HB1.out.1; have := HSZ.out; omega
        · have : g1 = k := (by simpa [Value.ownBlock] using hk); have := HB1.out.1; have := HGL.out; omega
      · unfold PcO
        rw [List.length_append, List.length_replicate, ← HNP.out]
        refine own_mono (own_kept HO2.out (fun k hk => HKK.out k ?_ ?_ _ _ _ _ _ _ _)) (by have := HSZ.out; omega)
        · have : g2 = k := (by simpa [Value.ownBlock] using hk); have := HB1.out.2; have := HSZ.out; omega
        · have : g2 = k := (by simpa [Value.ownBlock] using hk); have := HB1.out.2; have := HGL.out; omega
end Go.Proofs.YtpeobpmooledaaaDoor
