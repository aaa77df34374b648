import Derived.Test.YtpeobpmooledaaaDoorGD
import Derived.ChangeKeysEq
import Derived.Deep.QuietTactic
import Derived.BigQuiet
namespace Go.Proofs.YtpeobpmooledaaaDoor
open Go.RowKit
attribute [local go_sem ↓] Go.wp_at_zero Go.wp_at_succ

theorem mt_under : Tryd.prog.underlying 24 = some (.struct (Tryd.prog.fieldsOf 24)) := by kernel_rfl
theorem mt_held : Tryd.prog.stoodInHeld 24 = false := by kernel_rfl
theorem pc_under : Tryd.prog.underlying 38 = some (.struct (Tryd.prog.fieldsOf 38)) := by kernel_rfl
theorem pc_held : Tryd.prog.stoodInHeld 38 = false := by kernel_rfl
set_option maxRecDepth 100000 in
set_option maxHeartbeats 1000000 in
theorem mt_self (w : World) (p r t : Int) : (binOp .eql 24 (.agg #[.int .i64 p, .int .i64 r, .int .u64 t]) (.agg #[.int .i64 p, .int .i64 r, .int .u64 t])).run Tryd.prog w = .ok (.bool true) w := by
  rw [run_eql_struct, run_equalIn_agg w 9999 24 _ _ mt_under mt_held]
  simp [go_sem]
theorem mt_nself (w : World) (p r t : Int) : (binOp .neq 24 (.agg #[.int .i64 p, .int .i64 r, .int .u64 t]) (.agg #[.int .i64 p, .int .i64 r, .int .u64 t])).run Tryd.prog w = .ok (.bool false) w := by
  have h := mt_self w p r t
  rw [run_eql_struct] at h
  rw [run_neq_struct]
  revert h
  generalize (Op.equalIn 10000 24 (.agg _) (.agg _)).run Tryd.prog w = r
  cases r with
  | ok v w' => intro h; simp [Result.andThen] at h ⊢; obtain ⟨rfl, rfl⟩ := h; simp
  | halt v w' => intro h; simp [Result.andThen] at h
set_option maxRecDepth 100000 in
set_option maxHeartbeats 1000000 in
theorem pc_self (w : World) (i t : Int) (s : ByteArray) : (binOp .eql 38 (.agg #[.int .i64 i, .int .u64 t, .string s]) (.agg #[.int .i64 i, .int .u64 t, .string s])).run Tryd.prog w = .ok (.bool true) w := by
  rw [run_eql_struct, run_equalIn_agg w 9999 38 _ _ pc_under pc_held]
  simp [go_sem]
theorem pc_nself (w : World) (i t : Int) (s : ByteArray) : (binOp .neq 38 (.agg #[.int .i64 i, .int .u64 t, .string s]) (.agg #[.int .i64 i, .int .u64 t, .string s])).run Tryd.prog w = .ok (.bool false) w := by
  have h := pc_self w i t s
  rw [run_eql_struct] at h
  rw [run_neq_struct]
  revert h
  generalize (Op.equalIn 10000 38 (.agg _) (.agg _)).run Tryd.prog w = r
  cases r with
  | ok v w' => intro h; simp [Result.andThen] at h ⊢; obtain ⟨rfl, rfl⟩ := h; simp
  | halt v w' => intro h; simp [Result.andThen] at h
set_option maxHeartbeats 4000000 in
theorem samei_same (v1 v2 : Value) (l : List Int) (w : World) (hm : l.length ≤ 140737488355328) (r1 : RowR w v1 (ints l)) (r2 : RowR w v2 (ints l)) :
    Calls Tryd.prog 23 #[v1, v2] w fun e w' => e = .returned (.bool true) ∧ Below w.heap.size w w' := by
  obtain ⟨a1, c1, rfl, -, -, h1⟩ := r1
  obtain ⟨a2, c2, rfl, -, -, h2⟩ := r2
  rw [ints_length]
  obtain ⟨n, hn⟩ : ∃ n, n = l.length := ⟨_, rfl⟩
  rw [← hn] at hm ⊢
  have H1 := hide h1
  have H2 := hide h2
  have HN := hide hn
  have hd0 : ((n : Int) != (n : Int)) = false := by simp
  obtain ⟨Q, hQ⟩ : ∃ Q : Ending → World → Prop, Q = fun e w' => e = .returned (.bool true) ∧ Below w.heap.size w w' := ⟨_, rfl⟩
  rw [← hQ]
  have HQ := hide hQ
  clear h1 h2 hn hQ
  go_enter Tryd.func23, Tryd.ntmps23
  go_wp2
  go_loopw [5] (fun i wr => ∃ k nq : Nat, k ≤ n ∧ i = .int .i64 k ∧ wr = w.drewN nq) (fun i _ => n - (intOf i).toNat)
  case atStart => exact ⟨0, 0, Nat.zero_le _, rfl, rfl⟩
  case round =>
    obtain ⟨k, nq, hk, rfl, rfl⟩ := hrel
    by_cases hlt : k < n
    · have hk1 : k < l.length := by have := HN.out; omega
      obtain ⟨g1, o1, rfl, f1⟩ := H1.out k _ (ints_get l k hk1)
      obtain ⟨g2, o2, rfl, f2⟩ := H2.out k _ (ints_get l k hk1)
      have j0 : (0 : Int) ≤ (k : Int) := Int.natCast_nonneg k
      have j1 : (k : Int) < (n : Int) := by omega
      generalize l[k] = x at *
      have hne : (x != x) = false := by simp
      clear H1 H2
      go_wp2
      go_quiet (fail)
      go_wp2
      go_roundw
      case rel => exact ⟨k + 1, _, by omega, by go_num, rfl⟩
      case measure => simp [intOf]; omega
    · have j1 : ¬ (k : Int) < (n : Int) := by omega
      clear H1 H2
      go_wp2
      rw [HQ.out]
      exact ⟨rfl, below_drewN' (Below.refl _ _) _⟩
set_option maxRecDepth 100000 in
set_option maxHeartbeats 16000000 in
theorem samea_same (a : Ar) (vi1 vp1 vi2 vp2 : Value) (w : World) (hni : a.ids.length ≤ 1048640) (hnp : a.pcs.length ≤ 1048640) (r1 : ArR w a vi1 vp1) (r2 : ArR w a vi2 vp2) :
    Calls Tryd.prog 11 #[.agg (arC a vi1 vp1), .agg (arC a vi2 vp2)] w fun e w' => e = .returned (.bool true) ∧ Below w.heap.size w w' := by
  obtain ⟨W1, hW1⟩ : ∃ W1, (w.alloc (.cells (arC a vi1 vp1) 29)).alloc (.cells (arC a vi2 vp2) 29) = W1 := ⟨_, rfl⟩
  have hb1 : Below w.heap.size w W1 := by rw [← hW1]; exact Below.next (below_new w _) (below_new _ _)
  have x1 : RowAt W1 w.heap.size (arC a vi1 vp1) 29 := by rw [← hW1]; exact (arC_row _ _ _ _).below (below_new _ _)
  have x2 : RowAt W1 (w.heap.size + 1) (arC a vi2 vp2) 29 := by
    rw [← hW1]
    have := arC_row a vi2 vp2 (w.alloc (.cells (arC a vi1 vp1) 29))
    rwa [World.size_alloc] at this
  have HS := hide (samei_same vi1 vi2 a.ids W1 (by omega) (r1.below hb1).ids (r2.below hb1).ids)
  have HB := hide hb1
  have HX1 := hide x1
  have HX2 := hide x2
  have R1 := hide (r1.below hb1).pcs
  have R2 := hide (r2.below hb1).pcs
  obtain ⟨y1, d1, hv1⟩ := r1.pcs.form
  obtain ⟨y2, d2, hv2⟩ := r2.pcs.form
  obtain ⟨m, hm⟩ : ∃ m, m = a.pcs.length := ⟨_, rfl⟩
  rw [← hm] at hv1 hv2
  subst hv1 hv2
  obtain ⟨x1v, e1, hw1, -⟩ := r1.ids
  obtain ⟨x2v, e2, hw2, -⟩ := r2.ids
  subst hw1 hw2
  generalize (ints a.ids).length = n at *
  have HM := hide hm
  have hmb : m ≤ 1048640 := by rw [hm]; exact hnp
  have HW : Hid ((w.alloc (.cells #[.int .i64 a.pg, .int .i64 a.rt, .int .u64 (a.tx : Int), .int .u64 (a.si : Int), .slice x1v n e1, .slice y1 m d1, .int .u32 (a.sum : Int)] 29)).alloc (.cells #[.int .i64 a.pg, .int .i64 a.rt, .int .u64 (a.tx : Int), .int .u64 (a.si : Int), .slice x2v n e2, .slice y2 m d2, .int .u32 (a.sum : Int)] 29) = W1) := hW1
  have hns := fun W => mt_nself W a.pg a.rt (a.tx : Int)
  have g1 : ((a.si : Int) != (a.si : Int)) = false := by simp
  have g2 : ((a.sum : Int) != (a.sum : Int)) = false := by simp
  have g3 : ((m : Int) != (m : Int)) = false := by simp
  obtain ⟨Q, hQ⟩ : ∃ Q : Ending → World → Prop, Q = fun e w' => e = .returned (.bool true) ∧ Below w.heap.size w w' := ⟨_, rfl⟩
  rw [← hQ]
  have HQ := hide hQ
  clear hQ hW1 hb1 x1 x2 hm r1 r2 hni hnp
  unfold arC
  go_enter Tryd.func11, Tryd.ntmps11
  go_wp2_with fail
  rw [HW.out]
  clear HW
  refine HS.out.mono ?_
  rintro e W2 ⟨rfl, hb2⟩
  have HB2 := hide (Below.next HB.out hb2)
  have xx1 := HX1.out.below hb2
  have xx2 := HX2.out.below hb2
  have p0 := xx1.a0
  have p1 := xx1.a1
  have p2 := xx1.a2
  have p3 := xx1.a3
  have p5 := xx1.a5
  have p6 := xx1.a6
  have q0 := xx2.a0
  have q1 := xx2.a1
  have q2 := xx2.a2
  have q3 := xx2.a3
  have q5 := xx2.a5
  have q6 := xx2.a6
  have R1 := hide (R1.out.below hb2)
  have R2 := hide (R2.out.below hb2)
  clear hb2 HS HX1 HX2 xx1 xx2
  go_wp2
  clear p0 p1 p2 p3 p6 q0 q1 q2 q3 q6 hns g1 g2
  go_loopw [6] (fun i wr => ∃ k nq : Nat, k ≤ m ∧ i = .int .i64 k ∧ wr = W2.drewN nq) (fun i _ => m - (intOf i).toNat)
  case atStart => exact ⟨0, 0, Nat.zero_le _, rfl, rfl⟩
  case round =>
    obtain ⟨k, nq, hk, rfl, rfl⟩ := hrel
    by_cases hlt : k < m
    · have hk1 : k < a.pcs.length := by have := HM.out; omega
      obtain ⟨a9, cap9, he9, _, _, hc1⟩ := R1.out
      obtain ⟨a8, cap8, he8, _, _, hc2⟩ := R2.out
      obtain ⟨g1, o1, rfl, c0, c1, c2⟩ := hc1 k hk1
      obtain ⟨g2, o2, rfl, d0, d1', d2'⟩ := hc2 k hk1
      obtain ⟨rfl, -, rfl⟩ := Value.slice.inj he9
      obtain ⟨rfl, -, rfl⟩ := Value.slice.inj he8
      have j0 : (0 : Int) ≤ (k : Int) := Int.natCast_nonneg k
      have j1 : (k : Int) < (m : Int) := by omega
      generalize a.pcs[k] = y at *
      obtain ⟨yi, yt, ys⟩ := y
      simp only at c0 c1 c2 d0 d1' d2'
      have hnp := fun W => pc_nself W yi (yt : Int) ys
      clear hc1 hc2 he9 he8
      go_wp2
      go_quiet (fail)
      go_wp2
      go_roundw
      case rel => exact ⟨k + 1, _, by omega, by go_num, rfl⟩
      case measure => simp [intOf]; omega
    · have j1 : ¬ (k : Int) < (m : Int) := by omega
      go_wp2
      rw [HQ.out]
      exact ⟨rfl, below_drewN' HB2.out _⟩
end Go.Proofs.YtpeobpmooledaaaDoor

namespace Go.Proofs.YtpeobpmooledaaaDoor
open Go.RowKit
attribute [local go_sem ↓] Go.wp_at_zero Go.wp_at_succ

theorem Arch.below {w w' : World} {base : Nat} {a : Ar} {gi ci gp cp : Nat} (h : Arch w base a gi ci gp cp) (hb : Below w.heap.size w w') : Arch w' base a gi ci gp cp :=
  ⟨own_kept h.own1 (fun k hk => hb.block k (own_kind h.own1 k hk).2.1), own_kept h.own2 (fun k hk => hb.block k (own_kind h.own2 k hk).2.1), h.c1, h.c2⟩
theorem Arch.rd {w : World} {base : Nat} {a : Ar} {gi ci gp cp : Nat} (h : Arch w base a gi ci gp cp) : ArR w a (.slice (some ⟨gi, 0, none⟩) a.ids.length ci) (.slice (some ⟨gp, 0, none⟩) a.pcs.length cp) := by
  constructor
  · have h1 := (rowR_of_owns h.own1).take (m := a.ids.length) (by omega)
    rw [ints_append, List.take_left' (ints_length _)] at h1
    exact h1
  · have h1 := (PcR.of_owns h.own2).take (m := a.pcs.length) (by omega)
    rwa [List.take_left' rfl] at h1
set_option maxRecDepth 100000 in
set_option maxHeartbeats 16000000 in
theorem lunt_any (a : Ar) (base gi ci gp cp : Nat) (vi vp : Value) (w : World) (hni : a.ids.length ≤ 1048640) (hnp : a.pcs.length ≤ 1048640) (h : Arch w base a gi ci gp cp) (r2 : ArR w a vi vp) :
    Calls Tryd.prog 6 #[.agg (arC a (.slice (some ⟨gi, 0, none⟩) a.ids.length ci) (.slice (some ⟨gp, 0, none⟩) a.pcs.length cp)), .agg (arC a vi vp)] w fun e w' => e = .returned (.bool true) ∧ Below w.heap.size w w' := by
  obtain ⟨W1, hW1⟩ : ∃ W1, (w.alloc (.cells (arC a (.slice (some ⟨gi, 0, none⟩) a.ids.length ci) (.slice (some ⟨gp, 0, none⟩) a.pcs.length cp)) 29)).alloc (.cells (arC a vi vp) 29) = W1 := ⟨_, rfl⟩
  have hb1 : Below w.heap.size w W1 := by rw [← hW1]; exact Below.next (below_new w _) (below_new _ _)
  have x1 : RowAt W1 w.heap.size (arC a (.slice (some ⟨gi, 0, none⟩) a.ids.length ci) (.slice (some ⟨gp, 0, none⟩) a.pcs.length cp)) 29 := by rw [← hW1]; exact (arC_row _ _ _ _).below (below_new _ _)
  have x2 : RowAt W1 (w.heap.size + 1) (arC a vi vp) 29 := by
    rw [← hW1]
    have := arC_row a vi vp (w.alloc (.cells (arC a (.slice (some ⟨gi, 0, none⟩) a.ids.length ci) (.slice (some ⟨gp, 0, none⟩) a.pcs.length cp)) 29))
    rwa [World.size_alloc] at this
  have HS := hide (samea_same a _ _ vi vp W1 hni hnp (h.rd.below hb1) (r2.below hb1))
  have HB := hide hb1
  have HX1 := hide x1
  have HX2 := hide x2
  have HA := hide (h.below hb1)
  obtain ⟨yp, dp, hvp⟩ := r2.pcs.form
  obtain ⟨yi, di, hvi, -⟩ := r2.ids
  obtain ⟨n, hn⟩ : ∃ n, n = a.ids.length := ⟨_, rfl⟩
  obtain ⟨m, hm⟩ : ∃ m, m = a.pcs.length := ⟨_, rfl⟩
  have HC : Hid (n + 64 ≤ ci ∧ m + 64 ≤ cp) := by show _ ∧ _; rw [hn, hm]; exact ⟨h.c1, h.c2⟩
  rw [ints_length, ← hn] at hvi
  rw [← hm] at hvp
  rw [← hn, ← hm] at HX1 HS hW1 ⊢
  rw [← hn] at hni
  rw [← hm] at hnp
  subst hvi hvp
  have HN := hide hn
  have HM := hide hm
  have HW : Hid ((w.alloc (.cells #[.int .i64 a.pg, .int .i64 a.rt, .int .u64 (a.tx : Int), .int .u64 (a.si : Int), .slice (some ⟨gi, 0, none⟩) n ci, .slice (some ⟨gp, 0, none⟩) m cp, .int .u32 (a.sum : Int)] 29)).alloc (.cells #[.int .i64 a.pg, .int .i64 a.rt, .int .u64 (a.tx : Int), .int .u64 (a.si : Int), .slice yi n di, .slice yp m dp, .int .u32 (a.sum : Int)] 29) = W1) := hW1
  obtain ⟨Q, hQ⟩ : ∃ Q : Ending → World → Prop, Q = fun e w' => e = .returned (.bool true) ∧ Below w.heap.size w w' := ⟨_, rfl⟩
  rw [← hQ]
  have HQ := hide hQ
  clear hQ hW1 hb1 x1 x2 hn hm r2 h
  unfold arC at HS ⊢
  go_enter Tryd.func6, Tryd.ntmps6
  go_wp2_with fail
  rw [HW.out]
  clear HW
  refine HS.out.mono ?_
  rintro e W2 ⟨rfl, hb2⟩
  have HB2 := hide (Below.next HB.out hb2)
  have HA2 := hide (HA.out.below hb2)
  have HX1 := hide (HX1.out.below hb2)
  have HX2 := hide (HX2.out.below hb2)
  have p4 := HX1.out.a4
  have p5 := HX1.out.a5
  have q4 := HX2.out.a4
  have q5 := HX2.out.a5
  have w1 : IntKind.i64.wrap ((n : Int) + 64) = ((n + 64 : Nat) : Int) := by rw [IntKind.wrap_i64]; omega
  have w2 : IntKind.i64.wrap ((m : Int) + 64) = ((m + 64 : Nat) : Int) := by rw [IntKind.wrap_i64]; omega
  have i0 : (0 : Int) ≤ (n : Int) + 64 := by omega
  have i1 : (n : Int) + 64 ≤ (ci : Int) := by have := HC.out; omega
  have i2 : n + 64 ≤ ci := HC.out.1
  have j0 : (0 : Int) ≤ (m : Int) + 64 := by omega
  have j1 : (m : Int) + 64 ≤ (cp : Int) := by have := HC.out; omega
  have j2 : m + 64 ≤ cp := HC.out.2
  clear hb2 HS HA
  go_wp2
  go_loopw [8] (fun i wr => ∃ q : Nat, q ≤ 64 ∧ i = .int .i64 q ∧ wr = W2) (fun i _ => 64 - (intOf i).toNat)
  case atStart => exact ⟨0, Nat.zero_le _, rfl, rfl⟩
  case round =>
    obtain ⟨q, hq, rfl, rfl⟩ := hrel
    by_cases hlt : q < 64
    · have hltI : (q : Int) < 64 := by omega
      have q0 : (0 : Int) ≤ (q : Int) := by omega
      have c1 : wr.cell? ⟨gi, n + q, none⟩ = some (.int .i64 (-7)) := by
        obtain ⟨a9, cap9, he9, _, _, hc⟩ := rowR_of_owns HA2.out.own1
        have hi : (ints (a.ids ++ List.replicate 64 (-7)))[n + q]? = some (.int .i64 (-7)) := by
          rw [ints_append, List.getElem?_append_right (by rw [ints_length, ← HN.out]; omega), ints_length, ← HN.out, show n + q - n = q by omega]
          unfold ints
          rw [List.getElem?_map, List.getElem?_replicate, if_pos hlt]
          rfl
        obtain ⟨g, o, ha, h0⟩ := hc (n + q) _ hi
        obtain ⟨rfl, -, -⟩ := Value.slice.inj he9
        cases ha
        rwa [Nat.zero_add] at h0
      have c2 : wr.cell? ⟨gp, (m + q) * 3, none⟩ = some (.int .i64 (-7)) := by
        obtain ⟨a9, cap9, he9, _, _, hc⟩ := PcR.of_owns HA2.out.own2
        have hl : (a.pcs ++ List.replicate 64 mkP).length = m + 64 := by rw [List.length_append, List.length_replicate, ← HM.out]
        obtain ⟨g, o, ha, h0, -, -⟩ := hc (m + q) (by rw [hl]; omega)
        rw [← HM.out] at he9
        obtain ⟨rfl, -, -⟩ := Value.slice.inj he9
        cases ha
        rw [Nat.zero_add] at h0
        rw [h0, List.getElem_append_right (by rw [← HM.out]; omega), List.getElem_replicate]
        rfl
      have v1 : IntKind.i64.wrap ((n : Int) + (q : Int)) = ((n + q : Nat) : Int) := by rw [IntKind.wrap_i64]; omega
      have v2 : IntKind.i64.wrap ((m : Int) + (q : Int)) = ((m + q : Nat) : Int) := by rw [IntKind.wrap_i64]; omega
      have k0 : (0 : Int) ≤ (n : Int) + (q : Int) := by omega
      have k1 : (n : Int) + (q : Int) < (n : Int) + 64 := by omega
      have k2 : (0 : Int) ≤ (m : Int) + (q : Int) := by omega
      have k3 : (m : Int) + (q : Int) < (m : Int) + 64 := by omega
      go_wp2
      go_roundw
      case rel => exact ⟨q + 1, by omega, by go_num, trivial⟩
      case measure => simp [intOf]; omega
    · have hltI : ¬ (q : Int) < 64 := by omega
      go_wp2
      rw [HQ.out]
      exact ⟨rfl, HB2.out⟩
end Go.Proofs.YtpeobpmooledaaaDoor
