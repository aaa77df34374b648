import Derived.Test.YtnaedmmfiiebaaaGreatDoorG10
import Derived.Test.YtnaedmmfiiebaaaGreatDoorG01
import Derived.Deep.RegionHeld3
import Derived.Test.YtnaedmmfiiebaaaGreatDoorG00
namespace Go.Proofs.YtnaedmmfiiebaaaGreatDoor.B
open Go.RowKit

set_option maxRecDepth 20000 in
set_option maxHeartbeats 1000000 in
theorem bjoin_any (fa fb : Int) (key : ByteArray) (va vb : Value) (la lb : List Lk) (w : World) (hm : la.length + lb.length + 1 ≤ 5864062014805) (ha : LkR w va la) (hb : LkR w vb lb) :
    Calls Tryz.prog 165 #[.agg #[.int .i64 fa, va], .string key, .agg #[.int .i64 fb, vb]] w fun e w' => ∃ u, e = .returned (.agg #[.int .i64 fa, u]) ∧ LkO w' w.heap.size u (joinL la key fb lb) ∧ Below w.heap.size w w' := by
  obtain ⟨a1, c1, hv⟩ := ha.form
  subst hv
  obtain ⟨a2, c2, hv⟩ := hb.form
  subst hv
  obtain ⟨na, hna⟩ : ∃ n, n = la.length := ⟨_, rfl⟩
  obtain ⟨nb, hnb⟩ : ∃ n, n = lb.length := ⟨_, rfl⟩
  rw [← hna] at ha ⊢
  rw [← hnb] at hb ⊢
  have q1 := below_new w (.cells #[.int .i64 fa, .slice a1 na c1] 150)
  have x1 := RowAt.new w #[.int .i64 fa, .slice a1 na c1] 150
  have s1 : (w.alloc (.cells #[.int .i64 fa, .slice a1 na c1] 150)).heap.size = w.heap.size + 1 := by simp
  generalize hW1 : w.alloc (.cells #[.int .i64 fa, .slice a1 na c1] 150) = W1 at *
  have q2 := below_new W1 (.cells #[.int .i64 fb, .slice a2 nb c2] 150)
  have x2 := RowAt.new W1 #[.int .i64 fb, .slice a2 nb c2] 150
  have s2 : (W1.alloc (.cells #[.int .i64 fb, .slice a2 nb c2] 150)).heap.size = W1.heap.size + 1 := by simp
  generalize hW2 : W1.alloc (.cells #[.int .i64 fb, .slice a2 nb c2] 150) = W2 at *
  have q3 := below_new W2 (.cells #[.int .i64 0, .slice none 0 0] 150)
  have x3 := RowAt.new W2 #[.int .i64 0, .slice none 0 0] 150
  have s3 : (W2.alloc (.cells #[.int .i64 0, .slice none 0 0] 150)).heap.size = W2.heap.size + 1 := by simp
  generalize hW3 : W2.alloc (.cells #[.int .i64 0, .slice none 0 0] 150) = W3 at *
  have q4 := below_new W3 (.cells #[.string key, .int .i64 fb] 179)
  have x4 := lkR_lit W3 (key, fb) 179
  have s4 : (W3.alloc (.cells #[.string key, .int .i64 fb] 179)).heap.size = W3.heap.size + 1 := by simp
  generalize hW4 : W3.alloc (.cells #[.string key, .int .i64 fb] 179) = W4 at *
  have q5 := below_new W4 (.cells #[.slice a1 na c1, .slice (some ⟨W3.heap.size, 0, none⟩) 1 1, .slice a2 nb c2] 148)
  have x5 := boxed_new W4 #[.slice a1 na c1, .slice (some ⟨W3.heap.size, 0, none⟩) 1 1, .slice a2 nb c2] 148
  have s5 : (W4.alloc (.cells #[.slice a1 na c1, .slice (some ⟨W3.heap.size, 0, none⟩) 1 1, .slice a2 nb c2] 148)).heap.size = W4.heap.size + 1 := by simp
  generalize hW5 : W4.alloc (.cells #[.slice a1 na c1, .slice (some ⟨W3.heap.size, 0, none⟩) 1 1, .slice a2 nb c2] 148) = W5 at *
  have y1 := ((((x1.below q2).below q3).below q4))
  have y2 := ((x2.below q3).below q4)
  have y3 := (x3.below q4)
  have HCC : Hid (∀ W, Below W5.heap.size W5 W → Calls Tryz.prog 205 #[.slice (some ⟨W4.heap.size, 0, none⟩) 3 3] W fun e w' => ∃ ga gn gc, e = .returned (.slice ga gn gc) ∧ LkO w' W5.heap.size (.slice ga gn gc) (joinL la key fb lb) ∧ Below W5.heap.size W5 w') := fun W hW => by
    refine (kconcat_any W4.heap.size 3 3 [.slice a1 na c1, .slice (some ⟨W3.heap.size, 0, none⟩) 1 1, .slice a2 nb c2] [la, [(key, fb)], lb] W rfl (by decide) rfl ?_ (fun j h => (x5.below hW).2 j h) ?_).mono ?_
    · simp; omega
    · intro j h h'
      have hj : j < 3 := h
      match j, hj with
      | 0, _ => exact ((((((ha.below q1).below q2).below q3).below q4).below q5).below hW)
      | 1, _ => exact (x4.below q5).below hW
      | 2, _ => exact ((((((hb.below q1).below q2).below q3).below q4).below q5).below hW)
    · rintro e w' ⟨u, rfl, ho, hb⟩
      obtain ⟨ga, gc, hu⟩ := ho.form
      subst hu
      refine ⟨ga, _, gc, rfl, ?_, Below.next hW hb⟩
      have he : [la, [(key, fb)], lb].flatten = joinL la key fb lb := by simp [joinL]
      rw [he] at ho ⊢
      exact ho.mono hW.size
  have HQ := hide (Below.next q1 (Below.next q2 (Below.next q3 (Below.next q4 q5))))
  have HQ4 := hide (Below.next q1 (Below.next q2 (Below.next q3 q4)))
  have HY3 := hide (y3.below q5)
  have HS : Hid (W5.heap.size = w.heap.size + 5 ∧ W2.heap.size = w.heap.size + 2) := by show _ ∧ _; omega
  have HQ5 := hide q5
  have HY1 := hide y1
  have HY2 := hide y2
  have p1 : W4.cell? ⟨w.heap.size, 0, none⟩ = some (.int .i64 fa) := y1.c0
  have p2 : W4.cell? ⟨w.heap.size, 1, none⟩ = some (.slice a1 na c1) := y1.c1
  have p3 : W4.cell? ⟨W1.heap.size, 0, none⟩ = some (.int .i64 fb) := y2.c0
  have p4 : W4.cell? ⟨W1.heap.size, 1, none⟩ = some (.slice a2 nb c2) := y2.c1
  have p5 : W3.cell? ⟨W1.heap.size, 0, none⟩ = some (.int .i64 fb) := (x2.below q3).c0
  have r1 : W5.cell? ⟨w.heap.size, 0, none⟩ = some (.int .i64 fa) := (y1.below q5).c0
  have r2 : W5.cell? ⟨w.heap.size, 1, none⟩ = some (.slice a1 na c1) := (y1.below q5).c1
  have r3 : W5.cell? ⟨W1.heap.size, 1, none⟩ = some (.slice a2 nb c2) := (y2.below q5).c1
  have b1 : ¬ w.heap.size = W2.heap.size := by omega
  have b2 : ¬ W1.heap.size = W2.heap.size := by omega
  have b3 : ¬ W2.heap.size = w.heap.size := by omega
  have b4 : ¬ W2.heap.size = W1.heap.size := by omega
  clear q1 q2 q3 q4 q5 x1 x2 x3 x4 x5 y1 y2 y3 s1 s2 s3 s4 s5 ha hb hm hna hnb
  go_enter Tryz.func165, Tryz.ntmps165
  go_wp2_with fail
  go_region_held3 (fun w' => w'.cell? ⟨w.heap.size, 0, none⟩ = some (.int .i64 fa) ∧ w'.cell? ⟨w.heap.size, 1, none⟩ = some (.slice a1 na c1) ∧ w'.cell? ⟨W1.heap.size, 1, none⟩ = some (.slice a2 nb c2)) (go_keep)
    (first
      | (go_at_call 205; refine (HCC.out _ ?_).mono ?_; (exact (Below.refl _ _).drew); rintro e w3 ⟨ga, gn, gc, rfl, ho, hb⟩; have HO := hide ho; have HB := hide hb; have k1 : w3.cell? ⟨w.heap.size, 0, none⟩ = some (.int .i64 fa) := ((HY1.out.below HQ5.out).below hb).c0; have k2 : w3.cell? ⟨w.heap.size, 1, none⟩ = some (.slice a1 na c1) := ((HY1.out.below HQ5.out).below hb).c1; have k3 : w3.cell? ⟨W1.heap.size, 1, none⟩ = some (.slice a2 nb c2) := ((HY2.out.below HQ5.out).below hb).c1; have k4 : w3.cell? ⟨W2.heap.size, 0, none⟩ = some (.int .i64 0) := (HY3.out.below hb).c0; have k5 : w3.cell? ⟨W2.heap.size, 1, none⟩ = some (.slice none 0 0) := (HY3.out.below hb).c1; have z4 := (HY3.out.below hb).free 0; have z5 := (HY3.out.below hb).free 1; clear ho hb))
  all_goals
    clear HCC r1 r2 r3 p1 p2 p3 p4 p5 k1 k2 k3 k4 k5 z4 z5 b1 b2 b3 b4
    go_wp2_with fail
    refine bodyPost_ret (results_cell_row rfl _ _ W2.heap.size 150 _ (0, 0) _ rfl ((HY3.out.below HB.out).two _ _) Tryz.underlying150 rfl (by kernel_rfl)) rfl ⟨.slice ga gn gc, rfl, ?_, ?_⟩
    · exact (HO.out.put2 (by have := HS.out; omega) _ _).mono HQ.out.size
    · exact below_two (Below.next HQ.out HB.out) (by have := HS.out; omega)

end Go.Proofs.YtnaedmmfiiebaaaGreatDoor.B

namespace Go.Proofs.YtnaedmmfiiebaaaGreatDoor.T
open Go.RowKit

theorem two_cells (W : World) (a b : Value) (t : TypeId) : ∀ j (h : j < [a, b].length), (W.alloc (.cells #[a, b] t)).cell? ⟨W.heap.size, j, none⟩ = some [a, b][j] := fun j h => by
  have h1 := (boxed_new W #[a, b] t).2 j h
  exact h1
set_option maxRecDepth 20000 in
set_option maxHeartbeats 4000000 in
theorem join_leaf (ba bb : Nat) (na nb : SN) (pa la ca pb lb cb : Value) (key : ByteArray) (w : World) (ha : SNR w ba na pa la ca) (hb : SNR w bb nb pb lb cb) (h0 : na.us.length = 0) (hl : na.ps.length + nb.ps.length ≤ 4000) :
    Calls Tryz.prog 126 #[.pointer (some ⟨ba, 0, none⟩), .string key, .pointer (some ⟨bb, 0, none⟩)] w fun e w' => New w ⟨na.ps ++ nb.ps, 0, [], []⟩ e w' := by
  have HL := hide (isleaf_any ba na pa la ca w ha)
  rw [show decide (na.us.length = 0) = true by simp [h0]] at HL
  obtain ⟨xa, xc, hpa⟩ := ha.prs.form
  obtain ⟨ya, yc, hpb⟩ := hb.prs.form
  subst hpa hpb
  have p0 := ha.c0
  have p1 := hb.c0
  have HFA := hide ha.fine
  have HFB := hide hb.fine
  have HCC : Hid (∀ W, Below w.heap.size w W → Calls Tryz.prog 84 #[.slice (some ⟨W.heap.size, 0, none⟩) 2 2] (W.alloc (.cells #[.slice xa na.ps.length xc, .slice ya nb.ps.length yc] 63)) fun e w' => ∃ (ua : Option Addr) (uc : Nat), e = .returned (.slice ua (na.ps ++ nb.ps).length uc) ∧ PrO w' W.heap.size (.slice ua (na.ps ++ nb.ps).length uc) (na.ps ++ nb.ps) ∧ Below w.heap.size w w') := fun W hW => by
    have q := below_new W (.cells #[.slice xa na.ps.length xc, .slice ya nb.ps.length yc] 63)
    refine (concat_any W.heap.size 2 2 [.slice xa na.ps.length xc, .slice ya nb.ps.length yc] [na.ps, nb.ps] _ rfl (by decide) rfl (by simp; omega) (two_cells W _ _ _) (fun j h h' => ?_)).mono fun e w' ⟨u, h1, h2, h3⟩ => ?_
    · match j, h with
      | 0, _ => exact ((ha.prs.below hW).below q)
      | 1, _ => exact ((hb.prs.below hW).below q)
    · have e1 : [na.ps, nb.ps].flatten = na.ps ++ nb.ps := by simp
      rw [e1] at h2
      obtain ⟨ua, uc, hu⟩ := h2.form
      subst hu
      exact ⟨ua, uc, h1, h2.mono (by simp), Below.next (Below.next hW q) h3⟩
  have HLN : Hid ((∀ p ∈ na.ps ++ nb.ps, mayP p = true) ∧ (na.ps ++ nb.ps).length ≤ 4000) := ⟨fun p hp => by
    rcases List.mem_append.1 hp with h | h
    · exact ha.fine.1 p h
    · exact hb.fine.1 p h, by rw [List.length_append]; exact hl⟩
  obtain ⟨N, hN⟩ : ∃ N, N = (na.ps ++ nb.ps).length := ⟨_, rfl⟩
  rw [← hN] at HCC
  clear hN
  clear ha hb h0 hl
  go_enter Tryz.func126, Tryz.ntmps126
  go_wp2_with fail
  refine HL.out.mono ?_
  rintro e w1 ⟨rfl, rfl⟩
  clear HL
  go_wp2_with fail
  have f0 := World.new_ne w _ p0
  have f1 := World.new_ne w _ p1
  go_region_held3 (fun w' => w'.cell? ⟨ba, 0, none⟩ = some (.slice xa na.ps.length xc) ∧ w'.cell? ⟨bb, 0, none⟩ = some (.slice ya nb.ps.length yc)) (go_keep)
    (first
      | (go_at_call 84; refine (HCC.out _ (Below.refl _ _).drew).mono ?_; rintro e w3 ⟨ua, uc, rfl, ho3, hb3⟩; have m0 := (hb3.cell (p := ⟨ba, 0, none⟩) (World.block_lt_of_cell? w _ p0)).trans p0; have m1 := (hb3.cell (p := ⟨bb, 0, none⟩) (World.block_lt_of_cell? w _ p1)).trans p1; have HO3 := hide ho3; have HB3 := hide hb3; clear ho3 hb3))
  all_goals (
    have q := below_new w3 (.cells #[.slice ua N uc, .int .i64 0, .slice none 0 0, .slice none 0 0] 155)
    have xr := B.RowAt.new w3 #[.slice ua N uc, .int .i64 0, .slice none 0 0, .slice none 0 0] 155
    have HR : Hid (SNR (w3.alloc (.cells #[.slice ua N uc, .int .i64 0, .slice none 0 0, .slice none 0 0] 155)) w3.heap.size ⟨na.ps ++ nb.ps, 0, [], []⟩ (.slice ua N uc) (.slice none 0 0) (.slice none 0 0)) := ⟨xr, (HO3.out.below q).at, B.LkR.nil _, (C.LkO.nil _ 0).at, HLN.out.1, HLN.out.2, (fun p hp => by simp at hp), by simp, by simp⟩
    have HBB := hide (Below.next HB3.out q)
    clear q xr
    go_wp2
    go_ret
    exact ⟨_, _, _, _, rfl, HR.out, HBB.out⟩)

end Go.Proofs.YtnaedmmfiiebaaaGreatDoor.T

namespace Go.Proofs.YtnaedmmfiiebaaaGreatDoor.T
open Go.RowKit

set_option maxRecDepth 20000 in
set_option maxHeartbeats 8000000 in
theorem join_br (ba bb : Nat) (na nb : SN) (pa la ca pb lb cb : Value) (key : ByteArray) (w : World) (ha : SNR w ba na pa la ca) (hb : SNR w bb nb pb lb cb) (h0 : ¬ na.us.length = 0) (hl : na.lk.length + nb.lk.length + 1 ≤ 4000) (hu : na.us.length + nb.us.length ≤ 4001) (hk : mayKey key) :
    Calls Tryz.prog 126 #[.pointer (some ⟨ba, 0, none⟩), .string key, .pointer (some ⟨bb, 0, none⟩)] w fun e w' => New w ⟨[], na.f, B.joinL na.lk key nb.f nb.lk, na.us ++ nb.us⟩ e w' := by
  have HL := hide (isleaf_any ba na pa la ca w ha)
  rw [show decide (na.us.length = 0) = false by simp [h0]] at HL
  obtain ⟨xa, xc, hca⟩ := ha.kids.form
  obtain ⟨ya, yc, hcb⟩ := hb.kids.form
  obtain ⟨va, vc, hla⟩ := ha.lks.form
  obtain ⟨za, zc, hlb⟩ := hb.lks.form
  subst hca hcb hla hlb
  obtain ⟨N, hN⟩ : ∃ N, N = (na.us ++ nb.us).length := ⟨_, rfl⟩
  obtain ⟨M, hM⟩ : ∃ M, M = (B.joinL na.lk key nb.f nb.lk).length := ⟨_, rfl⟩
  have HJN : Hid (∀ W, Below w.heap.size w W → Calls Tryz.prog 165 #[.agg #[.int .i64 na.f, .slice va na.lk.length vc], .string key, .agg #[.int .i64 nb.f, .slice za nb.lk.length zc]] W fun e w' => ∃ (ua : Option Addr) (uc : Nat), e = .returned (.agg #[.int .i64 na.f, .slice ua M uc]) ∧ B.LkR w' (.slice ua M uc) (B.joinL na.lk key nb.f nb.lk) ∧ Below W.heap.size W w') := fun W hW => by
    refine (B.bjoin_any na.f nb.f key _ _ na.lk nb.lk W (by omega) (ha.lks.below hW) (hb.lks.below hW)).mono fun e w' ⟨u, h1, h2, h3⟩ => ?_
    obtain ⟨ua, uc, hu⟩ := h2.form
    subst hu
    rw [← hM] at h1 h2
    exact ⟨ua, uc, h1, h2.at, h3⟩
  have HCC : Hid (∀ (W : World) (k : Nat), Below w.heap.size w W → B.RowAt W k #[.slice xa na.us.length xc, .slice ya nb.us.length yc] 153 → Calls Tryz.prog 166 #[.slice (some ⟨k, 0, none⟩) 2 2] W fun e w' => ∃ (ca : Option Addr) (cc : Nat), e = .returned (.slice ca N cc) ∧ C.LkR w' (.slice ca N cc) (na.us ++ nb.us) ∧ Below W.heap.size W w') := fun W k hW hr => by
    refine (C.kconcat_any k 2 2 [.slice xa na.us.length xc, .slice ya nb.us.length yc] [na.us, nb.us] _ rfl (by decide) rfl (by simp; omega) (fun j h => ?_) (fun j h h' => ?_)).mono fun e w' ⟨u, h1, h2, h3⟩ => ?_
    · match j, h with
      | 0, _ => exact hr.cell 0 (by simp)
      | 1, _ => exact hr.cell 1 (by simp)
    · match j, h with
      | 0, _ => exact (ha.kids.below hW)
      | 1, _ => exact (hb.kids.below hW)
    · have e1 : [na.us, nb.us].flatten = na.us ++ nb.us := by simp
      rw [e1] at h2
      obtain ⟨ua, uc, hu⟩ := h2.form
      subst hu
      rw [← hN] at h1 h2
      exact ⟨ua, uc, h1, h2.at, h3⟩
  have HLN : Hid ((∀ p ∈ B.joinL na.lk key nb.f nb.lk, mayKey p.1) ∧ (B.joinL na.lk key nb.f nb.lk).length ≤ 4000 ∧ (na.us ++ nb.us).length ≤ 4001) := ⟨fun p hp => by
    unfold B.joinL at hp
    rcases List.mem_append.1 hp with h | h
    · exact ha.fine.2.2.1 p h
    · rcases List.mem_cons.1 h with rfl | h
      · exact hk
      · exact hb.fine.2.2.1 p h, by unfold B.joinL; rw [List.length_append, List.length_cons]; omega, by rw [List.length_append]; exact hu⟩
  have a1 := ha.c1
  have a2 := ha.c2
  have a3 := ha.c3
  have b1 := hb.c1
  have b2 := hb.c2
  have b3 := hb.c3
  have HA := hide ha
  have HB := hide hb
  clear ha hb h0 hl hu hk hN hM
  go_enter Tryz.func126, Tryz.ntmps126
  go_wp2_with fail
  refine HL.out.mono ?_
  rintro e w1 ⟨rfl, rfl⟩
  clear HL
  go_wp2_with fail
  have f0 := World.new_ne w _ a1
  have f1 := World.new_ne w _ b1
  have q5 := below_new w (.cells #[.slice xa na.us.length xc, .slice ya nb.us.length yc] 153)
  have x5 := B.RowAt.new w #[.slice xa na.us.length xc, .slice ya nb.us.length yc] 153
  have HSC : Hid (∀ W, Below w.heap.size w W → (W.cell? ⟨ba, 1, none⟩ = some (.int .i64 na.f) ∧ W.cell? ⟨ba, 2, none⟩ = some (.slice va na.lk.length vc) ∧ W.cell? ⟨ba, 3, none⟩ = some (.slice xa na.us.length xc) ∧ W.cell? ⟨bb, 1, none⟩ = some (.int .i64 nb.f) ∧ W.cell? ⟨bb, 2, none⟩ = some (.slice za nb.lk.length zc) ∧ W.cell? ⟨bb, 3, none⟩ = some (.slice ya nb.us.length yc)) ∧ ¬ ba = W.heap.size ∧ ¬ bb = W.heap.size) := fun W hW => ⟨⟨(HA.out.below hW).c1, (HA.out.below hW).c2, (HA.out.below hW).c3, (HB.out.below hW).c1, (HB.out.below hW).c2, (HB.out.below hW).c3⟩, by have := HA.out.row.lt; have := hW.size; omega, by have := HB.out.row.lt; have := hW.size; omega⟩
  obtain ⟨⟨y1, y2, y3, y4, y5, y6⟩, y7, y8⟩ := HSC.out _ q5
  generalize hW5 : w.alloc (.cells #[.slice xa na.us.length xc, .slice ya nb.us.length yc] 153) = W5 at *
  have HQ5 := hide q5
  have HX5 := hide x5
  clear q5 x5
  go_region_held3 (fun w' => w'.cell? ⟨ba, 1, none⟩ = some (.int .i64 na.f) ∧ w'.cell? ⟨ba, 2, none⟩ = some (.slice va na.lk.length vc) ∧ w'.cell? ⟨ba, 3, none⟩ = some (.slice xa na.us.length xc) ∧ w'.cell? ⟨bb, 1, none⟩ = some (.int .i64 nb.f) ∧ w'.cell? ⟨bb, 2, none⟩ = some (.slice za nb.lk.length zc) ∧ w'.cell? ⟨bb, 3, none⟩ = some (.slice ya nb.us.length yc)) (go_keep)
    (first
      | (go_at_call 165; refine (HJN.out _ ?_).mono ?_; (first | exact HBC.out | exact HQ5.out.drew | exact (Below.refl _ _).drew); rintro e w2 ⟨ua, uc, rfl, ho2, hb2⟩; have HBJ : Hid (Below w.heap.size w w2) := (by first | exact Below.next HBC.out hb2 | exact Below.next HQ5.out (B.undrewB hb2) | exact B.undrewB hb2); have HJ2 := hide ho2; (try (have HXJ := hide (HX5.out.drew.below hb2))); (try (have HC4 := hide (HC3.out.below hb2))); obtain ⟨⟨m1, m2, m3, m4, m5, m6⟩, m7, m8⟩ := HSC.out _ HBJ.out; clear ho2 hb2)
      | (go_at_call 166; (first
          | (refine (HCC.out _ _ HBJ.out HXJ.out).mono ?_; rintro e w3 ⟨cca, ccc, rfl, ho3, hb3⟩; have HBC : Hid (Below w.heap.size w w3) := Below.next HBJ.out hb3; have HJ3 := hide (HJ2.out.below hb3))
          | (refine (HCC.out _ _ (Below.next HBJ.out (below_new w2 (.cells #[.slice xa na.us.length xc, .slice ya nb.us.length yc] 153))) (B.RowAt.new w2 #[.slice xa na.us.length xc, .slice ya nb.us.length yc] 153)).mono ?_; rintro e w3 ⟨cca, ccc, rfl, ho3, hb3⟩; have HBC : Hid (Below w.heap.size w w3) := Below.next (Below.next HBJ.out (below_new w2 (.cells #[.slice xa na.us.length xc, .slice ya nb.us.length yc] 153))) hb3; have HJ3 := hide ((HJ2.out.below (below_new w2 (.cells #[.slice xa na.us.length xc, .slice ya nb.us.length yc] 153))).below hb3))
          | (refine (HCC.out _ _ HQ5.out.drew HX5.out.drew).mono ?_; rintro e w3 ⟨cca, ccc, rfl, ho3, hb3⟩; have HBC : Hid (Below w.heap.size w w3) := Below.next HQ5.out (B.undrewB hb3))); have HC3 := hide ho3; obtain ⟨⟨m1, m2, m3, m4, m5, m6⟩, m7, m8⟩ := HSC.out _ HBC.out; clear ho3 hb3))
  all_goals first
    | (have hj := HJ3.out
       have q := below_new w3 (.cells #[.slice none 0 0, .int .i64 na.f, .slice ua M uc, .slice cca N ccc] 155)
       have xr := B.RowAt.new w3 #[.slice none 0 0, .int .i64 na.f, .slice ua M uc, .slice cca N ccc] 155
       have HR : Hid (SNR (w3.alloc (.cells #[.slice none 0 0, .int .i64 na.f, .slice ua M uc, .slice cca N ccc] 155)) w3.heap.size ⟨[], na.f, B.joinL na.lk key nb.f nb.lk, na.us ++ nb.us⟩ (.slice none 0 0) (.slice ua M uc) (.slice cca N ccc)) := ⟨xr, PrR.nil _, hj.below q, HC3.out.below q, (fun p hp => by simp at hp), by simp, HLN.out.1, HLN.out.2.1, HLN.out.2.2⟩
       have HBB := hide (Below.next HBC.out q)
       clear q xr hj
       go_wp2
       go_ret
       exact ⟨_, _, _, _, rfl, HR.out, HBB.out⟩)
    | (have hc := HC4.out
       have q := below_new w2 (.cells #[.slice none 0 0, .int .i64 na.f, .slice ua M uc, .slice cca N ccc] 155)
       have xr := B.RowAt.new w2 #[.slice none 0 0, .int .i64 na.f, .slice ua M uc, .slice cca N ccc] 155
       have HR : Hid (SNR (w2.alloc (.cells #[.slice none 0 0, .int .i64 na.f, .slice ua M uc, .slice cca N ccc] 155)) w2.heap.size ⟨[], na.f, B.joinL na.lk key nb.f nb.lk, na.us ++ nb.us⟩ (.slice none 0 0) (.slice ua M uc) (.slice cca N ccc)) := ⟨xr, PrR.nil _, HJ2.out.below q, hc.below q, (fun p hp => by simp at hp), by simp, HLN.out.1, HLN.out.2.1, HLN.out.2.2⟩
       have HBB := hide (Below.next HBJ.out q)
       clear q xr hc
       go_wp2
       go_ret
       exact ⟨_, _, _, _, rfl, HR.out, HBB.out⟩)

end Go.Proofs.YtnaedmmfiiebaaaGreatDoor.T

namespace Go.Proofs.YtnaedmmfiiebaaaGreatDoor
open Go.RowKit

theorem beq_text (x y : ByteArray) : (x.toList == y.toList) = decide (x = y) := by
  rw [Bool.eq_iff_iff, beq_iff_eq, decide_eq_true_eq, ByteArray.toList_eq, ByteArray.toList_eq]
  exact ⟨fun h => ba_ext' h, fun h => by rw [h]⟩

set_option maxHeartbeats 400000 in
theorem findf_any (p : Pr) (key : ByteArray) (b : Nat) (w : World) (hc : w.cell? ⟨b, 0, none⟩ = some (.string key)) :
    Calls Tryz.prog 88 #[.agg #[.string p.1, .string p.2], .pointer (some ⟨b, 0, none⟩)] w fun e w' => e = .returned (.bool (!ltK p.1 key)) ∧ Below w.heap.size w w' := by
  have hbn := below_new w (.cells #[.string p.1, .string p.2] 52)
  have hc1 : (w.alloc (.cells #[.string p.1, .string p.2] 52)).cell? ⟨b, 0, none⟩ = some (.string key) := (hbn.cell (p := ⟨b, 0, none⟩) (World.block_lt_of_cell? w _ hc)).trans hc
  go_enter Tryz.func88, Tryz.ntmps88
  go_wp2
  go_ret
  exact ⟨rfl, hbn⟩

set_option maxHeartbeats 1000000 in
theorem idxf_any (v : Value) (l : List Pr) (key : ByteArray) (b : Nat) (w : World) (hm : l.length ≤ 140737488355328) (hr : PrR w v l) (hk : w.cell? ⟨b, 0, none⟩ = some (.string key)) :
    Calls Tryz.prog 87 #[v, .func (.func 88) #[] #[.pointer (some ⟨b, 0, none⟩)]] w fun e w' => ((findN l key < l.length ∧ e = .returned (.int .i64 (findN l key : Int))) ∨ (¬ findN l key < l.length ∧ e = .returned (.int .i64 (-1)))) ∧ Below w.heap.size w w' := by
  obtain ⟨a, cap, rfl, hcap, _, hc⟩ := hr
  have HC := hide hc
  obtain ⟨n, hn⟩ : ∃ n, n = l.length := ⟨_, rfl⟩
  rw [← hn] at hm ⊢
  have HN := hide hn
  have HK := hide hk
  have HKB := hide (World.block_lt_of_cell? w _ hk)
  obtain ⟨Q, hQ⟩ : ∃ Q : Ending → World → Prop, Q = fun e w' => ((findN l key < n ∧ e = .returned (.int .i64 (findN l key : Int))) ∨ (¬ findN l key < n ∧ e = .returned (.int .i64 (-1)))) ∧ Below w.heap.size w w' := ⟨_, rfl⟩
  rw [← hQ]
  have HQ := hide hQ
  clear hc hn hcap hk hQ
  go_enter Tryz.func87, Tryz.ntmps87
  go_wp2
  go_loopw [8] (fun i wr => ∃ k : Nat, k ≤ n ∧ i = .int .i64 k ∧ (∀ j (h : j < l.length), j < k → ltK l[j].1 key = true) ∧ Below w.heap.size w wr) (fun i _ => n - (intOf i).toNat)
  case atStart => exact ⟨0, Nat.zero_le _, rfl, fun j _ h => absurd h (Nat.not_lt_zero _), Below.refl _ _⟩
  case round =>
    obtain ⟨k, hk, rfl, hpre, hbw⟩ := hrel
    have HP := hide hpre
    clear hpre
    by_cases hlt : k < n
    · have hkl : k < l.length := by have := HN.out; omega
      obtain ⟨g, o, rfl, f1, f2⟩ := HC.out k hkl
      have c1 : wr.cell? ⟨g, o + k * 2, none⟩ = some (.string l[k].1) := (hbw.cell (p := ⟨g, o + k * 2, none⟩) (World.block_lt_of_cell? w _ f1)).trans f1
      have c2 : wr.cell? ⟨g, o + k * 2 + 1, none⟩ = some (.string l[k].2) := (hbw.cell (p := ⟨g, o + k * 2 + 1, none⟩) (World.block_lt_of_cell? w _ f2)).trans f2
      have HF := hide (findf_any l[k] key b wr ((hbw.cell (p := ⟨b, 0, none⟩) HKB.out).trans HK.out))
      have HNX : Hid (ltK l[k].1 key = true → ∀ j (h : j < l.length), j < k + 1 → ltK l[j].1 key = true) := fun hl j h hj => by
        by_cases he : j = k
        · subst he; exact hl
        · exact HP.out j h (by omega)
      have HAT : Hid (ltK l[k].1 key = false → findN l key = k) := fun hl => findN_eq hkl (fun j hj => HP.out j (by omega) hj) hl
      obtain ⟨p, hp⟩ : ∃ p, p = l[k] := ⟨_, rfl⟩
      rw [← hp] at c1 c2 HF HNX HAT
      have hltI : (k : Int) < (n : Int) := by omega
      have HB := hide hbw
      clear hp HC f1 f2 hbw
      cases hb : ltK p.1 key with
      | true =>
        rw [hb] at HF
        have HNX2 := hide (HNX.out hb)
        clear hb HNX HAT
        go_wp2_with fail
        refine HF.out.mono ?_
        rintro e w1 ⟨rfl, hb1⟩
        have HB1 := hide (Below.next HB.out hb1)
        clear hb1 HB HF c1 c2
        go_wp2
        go_roundw
        case rel => exact ⟨k + 1, by omega, by go_num, HNX2.out, HB1.out⟩
        case measure => simp [intOf]; omega
      | false =>
        rw [hb] at HF
        have HAT2 := hide (HAT.out hb)
        clear hb HNX HAT
        go_wp2_with fail
        refine HF.out.mono ?_
        rintro e w1 ⟨rfl, hb1⟩
        have HB1 := hide (Below.next HB.out hb1)
        clear hb1 HB HF c1 c2
        go_wp2
        rw [HQ.out]
        exact ⟨.inl ⟨by rw [HAT2.out]; exact hlt, by rw [HAT2.out]; rfl⟩, HB1.out⟩
    · have HB := hide hbw
      have hltI : ¬ (k : Int) < (n : Int) := by omega
      have HNO : Hid (¬ findN l key < n) := by
        have h := findN_none (l := l) (key := key) (fun j hj => HP.out j hj (by have := HN.out; omega))
        have := HN.out
        intro h'; omega
      clear HC hbw HP
      go_wp2
      rw [HQ.out]
      exact ⟨.inr ⟨HNO.out, rfl⟩, HB.out⟩

set_option maxHeartbeats 1000000 in
theorem lfind_any (v : Value) (l : List Pr) (key : ByteArray) (w : World) (hm : l.length ≤ 140737488355328) (hr : PrR w v l) :
    Calls Tryz.prog 52 #[v, .string key] w fun e w' => e = .returned (.tuple #[.int .i64 (findN l key : Int), .bool (foundB l key)]) ∧ Below w.heap.size w w' := by
  have hmf : ∀ (fn : Fn) (first cap : Array Value) (w : World), (Instr.makeFunc fn first cap).run Tryz.prog w = .ok (.func fn first cap) w := fun _ _ _ _ => rfl
  have hbn := below_new w (.cells #[.string key] 9)
  have hx := boxed_new w #[.string key] 9
  have hr1 := hr.below hbn
  have HI := hide (idxf_any v l key w.heap.size _ hm hr1 (hx.2 0 (by simp)))
  have HR := hide hr1
  have HX := hide hx
  have HBN := hide hbn
  obtain ⟨a, c, rfl⟩ := hr.form
  have HFL := hide (findN_le l key)
  obtain ⟨q, hq⟩ : ∃ q, q = findN l key := ⟨_, rfl⟩
  have HAT : Hid (∀ (h : q < l.length), foundB l key = decide (l[q].1 = key)) := by subst hq; exact fun h => foundB_at h
  have HNO : Hid (¬ q < l.length → foundB l key = false) := by subst hq; exact fun h => foundB_none h
  rw [← hq] at HI HFL ⊢
  clear hq hr hr1 hbn hx
  go_enter Tryz.func52, Tryz.ntmps52
  go_wp2_with fail
  refine HI.out.mono ?_
  rintro e w1 ⟨⟨hlt, rfl⟩ | ⟨hlt, rfl⟩, hb1⟩
  · have hr1 := HR.out.below hb1
    have k0 : w1.cell? ⟨w.heap.size, 0, none⟩ = some (.string key) := (HX.out.below hb1).2 0 (by simp)
    obtain ⟨a', c', he, _, _, hc⟩ := hr1
    cases he
    obtain ⟨g, o, rfl, f1, f2⟩ := hc q hlt
    have HFD := hide (HAT.out hlt)
    have HB := hide (Below.next HBN.out hb1)
    have hd0 : decide ((q : Int) < 0) = false := decide_eq_false (by omega)
    have j0 : (0 : Int) ≤ (q : Int) := by omega
    have j1 : (q : Int) < (l.length : Int) := by omega
    generalize l[q].1 = x at *
    clear hc hb1 HI HR HX HBN HAT HNO f2
    go_wp2
    go_quiet (fail)
    go_wp2
    go_ret2
    refine ⟨?_, below_drewN' HB.out _⟩
    rw [HFD.out, ← beq_text]
    rfl
  · have HB := hide (Below.next HBN.out hb1)
    have HFD := hide (HNO.out hlt)
    have HQL : Hid (q = l.length) := by have := HFL.out; show q = l.length; omega
    clear hb1 HI HR HX HBN HAT HNO hlt
    go_wp2
    go_ret2
    exact ⟨by rw [HFD.out, HQL.out]; rfl, HB.out⟩

end Go.Proofs.YtnaedmmfiiebaaaGreatDoor
