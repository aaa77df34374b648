import Derived.Test.YtiihnoohodklhaaDoorFSeal
import Derived.Test.YtiihnoohodklhaaDoorPS
namespace Go.Proofs.YtiihnoohodklhaaDoor
open Go.RowKit
attribute [local go_sem ↓] Go.wp_at_zero Go.wp_at_succ

set_option maxHeartbeats 4000000 in
theorem sameb_same (F T S : Int) (v1 v2 : Value) (l : List Ch) (w : World) (hm : l.length ≤ 140737488355328) (r1 : ChR w v1 l) (r2 : ChR w v2 l) :
    Calls Tryd.prog 7 #[.agg #[.int .u64 F, .int .u64 T, v1, .int .u32 S], .agg #[.int .u64 F, .int .u64 T, v2, .int .u32 S]] w fun e w' => e = .returned (.bool true) ∧ Below w.heap.size w w' := by
  obtain ⟨W1, hW1⟩ : ∃ W1, (w.alloc (.cells #[.int .u64 F, .int .u64 T, v1, .int .u32 S] 29)).alloc (.cells #[.int .u64 F, .int .u64 T, v2, .int .u32 S] 29) = W1 := ⟨_, rfl⟩
  have x1 : RowAt W1 w.heap.size #[.int .u64 F, .int .u64 T, v1, .int .u32 S] 29 := by rw [← hW1]; exact (RowAt.new w _ _).below (below_new _ _)
  have x2 : RowAt W1 (w.heap.size + 1) #[.int .u64 F, .int .u64 T, v2, .int .u32 S] 29 := by
    rw [← hW1]
    have := RowAt.new (w.alloc (.cells #[.int .u64 F, .int .u64 T, v1, .int .u32 S] 29)) #[.int .u64 F, .int .u64 T, v2, .int .u32 S] 29
    rwa [World.size_alloc] at this
  have hb : Below w.heap.size w W1 := by rw [← hW1]; exact ((Below.refl _ w).alloc (Nat.le_refl _) _).alloc (by simp) _
  have HW := hide hW1
  have HX1 := hide x1
  have HX2 := hide x2
  have HB := hide hb
  have HS := hide (samec_same v1 v2 l W1 hm (r1.below hb) (r2.below hb))
  have a2 := x1.cell 2 (by simp)
  have b2 := x2.cell 2 (by simp)
  have e1 : (F == F) = true := by simp
  have e2 : (T == T) = true := by simp
  have e3 : (S == S) = true := by simp
  clear hW1 x1 x2 hb r1 r2
  go_enter Tryd.func7, Tryd.ntmps7
  go_wp2_with fail
  rw [HW.out]
  go_wp2_with fail
  refine HS.out.mono ?_
  rintro e W2 ⟨rfl, hb2⟩
  have y1 := HX1.out.below hb2
  have y2 := HX2.out.below hb2
  have a0 := y1.cell 0 (by simp)
  have a1 := y1.cell 1 (by simp)
  have a3 := y1.cell 3 (by simp)
  have b0 := y2.cell 0 (by simp)
  have b1 := y2.cell 1 (by simp)
  have b3 := y2.cell 3 (by simp)
  have HB2 := hide (Below.next HB.out hb2)
  clear hb2 y1 y2 HX1 HX2 HW HB HS a2 b2
  go_wp2
  go_ret
  exact ⟨rfl, HB2.out⟩
end Go.Proofs.YtiihnoohodklhaaDoor

namespace Go.Proofs.YtiihnoohodklhaaDoor
open Go.RowKit
attribute [local go_sem ↓] Go.wp_at_zero Go.wp_at_succ

/-- The mark behind a list, in the same memory. -/
def mkC : Ch := (⟨#[109, 97, 114, 107]⟩, ⟨false, false, nilB, nilB⟩)
set_option maxHeartbeats 8000000 in
theorem lch_any (v : Value) (l : List Ch) (w : World) (hm : l.length ≤ 1073741824) (hr : ChR w v l) :
    Calls Tryd.prog 4 #[v] w fun e w' => ∃ g c, e = .returned (.slice (some ⟨g, 0, none⟩) l.length c) ∧ ChO w' w.heap.size (.slice (some ⟨g, 0, none⟩) (l.length + 64) c) (l ++ List.replicate 64 mkC) ∧ l.length + 64 ≤ c ∧ Below w.heap.size w w' := by
  obtain ⟨a', cap', w1, hrun, hown, hgr⟩ := append_chs w.heap.size (.slice none 0 0) v [] l w (ChO.nil _ _) hr (by simp; omega) (Nat.le_refl _)
  obtain ⟨a, c, rfl⟩ := hr.form
  obtain ⟨n, hn⟩ : ∃ n, n = l.length := ⟨_, rfl⟩
  simp only [List.length_nil, Nat.zero_add, List.nil_append] at hrun hown
  rw [← hn] at hrun hown hm ⊢
  have HRUN := hide hrun
  have HO := hide hown
  have HB : Hid (Below w.heap.size w w1) := ⟨hgr.os, hgr.tape, hgr.output, hgr.size, fun k hk => hgr.block k hk (fun e => by cases e)⟩
  have HN := hide hn
  obtain ⟨Q, hQ⟩ : ∃ Q : Ending → World → Prop, Q = fun e w' => ∃ g c, e = .returned (.slice (some ⟨g, 0, none⟩) n c) ∧ ChO w' w.heap.size (.slice (some ⟨g, 0, none⟩) (n + 64) c) (l ++ List.replicate 64 mkC) ∧ n + 64 ≤ c ∧ Below w.heap.size w w' := ⟨_, rfl⟩
  rw [← hQ]
  have HQ := hide hQ
  clear hrun hown hgr hr hn hQ
  go_enter Tryd.func4, Tryd.ntmps4
  go_wp2_with (first | (at_builtin; refine wpList_append_run 23 rfl _ _ rfl rfl _ _ rfl rfl _ _ HRUN.out ?_))
  clear HRUN
  go_wp2
  go_loopw [3, 4] (fun p i wr => ∃ (q : Nat) (x : Option Addr) (d : Nat), q ≤ 64 ∧ i = .int .i64 q ∧ p = .slice x (n + q) d ∧ ChO wr w.heap.size (.slice x (n + q) d) (l ++ List.replicate q mkC) ∧ Below w.heap.size w wr) (fun _ i _ => 64 - (intOf i).toNat)
  case atStart => exact ⟨0, a', cap', Nat.zero_le _, rfl, rfl, by simpa using HO.out, HB.out⟩
  case round =>
    obtain ⟨q, x, d, hq, rfl, rfl, ho, hb⟩ := hrel
    by_cases hlt : q < 64
    · have hltI : (q : Int) < 64 := by omega
      obtain ⟨a2, d2, w2, hrun, ho2, hgr⟩ := push_chs w.heap.size (.slice x (n + q) d) (l ++ List.replicate q mkC) mkC 39 wr (n + q) (by rw [List.length_append, List.length_replicate, HN.out]) ho (by omega) hb.size
      have hrun' : (Builtin.append_ #[23, 23] 23 #[.slice x (n + q) d, .slice (some ⟨wr.heap.size, 0, none⟩) 1 1]).run Tryd.prog (wr.alloc (.cells #[.string ⟨#[109, 97, 114, 107]⟩, .bool false, .bool false, .string ⟨#[]⟩, .string ⟨#[]⟩] 39)) = .ok (.slice a2 (n + q + 1) d2) w2 := hrun
      have HRUN := hide hrun'
      have HO2 : Hid (ChO w2 w.heap.size (.slice a2 (n + (q + 1)) d2) (l ++ List.replicate (q + 1) mkC)) := by
        show ChO _ _ _ _
        rw [List.replicate_succ', ← List.append_assoc]; exact ho2
      have HB2 := hide ((hb.alloc hb.size _).grown hgr (Nat.le_trans hb.size (below_new wr _).size) (fun k hk => (World.ownsRow.lt ho k hk).1))
      clear hrun hrun' ho2 hgr ho hb HO HB
      go_wp2_with (first | (at_builtin; refine wpList_append_run 23 rfl _ _ rfl rfl _ _ rfl rfl _ _ HRUN.out ?_))
      go_wp2
      go_roundw
      case rel => exact ⟨q + 1, a2, d2, by omega, by go_num, rfl, HO2.out, HB2.out⟩
      case measure => simp [intOf]; omega
    · have hq64 : q = 64 := by omega
      subst hq64
      have hltI : ¬ ((64 : Nat) : Int) < 64 := by omega
      rcases ho.2 with ⟨h, h0⟩ | ⟨g, cap, cur, h, h1, h2, h3, _⟩
      · rw [List.length_append, List.length_replicate] at h0; omega
      · obtain ⟨e1, -, e3⟩ := Value.slice.inj h
        subst e1 e3
        have hle : n + 64 ≤ d := by rw [List.length_append, List.length_replicate, ← HN.out] at h3; exact h3
        have HO2 := hide ho
        have HB2 := hide hb
        have i0 : (0 : Int) ≤ (n : Int) := by omega
        have i2 : n ≤ d := by omega
        have i3 : (n : Int) ≤ (d : Int) := by omega
        clear h1 h2 h3 ho hb HO HB
        go_wp2
        rw [HQ.out]
        exact ⟨_, _, rfl, HO2.out, hle, HB2.out⟩
end Go.Proofs.YtiihnoohodklhaaDoor

namespace Go.Proofs.YtiihnoohodklhaaDoor
open Go.RowKit
attribute [local go_sem ↓] Go.wp_at_zero Go.wp_at_succ

set_option maxHeartbeats 8000000 in
theorem unt_any (g c n : Nat) (v2 : Value) (l : List Ch) (w : World) (hn : n = l.length) (hm : n ≤ 1073741824) (r1 : ChR w (.slice (some ⟨g, 0, none⟩) (n + 64) c) (l ++ List.replicate 64 mkC)) (r2 : ChR w v2 l) (hc : n + 64 ≤ c) :
    Calls Tryd.prog 8 #[.slice (some ⟨g, 0, none⟩) n c, v2] w fun e w' => e = .returned (.bool true) ∧ Below w.heap.size w w' := by
  have ra : ChR w (.slice (some ⟨g, 0, none⟩) n c) l := by
    have := r1.take (m := n) (by omega)
    rwa [List.take_left' hn.symm] at this
  have HS := hide (samec_same _ v2 l w (by omega) ra r2)
  obtain ⟨b, d, rfl⟩ := r2.form
  have HR := hide r1
  have HN := hide hn
  obtain ⟨Q, hQ⟩ : ∃ Q : Ending → World → Prop, Q = fun e w' => e = .returned (.bool true) ∧ Below w.heap.size w w' := ⟨_, rfl⟩
  rw [← hQ]
  have HQ := hide hQ
  have i0 : (0 : Int) ≤ (n : Int) + 64 := by omega
  have hw64 : IntKind.i64.wrap ((n : Int) + 64) = ((n + 64 : Nat) : Int) := by rw [IntKind.wrap_i64]; omega
  have j0 : (0 : Int) ≤ ((n + 64 : Nat) : Int) := by omega
  have j1 : ((n + 64 : Nat) : Int) ≤ (c : Int) := by omega
  generalize hk : n + 64 = k at *
  have HK := hide hk
  have hkb : k ≤ 1073741888 := by omega
  rw [← hn] at HS ⊢
  clear ra r1 r2 hn hQ hk
  go_enter Tryd.func8, Tryd.ntmps8
  go_wp2_with fail
  refine HS.out.mono ?_
  rintro e w1 ⟨rfl, hb⟩
  have HB := hide hb
  clear hb HS
  go_wp2
  go_loopw [7] (fun i wr => ∃ q : Nat, n ≤ q ∧ q ≤ k ∧ i = .int .i64 q ∧ Below w.heap.size w wr) (fun i _ => k - (intOf i).toNat)
  case atStart => exact ⟨n, Nat.le_refl _, by have := HK.out; omega, rfl, HB.out⟩
  case round =>
    obtain ⟨q, hq1, hq2, rfl, hb⟩ := hrel
    by_cases hlt : q < k
    · have hltI : (q : Int) < (k : Int) := by omega
      have q0 : (0 : Int) ≤ (q : Int) := by omega
      obtain ⟨a9, cap9, he, _, _, hcc⟩ := HR.out.below hb
      obtain ⟨g', o, ha, h1⟩ := hcc q (by rw [List.length_append, List.length_replicate]; have := HN.out; have := HK.out; omega)
      have e2 := Value.slice.inj he
      obtain ⟨rfl, -, rfl⟩ := e2
      cases ha
      have hg : (l ++ List.replicate 64 mkC)[q]'(by rw [List.length_append, List.length_replicate]; have := HN.out; have := HK.out; omega) = mkC := by
        rw [List.getElem_append_right (by have := HN.out; omega), List.getElem_replicate]
      rw [hg, Nat.zero_add] at h1
      obtain ⟨c0, c1, c2, c3, c4⟩ := h1
      simp only [mkC, nilB] at c0 c1 c2 c3 c4
      have hns := fun W => ch_nself W ⟨#[109, 97, 114, 107]⟩ ⟨false, false, ⟨#[]⟩, ⟨#[]⟩⟩
      simp only [chA] at hns
      have HB2 := hide hb
      have HLT : Hid (n ≤ q ∧ q < k) := ⟨hq1, hlt⟩
      clear hb hcc he hg HB
      go_wp2
      go_roundw
      case rel => have := HLT.out; exact ⟨q + 1, by omega, by omega, by go_num, HB2.out⟩
      case measure => have := HLT.out; simp [intOf]; omega
    · have hltI : ¬ (q : Int) < (k : Int) := by omega
      have HB2 := hide hb
      clear hb HB
      go_wp2
      rw [HQ.out]
      exact ⟨rfl, HB2.out⟩
end Go.Proofs.YtiihnoohodklhaaDoor
