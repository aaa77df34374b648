import Derived.Test.YtdghlblgmihbpaaDoorFAct
namespace Go.Proofs.YtdghlblgmihbpaaDoor
open Go.RowKit

def pickN (i : Int) (n : Nat) : Nat := if Int.tmod i (n : Int) < 0 then (Int.tmod i (n : Int) + n).toNat else (Int.tmod i (n : Int)).toNat
theorem pickN_lt (i : Int) (n : Nat) (hn : 1 ≤ n) : pickN i n < n := by
  have hlt := Int.tmod_lt_of_pos i (show (0 : Int) < (n : Int) by omega)
  have hgt := Int.lt_tmod_of_pos i (show (0 : Int) < (n : Int) by omega)
  unfold pickN
  split <;> omega
set_option maxHeartbeats 400000 in
theorem pick_any (i : Int) (n : Nat) (w : World) (h1 : 1 ≤ n) (h2 : n ≤ 2000000) :
    Calls Tryd.prog 17 #[.int .i64 i, .int .i64 (n : Int)] w fun e w' => e = .returned (.int .i64 (pickN i n : Nat)) ∧ w = w' := by
  have hn1 : ¬ (n : Int) < 1 := by omega
  have HP : Hid (pickN i n = if Int.tmod i (n : Int) < 0 then (Int.tmod i (n : Int) + n).toNat else (Int.tmod i (n : Int)).toNat) := rfl
  have hlt := Int.tmod_lt_of_pos i (show (0 : Int) < (n : Int) by omega)
  have hgt := Int.lt_tmod_of_pos i (show (0 : Int) < (n : Int) by omega)
  have hn0 : ¬ (n : Int) = 0 := by omega
  obtain ⟨r, hr⟩ : ∃ r, r = Int.tmod i (n : Int) := ⟨_, rfl⟩
  have hr' : Int.tmod i (n : Int) = r := hr.symm
  rw [hr'] at hlt hgt HP
  clear hr
  by_cases h0 : r < 0
  · have hw : IntKind.i64.wrap (r + (n : Int)) = r + (n : Int) := by rw [IntKind.wrap_i64]; omega
    go_enter Tryd.func17, Tryd.ntmps17
    go_wp2
    go_ret
    exact ⟨by rw [HP.out, if_pos h0, show (((r + (n : Int)).toNat : Nat) : Int) = r + (n : Int) by omega]; rfl, rfl⟩
  · go_enter Tryd.func17, Tryd.ntmps17
    go_wp2
    go_ret
    exact ⟨by rw [HP.out, if_neg (by omega), show ((r.toNat : Nat) : Int) = r by omega]; rfl, rfl⟩

/-- Two lists that are one. -/
theorem samei_two (a1 a2 : Option Addr) (c1 c2 n : Nat) (l : List Nat) (w : World) (hm : n ≤ 140737488355328) (e1 : l.length = n)
    (h1 : ∀ j (h : j < l.length), ∃ g o, a1 = some ⟨g, o, none⟩ ∧ w.cell? ⟨g, o + j, none⟩ = some (.int .i64 (l[j] : Int))) (h2 : ∀ j (h : j < l.length), ∃ g o, a2 = some ⟨g, o, none⟩ ∧ w.cell? ⟨g, o + j, none⟩ = some (.int .i64 (l[j] : Int))) :
    Calls Tryd.prog 20 #[.slice a1 n c1, .slice a2 n c2] w fun e w' => e = .returned (.bool true) ∧ Below w.heap.size w w' := by
  have HE : Hid (l.length = n) := e1
  have H1 := hide h1
  have H2 := hide h2
  have hd0 : ((n : Int) != (n : Int)) = false := by simp
  clear e1 h1 h2
  go_enter Tryd.func20, Tryd.ntmps20
  go_wp2
  go_loopw [5] (fun i wr => ∃ k nq : Nat, k ≤ n ∧ i = .int .i64 k ∧ wr = w.drewN nq) (fun i _ => n - (intOf i).toNat)
  case atStart => exact ⟨0, 0, Nat.zero_le _, rfl, rfl⟩
  case round =>
    obtain ⟨k, nq, hk, rfl, rfl⟩ := hrel
    by_cases hlt : k < n
    · have hk1 : k < l.length := by have := HE.out; omega
      obtain ⟨g1, o1, rfl, f1⟩ := H1.out k hk1
      obtain ⟨g2, o2, rfl, f2⟩ := H2.out k hk1
      have j0 : (0 : Int) ≤ (k : Int) := Int.natCast_nonneg k
      have j1 : (k : Int) < (n : Int) := by omega
      obtain ⟨x, hx⟩ : ∃ x : Int, x = (l[k] : Int) := ⟨_, rfl⟩
      rw [← hx] at f1 f2
      have hd1 : (x != x) = false := by simp
      clear hx H1 H2
      go_wp2
      go_quiet (fail)
      go_wp2
      go_roundw
      case rel => exact ⟨k + 1, _, by omega, by go_num, rfl⟩
      case measure => simp [intOf]; omega
    · clear H1 H2
      go_wp2
      go_ret
      exact ⟨rfl, ⟨rfl, rfl, rfl, Nat.le_refl _, fun _ _ => rfl⟩⟩
/-- A slice reads as numbers. -/
def NatR (w : World) (v : Value) (l : List Nat) : Prop := ∃ a c, v = .slice a l.length c ∧ ∀ j (h : j < l.length), ∃ g o, a = some ⟨g, o, none⟩ ∧ w.cell? ⟨g, o + j, none⟩ = some (.int .i64 (l[j] : Int))
theorem natR_of_owns {w : World} {base n : Nat} {v : Value} {l : List Nat} (h : w.ownsRow base 3 1 v n (nats l)) : NatR w v l := by
  have hl := h.1
  rw [nats_length] at hl
  obtain ⟨a, c, rfl, hs⟩ := owns_form h
  refine ⟨a, c, by rw [show n = l.length by omega], fun j hj => ?_⟩
  obtain ⟨g, rfl⟩ := hs (by omega)
  refine ⟨g, 0, rfl, ?_⟩
  rw [Nat.zero_add, h.cellAt j (by omega)]
  exact nats_get l j hj
theorem NatR.below {w w' : World} {v : Value} {l : List Nat} (h : NatR w v l) (hb : Below w.heap.size w w') : NatR w' v l := by
  obtain ⟨a, c, he, hc⟩ := h
  refine ⟨a, c, he, fun j hj => ?_⟩
  obtain ⟨g, o, ha, hcell⟩ := hc j hj
  exact ⟨g, o, ha, (hb.cell (p := ⟨g, o + j, none⟩) (World.block_lt_of_cell? w _ hcell)).trans hcell⟩
theorem samei_any (v1 v2 : Value) (l : List Nat) (w : World) (hm : l.length ≤ 140737488355328) (r1 : NatR w v1 l) (r2 : NatR w v2 l) :
    Calls Tryd.prog 20 #[v1, v2] w fun e w' => e = .returned (.bool true) ∧ Below w.heap.size w w' := by
  obtain ⟨a1, c1, rfl, f1⟩ := r1
  obtain ⟨a2, c2, rfl, f2⟩ := r2
  exact samei_two a1 a2 c1 c2 l.length l w hm rfl f1 f2

set_option maxRecDepth 100000 in
set_option maxHeartbeats 1000000 in
theorem same_any (s : SaidD) (v1 v2 : Value) (w : World) (hm : s.list.length ≤ 140737488355328) (r1 : NatR w v1 s.list) (r2 : NatR w v2 s.list) :
    Calls Tryd.prog 14 #[.agg (saidC s v1), .agg (saidC s v2)] w fun e w' => e = .returned (.bool true) ∧ Below w.heap.size w w' := by
  obtain ⟨a1, c1, rfl, f1⟩ := id r1
  obtain ⟨a2, c2, rfl, f2⟩ := id r2
  obtain ⟨w2, hw2⟩ : ∃ w2, w2 = (w.alloc (.cells (saidC s (.slice a1 s.list.length c1)) 30)).alloc (.cells (saidC s (.slice a2 s.list.length c2)) 30) := ⟨_, rfl⟩
  have hb : Below w.heap.size w w2 := by rw [hw2]; exact (below_new w _).alloc (by simp) _
  have b1 : Boxed w.heap.size (saidC s (.slice a1 s.list.length c1)).toList w2 := by rw [hw2]; exact (boxed_new w _ 30).below (below_new _ _)
  have b2 : Boxed (w.heap.size + 1) (saidC s (.slice a2 s.list.length c2)).toList w2 := by
    have := boxed_new (w.alloc (.cells (saidC s (.slice a1 s.list.length c1)) 30)) (saidC s (.slice a2 s.list.length c2)) 30
    rw [← hw2] at this
    simpa using this
  have HS := hide (samei_any _ _ s.list w2 hm (r1.below hb) (r2.below hb))
  have HB1 := hide b1
  have HB2 := hide b2
  have x4 : w2.cell? ⟨w.heap.size, 4, none⟩ = some (.slice a1 s.list.length c1) := b1.2 4 (by simp [saidC])
  have y4 : w2.cell? ⟨w.heap.size + 1, 4, none⟩ = some (.slice a2 s.list.length c2) := b2.2 4 (by simp [saidC])
  have HB := hide hb
  clear hb b1 b2 r1 r2 f1 f2
  unfold saidC at hw2
  unfold saidC
  generalize s.list.length = n at *
  go_enter Tryd.func14, Tryd.ntmps14
  go_wp2_with fail
  rw [← hw2]
  clear hw2
  refine HS.out.mono ?_
  rintro e w3 ⟨rfl, hb3⟩
  have B1 := HB1.out.below hb3
  have B2 := HB2.out.below hb3
  have x0 : w3.cell? ⟨w.heap.size, 0, none⟩ = some (.int .i64 (s.err : Int)) := B1.2 0 (by simp [saidC])
  have x1 : w3.cell? ⟨w.heap.size, 1, none⟩ = some (.int .i64 (s.a : Int)) := B1.2 1 (by simp [saidC])
  have x2 : w3.cell? ⟨w.heap.size, 2, none⟩ = some (.int .i64 (s.b : Int)) := B1.2 2 (by simp [saidC])
  have x3 : w3.cell? ⟨w.heap.size, 3, none⟩ = some (.bool s.ok) := B1.2 3 (by simp [saidC])
  have y0 : w3.cell? ⟨w.heap.size + 1, 0, none⟩ = some (.int .i64 (s.err : Int)) := B2.2 0 (by simp [saidC])
  have y1 : w3.cell? ⟨w.heap.size + 1, 1, none⟩ = some (.int .i64 (s.a : Int)) := B2.2 1 (by simp [saidC])
  have y2 : w3.cell? ⟨w.heap.size + 1, 2, none⟩ = some (.int .i64 (s.b : Int)) := B2.2 2 (by simp [saidC])
  have y3 : w3.cell? ⟨w.heap.size + 1, 3, none⟩ = some (.bool s.ok) := B2.2 3 (by simp [saidC])
  have HB3 : Hid (Below w.heap.size w w3) := HB.out.trans (hb3.mono HB.out.size)
  clear HS B1 B2 HB1 HB2 x4 y4 hb3
  generalize s.err = z1 at *
  generalize s.a = z2 at *
  generalize s.b = z3 at *
  generalize s.ok = z4 at *
  go_wp2
  go_ret
  exact ⟨rfl, HB3.out⟩

end Go.Proofs.YtdghlblgmihbpaaDoor
