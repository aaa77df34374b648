import Derived.Test.YtagldlchamlpdaaDoorBLent
import Derived.Test.YtagldlchamlpdaaDoorLkEq
namespace Go.Proofs.YtagldlchamlpdaaDoor
open Go.RowKit

theorem marksK_get (n j : Nat) (h : j < (marksK n).length) : (marksK n)[j] = markK := List.getElem_replicate _

set_option maxRecDepth 20000 in
set_option maxHeartbeats 2000000 in
theorem returned_true (f : Int) (vm vl : Value) (l : List Lk) (w : World) (hm : l.length ≤ 5864062014700) (r1 : LkR w vm (l ++ marksK 4)) (r2 : LkR w vl l) :
    Calls Tryd.prog 22 #[vm, .agg #[.int .i64 f, vl]] w fun e w' => e = .returned (.bool true) ∧ Below w.heap.size w w' := by
  have hb1 := below_new w (.cells #[.int .i64 f, vl] 27)
  have hx1 := RowAt.new w #[.int .i64 f, vl] 27
  have r1' := r1.below hb1
  have r2' := r2.below hb1
  have p1 := hx1.c1
  clear r1 r2
  generalize hW : w.alloc (.cells #[.int .i64 f, vl] 27) = W0 at *
  obtain ⟨a1, c1, rfl, _, _, h1⟩ := r1'
  obtain ⟨a2, c2, rfl, _, _, h2⟩ := r2'
  obtain ⟨n, hn⟩ : ∃ n, n = l.length := ⟨_, rfl⟩
  have hlen : (l ++ marksK 4).length = n + 4 := by rw [List.length_append, marksK_len, ← hn]
  rw [hlen, ← hn]
  rw [← hn] at hm hx1 hW p1
  have H1 : Hid (∀ j, j < n + 4 → ∃ g o, a1 = some ⟨g, o, none⟩ ∧ ∃ p : Lk, (j < n → l[j]? = some p) ∧ (n ≤ j → p = markK) ∧ W0.cell? ⟨g, o + j * 2, none⟩ = some (.string p.1) ∧ W0.cell? ⟨g, o + j * 2 + 1, none⟩ = some (.int .i64 p.2)) := fun j hj => by
    obtain ⟨g, o, ha, e1, e2⟩ := h1 j (by omega)
    refine ⟨g, o, ha, _, fun hjn => ?_, fun hjn => ?_, e1, e2⟩
    · rw [List.getElem_append_left (by omega), List.getElem?_eq_getElem]
    · rw [List.getElem_append_right (by omega)]; exact marksK_get _ _ _
  have H2 := hide h2
  have HN := hide hn
  have HB1 := hide hb1
  have HX1 := hide hx1
  obtain ⟨N, hN⟩ : ∃ N, N = n + 4 := ⟨_, rfl⟩
  rw [← hN] at H1 ⊢
  have hend : IntKind.i64.wrap ((n : Int) + 4) = (N : Int) := by rw [IntKind.wrap_i64]; omega
  have hdN : ((N : Int) != (N : Int)) = false := by simp
  have hNb : N ≤ 5864062014800 := by omega
  have HNN := hide hN
  clear h1 h2 hn hlen hN hb1 hx1
  go_enter Tryd.func22, Tryd.ntmps22
  go_wp2
  clear p1
  go_loopw [5] (fun i wr => ∃ k : Nat, k ≤ N ∧ i = .int .i64 k ∧ Below W0.heap.size W0 wr) (fun i _ => N - (intOf i).toNat)
  case atStart => exact ⟨0, Nat.zero_le _, rfl, Below.refl _ _⟩
  case round =>
    obtain ⟨k, hk, rfl, hbw⟩ := hrel
    have p1 := (HX1.out.below hbw).c1
    by_cases hlt : k < N
    · have j0 : (0 : Int) ≤ (k : Int) := Int.natCast_nonneg k
      have j1 : (k : Int) < (N : Int) := by omega
      obtain ⟨g1, o1, rfl, p, hp1, hp2, e1, e2⟩ := H1.out k hlt
      have f1 : wr.cell? ⟨g1, o1 + k * 2, none⟩ = some (.string p.1) := (hbw.cell (p := ⟨g1, o1 + k * 2, none⟩) (World.block_lt_of_cell? W0 _ e1)).trans e1
      have f2 : wr.cell? ⟨g1, o1 + k * 2 + 1, none⟩ = some (.int .i64 p.2) := (hbw.cell (p := ⟨g1, o1 + k * 2 + 1, none⟩) (World.block_lt_of_cell? W0 _ e2)).trans e2
      have hne := fun w => lk_nself w p.1 p.2
      have HB := hide hbw
      by_cases hkn : k < n
      · have hk2 : k < l.length := by have := HN.out; omega
        obtain ⟨g2, o2, rfl, d1, d2⟩ := H2.out k hk2
        have hpk := hp1 hkn
        rw [List.getElem?_eq_getElem hk2] at hpk
        have hpe : l[k] = p := Option.some.inj hpk
        rw [hpe] at d1 d2
        have f3 : wr.cell? ⟨g2, o2 + k * 2, none⟩ = some (.string p.1) := (hbw.cell (p := ⟨g2, o2 + k * 2, none⟩) (World.block_lt_of_cell? W0 _ d1)).trans d1
        have f4 : wr.cell? ⟨g2, o2 + k * 2 + 1, none⟩ = some (.int .i64 p.2) := (hbw.cell (p := ⟨g2, o2 + k * 2 + 1, none⟩) (World.block_lt_of_cell? W0 _ d2)).trans d2
        clear hpe hpk
        have j2 : (k : Int) < (n : Int) := by omega
        have hd2 : decide ((n : Int) ≤ (k : Int)) = false := decide_eq_false (by omega)
        have hd3 : decide (n ≤ k) = false := decide_eq_false (by omega)
        clear H1 H2 hbw e1 e2 d1 d2 hp1 hp2
        go_wp2
        go_quiet (fail)
        go_wp2
        go_roundw
        case rel => exact ⟨k + 1, by omega, by go_num, below_drewN' HB.out _⟩
        case measure => simp [intOf]; omega
      · have hpm := hp2 (by omega)
        subst hpm
        simp only [markK] at f1 f2
        have j3 : (n : Int) ≤ (k : Int) := by omega
        have hd1 : decide ((k : Int) < (n : Int)) = false := decide_eq_false (by omega)
        have hd0 : decide (k < n) = false := decide_eq_false (by omega)
        have hd4 : decide (n ≤ k) = true := decide_eq_true (by omega)
        clear H1 H2 hbw e1 e2 hp1 hp2 hne
        go_wp2
        go_quiet (fail)
        go_wp2
        go_roundw
        case rel => exact ⟨k + 1, by omega, by go_num, below_drewN' HB.out _⟩
        case measure => simp [intOf]; omega
    · have hkN : k = N := by omega
      have j1 : ¬ (k : Int) < (N : Int) := by omega
      have HB := hide (Below.next HB1.out hbw)
      clear H1 H2 hbw
      go_wp2
      go_ret
      exact ⟨rfl, HB.out⟩

end Go.Proofs.YtagldlchamlpdaaDoor
