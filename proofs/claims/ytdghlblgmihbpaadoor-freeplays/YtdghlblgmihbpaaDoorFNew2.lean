import Derived.Test.YtdghlblgmihbpaaDoorFNew
namespace Go.Proofs.YtdghlblgmihbpaaDoor
open Go.RowKit

/-- A new map: the two of the metas are taken, and all behind the end. -/
def T0 (P : Nat) : Nat → Bool := fun j => decide (j < 2) || decide (P ≤ j)
theorem t0_ok {P : Nat} (h1 : 4 ≤ P) (h2 : P ≤ 1048576) : MapOk P (T0 P) := ⟨h1, h2, by simp [T0], by simp [T0], fun j hj => by simp [T0, hj]⟩
theorem word_congr {T T' : Nat → Bool} {n i : Nat} (h : ∀ j, j < 64 * n → T j = T' j) (hi : i < n) : word T i = word T' i := by
  apply Nat.eq_of_testBit_eq
  intro j
  rw [testBit_word, testBit_word]
  by_cases hj : j < 64
  · rw [h _ (by omega)]
  · simp [hj]
theorem wcells_congr {T T' : Nat → Bool} {n : Nat} (h : ∀ j, j < 64 * n → T j = T' j) : wcells T n = wcells T' n := by
  apply List.ext_getElem?
  intro i
  by_cases hi : i < n
  · rw [wcells_get _ _ _ hi, wcells_get _ _ _ hi, word_congr h hi]
  · rw [List.getElem?_eq_none (by rw [wcells_length]; omega), List.getElem?_eq_none (by rw [wcells_length]; omega)]
theorem MapR.congr {w : World} {b g P : Nat} {T T' : Nat → Bool} (h : MapR w b g P T) (he : ∀ j, j < 64 * nW P → T j = T' j) : MapR w b g P T' :=
  ⟨h.blk, by rw [← wcells_congr he]; exact h.wds, h.hi⟩

theorem new_bad (A : Nat → Addr) (base : Nat) (n : Int) (w : World) (hE : Env base A w) (hn : n < 4 ∨ 1048576 < n) : Calls Tryd.prog 25 #[.int .i64 n] w fun e w' => e = .returned (.tuple #[.pointer none, errV A (some 0)]) ∧ Below w.heap.size w w' := by
  have c : w.cell? ⟨1, 0, none⟩ = some (.iface 86 (.pointer (some (A 0)))) := hE.e 0 (by decide)
  clear hE
  have hb : ∀ nq, Below w.heap.size w (w.drewN nq) := fun nq => ⟨rfl, rfl, rfl, Nat.le_refl _, fun _ _ => rfl⟩
  have HB := hide hb
  clear hb
  rcases hn with hn | hn
  · go_enter Tryd.func25, Tryd.ntmps25
    go_wp2_with fail
    go_quiet (fail)
    go_wp2_with fail
    go_ret2
    exact ⟨rfl, HB.out _⟩
  · have h4 : ¬ n < 4 := by omega
    go_enter Tryd.func25, Tryd.ntmps25
    go_wp2_with fail
    go_quiet (fail)
    go_wp2_with fail
    go_ret2
    exact ⟨rfl, HB.out _⟩

set_option maxRecDepth 100000 in
set_option maxHeartbeats 400000 in
theorem new_any (P : Nat) (w : World) (h4 : 4 ≤ P) (hP : P ≤ 1048576) :
    Calls Tryd.prog 25 #[.int .i64 (P : Int)] w fun e w' => ∃ b g, e = .returned (.tuple #[.pointer (some ⟨b, 0, none⟩), .nilIface]) ∧ w.heap.size ≤ b ∧ w.heap.size ≤ g ∧ MapR w' b g P (T0 P) ∧ Below w.heap.size w w' := by
  have hn := nW_le hP
  have hlo := nW_lo P
  obtain ⟨w1, hmk, ho1, hb1, hs1⟩ := make_words w (nW P) hn
  have hm1 : MapR (w1.alloc (.cells #[.int .i64 P, .slice (some ⟨w.heap.size, 0, none⟩) (nW P) (nW P)] 67)) w1.heap.size w.heap.size P (fun _ => false) :=
    ⟨heap_alloc_new _ _, owns_weak (owns_below ho1 (below_new _ _)) (Nat.zero_le _), hP⟩
  have HS := hide (setall_any w1.heap.size w.heap.size P _ 0 2 _ hm1 (by omega) (by omega))
  have HB1 : Hid (Below w.heap.size w (w1.alloc (.cells #[.int .i64 P, .slice (some ⟨w.heap.size, 0, none⟩) (nW P) (nW P)] 67))) := hb1.alloc hb1.size _
  have HS1 := hide hs1
  have hdv : ((P : Int) + 63) / 64 = (nW P : Int) := by unfold nW; omega
  have hq : ((P : Int) + 64 - 1) / 64 = (nW P : Int) := by unfold nW; omega
  have HNW : Hid (P ≤ 64 * nW P) := hlo
  clear ho1 hb1 hs1 hm1 hlo
  obtain ⟨n, hN⟩ : ∃ n, n = nW P := ⟨_, rfl⟩
  rw [← hN] at hn hmk HS HB1 hdv hq
  have HN := hide hN
  clear hN
  go_enter Tryd.func25, Tryd.ntmps25
  go_wp2_with fail
  refine HS.out.mono ?_
  rintro e w2 ⟨rfl, h2, o2⟩
  have HS2 := hide (setall_any w1.heap.size w.heap.size P _ P (64 * nW P) _ h2 HNW.out (Nat.le_refl _))
  have c1 := h2.c1
  rw [← HN.out] at c1 HS2
  have HB2 : Hid (Below w.heap.size w w2) := by
    have hb : Below w.heap.size (w1.alloc (.cells #[.int .i64 P, .slice (some ⟨w.heap.size, 0, none⟩) n n] 67)) w2 := o2.below (fun k hk => by show w.heap.size ≤ k; rw [show k = w.heap.size from hk]; exact Nat.le_refl _) HB1.out.size
    exact HB1.out.trans hb
  clear h2 o2 HS
  generalize hW : w1.heap.size = b1 at *
  have HWB := hide hW
  clear hW hmk
  have h64 : IntKind.i64.wrap ((n : Int) * 64) = ((64 * n : Nat) : Int) := by rw [IntKind.wrap_i64]; omega
  obtain ⟨m, hm⟩ : ∃ m, m = 64 * n := ⟨_, rfl⟩
  rw [← hm] at h64 HS2
  have HM := hide hm
  have hmI : (n : Int) * 64 = (m : Int) := by omega
  clear hm
  go_wp2_with fail
  refine HS2.out.mono ?_
  rintro e w3 ⟨rfl, h3, o3⟩
  have h3' := h3.congr (T' := T0 P) (fun j hj => by
    unfold updR T0
    have hm := HM.out
    rw [HN.out] at hm
    have : j < m := by omega
    simp [this])
  have H3 := hide h3'
  have HB3 : Hid (Below w.heap.size w w3) := HB2.out.trans (o3.below (fun k hk => by show w.heap.size ≤ k; rw [show k = w.heap.size from hk]; exact Nat.le_refl _) HB2.out.size)
  clear h3 h3' o3 HS2
  go_wp2_with fail
  go_ret2
  exact ⟨_, _, rfl, by have := HWB.out; have := HS1.out; omega, Nat.le_refl _, H3.out, HB3.out⟩

end Go.Proofs.YtdghlblgmihbpaaDoor
