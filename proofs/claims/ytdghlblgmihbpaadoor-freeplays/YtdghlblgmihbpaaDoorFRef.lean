import Derived.Test.YtdghlblgmihbpaaDoorFGivM
import Derived.Test.YtdghlblgmihbpaaDoorFBook2
namespace Go.Proofs.YtdghlblgmihbpaaDoor
open Go.RowKit

/-- The taken ones of the tree's pages below n, rising. -/
def ntT (T : Nat → Bool) : Nat → Bool := fun j => !(decide (2 ≤ j) && T j)
def tkl (T : Nat → Bool) (n : Nat) : List Nat := frl (ntT T) n
theorem tkl_mem {T : Nat → Bool} {n j : Nat} : j ∈ tkl T n ↔ j < n ∧ 2 ≤ j ∧ T j = true := by
  unfold tkl
  rw [frl_mem]
  simp [ntT]
theorem tkl_le (T : Nat → Bool) (n : Nat) : (tkl T n).length ≤ n := frl_le _ _
theorem tkl_sorted (T : Nat → Bool) (n : Nat) : (tkl T n).Pairwise (· < ·) := frl_sorted _ _
theorem tkl_congr {T T' : Nat → Bool} {n : Nat} (h : ∀ j, j < n → 2 ≤ j → T j = T' j) : tkl T n = tkl T' n := by
  unfold tkl
  apply frl_congr
  intro j hj
  unfold ntT
  by_cases h2 : 2 ≤ j
  · rw [h j hj h2]
  · simp [h2]
theorem tkl_succ (T : Nat → Bool) (n : Nat) : tkl T (n + 1) = tkl T n ++ (if decide (2 ≤ n) && T n then [n] else []) := by
  unfold tkl
  rw [frl]
  unfold ntT
  cases h : (decide (2 ≤ n) && T n) <;> simp
/-- Taken and free ones together are all. -/
theorem tkl_len {T : Nat → Bool} (h0 : T 0 = true) (h1 : T 1 = true) : ∀ n, 2 ≤ n → (tkl T n).length + (frl T n).length + 2 = n
  | 0, h => by omega
  | 1, h => by omega
  | 2, _ => by simp [tkl, frl, ntT, h0, h1]
  | n + 3, _ => by
    have ih := tkl_len h0 h1 (n + 2) (by omega)
    rw [tkl_succ, frl, List.length_append, List.length_append]
    cases T (n + 2) <;> simp <;> omega
/-- The list is cut at m: those below it, those from it on. -/
theorem tkl_cut (T : Nat → Bool) (m P : Nat) (h : m ≤ P) : ∃ R, tkl T P = tkl T m ++ R ∧ (∀ j ∈ R, m ≤ j) ∧ ∀ T', (∀ j, m ≤ j → T' j = T j) → tkl T' P = tkl T' m ++ R := by
  obtain ⟨d, rfl⟩ : ∃ d, P = m + d := ⟨P - m, by omega⟩
  clear h
  induction d with
  | zero => exact ⟨[], by simp, fun j hj => by simp at hj, fun T' _ => by simp⟩
  | succ d ih =>
    obtain ⟨R, h1, h2, h3⟩ := ih
    refine ⟨R ++ (if decide (2 ≤ m + d) && T (m + d) then [m + d] else []), ?_, fun j hj => ?_, fun T' hT => ?_⟩
    · rw [← Nat.add_assoc, tkl_succ, h1, List.append_assoc]
    · rcases List.mem_append.1 hj with hj | hj
      · exact h2 j hj
      · split at hj
        · simp at hj; omega
        · simp at hj
    · rw [← Nat.add_assoc, tkl_succ, h3 T' hT, hT (m + d) (by omega), List.append_assoc]

/-- The document's map: its block, its list. -/
structure RefR (w : World) (b : Nat) (v : Value) (P : Nat) (T : Nat → Bool) : Prop where
  blk : w.heap[b]? = some (.cells #[.int .i64 P, v] 80 (0, 0))
  row : w.ownsRow 0 3 1 v (tkl T P).length (nats (tkl T P))
theorem RefR.ltb {w : World} {b : Nat} {v : Value} {P : Nat} {T : Nat → Bool} (h : RefR w b v P T) : b < w.heap.size := lt_of_heap h.blk
theorem RefR.ltv {w : World} {b : Nat} {v : Value} {P : Nat} {T : Nat → Bool} (h : RefR w b v P T) (k : Nat) (hk : v.ownBlock = some k) : k < w.heap.size := (owns_blk h.row k hk).2.1
theorem RefR.ne {w : World} {b : Nat} {v : Value} {P : Nat} {T : Nat → Bool} (h : RefR w b v P T) (k : Nat) (hk : v.ownBlock = some k) : k ≠ b := fun e => by
  obtain ⟨cur, hc⟩ := (owns_blk h.row k hk).2.2
  have := h.blk
  rw [← e, hc] at this
  simp at this
theorem RefR.c0 {w : World} {b : Nat} {v : Value} {P : Nat} {T : Nat → Bool} (h : RefR w b v P T) : w.cell? ⟨b, 0, none⟩ = some (.int .i64 P) := cell_of_row w b 0 _ _ _ h.blk
theorem RefR.c1 {w : World} {b : Nat} {v : Value} {P : Nat} {T : Nat → Bool} (h : RefR w b v P T) : w.cell? ⟨b, 1, none⟩ = some v := cell_of_row w b 1 _ _ _ h.blk
theorem RefR.only {F : Nat → Prop} {w w' : World} {b : Nat} {v : Value} {P : Nat} {T : Nat → Bool} (h : RefR w b v P T) (ho : Only F w w') (hb : ¬ F b) (hv : ∀ k, v.ownBlock = some k → ¬ F k) : RefR w' b v P T :=
  ⟨(ho.block b h.ltb hb).trans h.blk, owns_only h.row ho hv⟩
theorem RefR.below {w w' : World} {b : Nat} {v : Value} {P : Nat} {T : Nat → Bool} (h : RefR w b v P T) (hb : Below w.heap.size w w') : RefR w' b v P T :=
  h.only (Only.of_below (F := fun _ => False) hb) id (fun _ _ => id)
/-- The form of its list, and each of its numbers. -/
theorem RefR.form {w : World} {b : Nat} {v : Value} {P : Nat} {T : Nat → Bool} (h : RefR w b v P T) : ∃ a c, v = .slice a (tkl T P).length c ∧ ∀ j (hj : j < (tkl T P).length), ∃ g, a = some ⟨g, 0, none⟩ ∧ w.cell? ⟨g, j, none⟩ = some (.int .i64 ((tkl T P)[j] : Int)) := by
  obtain ⟨a, c, rfl, hs⟩ := owns_form h.row
  refine ⟨a, c, rfl, fun j hj => ?_⟩
  obtain ⟨g, rfl⟩ := hs (by omega)
  exact ⟨g, rfl, by rw [h.row.cellAt j (by omega)]; exact nats_get _ j hj⟩
theorem RefR.stored {w : World} {b : Nat} {v v' : Value} {P : Nat} {T T' : Nat → Bool} (h : RefR w b v P T) (hr : w.ownsRow 0 3 1 v' (tkl T' P).length (nats (tkl T' P))) : RefR (w.setCell ⟨b, 1, none⟩ v') b v' P T' := by
  refine ⟨set_blk h.blk 1 v', owns_only hr (Only.set (F := fun k => k = b) rfl _ _ _) (fun k hk e => ?_)⟩
  obtain ⟨cur, hc⟩ := (owns_blk hr k hk).2.2
  have hb := h.blk
  rw [show k = b from e, hb] at hc
  simp at hc
theorem RefR.frozen {w : World} {b : Nat} {v : Value} {P : Nat} {T : Nat → Bool} (h : RefR w b v P T) (j : Nat) : w.frozen? ⟨b, j, none⟩ = false := by
  unfold World.frozen?
  rw [show w.heap[(⟨b, j, none⟩ : Addr).block]? = _ from h.blk]
  simp

theorem rnew_bad (n : Int) (w : World) (hn : n < 4 ∨ 1048576 < n) : Calls Tryd.prog 26 #[.int .i64 n] w fun e w' => e = .returned (.tuple #[.pointer none, .int .i64 1]) ∧ w = w' := by
  rcases hn with hn | hn
  · go_enter Tryd.func26, Tryd.ntmps26
    go_wp2
    go_ret2
    exact ⟨rfl, rfl⟩
  · have h4 : ¬ n < 4 := by omega
    go_enter Tryd.func26, Tryd.ntmps26
    go_wp2
    go_ret2
    exact ⟨rfl, rfl⟩
theorem tkl_t0 (P : Nat) : tkl (T0 P) P = [] := by
  rw [List.eq_nil_iff_forall_not_mem]
  intro j hj
  have := tkl_mem.1 hj
  simp [T0] at this
  omega
theorem rnew_any (P : Nat) (w : World) (h4 : 4 ≤ P) (hP : P ≤ 1048576) : Calls Tryd.prog 26 #[.int .i64 (P : Int)] w fun e w' => e = .returned (.tuple #[.pointer (some ⟨w.heap.size, 0, none⟩), .int .i64 0]) ∧ RefR w' w.heap.size (.slice none 0 0) P (T0 P) ∧ Below w.heap.size w w' := by
  have HM : Hid (RefR (w.alloc (.cells #[.int .i64 P, .slice none 0 0] 80)) w.heap.size (.slice none 0 0) P (T0 P)) := ⟨heap_alloc_new _ _, by rw [tkl_t0]; exact World.ownsRow_nil _ _ _ _⟩
  have HB := hide (below_new w (.cells #[.int .i64 P, .slice none 0 0] 80))
  go_enter Tryd.func26, Tryd.ntmps26
  go_wp2
  go_ret2
  exact ⟨rfl, HM.out, HB.out⟩
theorem rsize_any (b : Nat) (v : Value) (P : Nat) (T : Nat → Bool) (w : World) (h : RefR w b v P T) : Calls Tryd.prog 47 #[.pointer (some ⟨b, 0, none⟩)] w fun e w' => e = .returned (.int .i64 P) ∧ w = w' := by
  have c0 := h.c0
  clear h
  go_enter Tryd.func47, Tryd.ntmps47
  go_wp2
  go_ret
  exact ⟨rfl, rfl⟩
theorem rfree_any (b : Nat) (v : Value) (P : Nat) (T : Nat → Bool) (w : World) (h : RefR w b v P T) (hok : MapOk P T) : Calls Tryd.prog 31 #[.pointer (some ⟨b, 0, none⟩)] w fun e w' => e = .returned (.int .i64 ((frl T P).length : Nat)) ∧ Below w.heap.size w w' := by
  have c0 := h.c0
  have c1 := h.c1
  obtain ⟨a, c, rfl, -⟩ := h.form
  have hl := tkl_len hok.t0 hok.t1 P (by have := hok.lo; omega)
  have hP := hok.hi
  have hP4 := hok.lo
  clear h hok
  generalize (tkl T P).length = tl at *
  generalize (frl T P).length = fl at *
  have htl : tl + 2 ≤ P := by omega
  have HE : Hid ((P : Int) - 2 - (tl : Int) = (fl : Int)) := by show _ = _; omega
  clear hl
  go_enter Tryd.func31, Tryd.ntmps31
  go_wp2_with fail
  go_quiet (fail)
  have HB : Hid (Below w.heap.size w (w.drewN nq)) := ⟨rfl, rfl, rfl, Nat.le_refl _, fun _ _ => rfl⟩
  go_wp2_with fail
  go_ret
  exact ⟨by rw [← HE.out]; rfl, HB.out⟩


def takB (P : Nat) (T : Nat → Bool) (id : Int) : Bool := treeB P id && T id.toNat
theorem takB_mem {P : Nat} {T : Nat → Bool} {id : Int} : takB P T id = true ↔ ∃ j ∈ tkl T P, (j : Int) = id := by
  unfold takB treeB
  constructor
  · intro h
    simp only [Bool.and_eq_true, decide_eq_true_eq] at h
    exact ⟨id.toNat, tkl_mem.2 ⟨by omega, by omega, h.2⟩, by omega⟩
  · rintro ⟨j, hj, rfl⟩
    obtain ⟨h1, h2, h3⟩ := tkl_mem.1 hj
    simp [h3]
    omega
set_option maxRecDepth 100000 in
set_option maxHeartbeats 1000000 in
theorem rtaken_any (b : Nat) (v : Value) (P : Nat) (T : Nat → Bool) (id : Int) (w : World) (h : RefR w b v P T) (hP : P ≤ 1048576) : Calls Tryd.prog 50 #[.pointer (some ⟨b, 0, none⟩), .int .i64 id] w fun e w' => e = .returned (.bool (takB P T id)) ∧ w = w' := by
  have c1 := h.c1
  obtain ⟨a, c, rfl, hc⟩ := h.form
  have HC := hide hc
  have hle := tkl_le T P
  obtain ⟨n, hn⟩ : ∃ n, n = (tkl T P).length := ⟨_, rfl⟩
  have HN := hide hn
  rw [← hn] at c1 hle
  clear hc h hn
  go_enter Tryd.func50, Tryd.ntmps50
  go_wp2_with fail
  go_loopw [5] (fun i wr => ∃ k : Nat, k ≤ n ∧ i = .int .i64 k ∧ Hid (∀ j (h : j < (tkl T P).length), j < k → ((tkl T P)[j] : Int) ≠ id) ∧ w = wr) (fun i _ => n - (intOf i).toNat)
  case atStart => exact ⟨0, Nat.zero_le _, rfl, fun j _ h => by omega, rfl⟩
  case round =>
    obtain ⟨k, hk, rfl, HA, rfl⟩ := hrel
    by_cases hlt : k < n
    · have hkl : k < (tkl T P).length := by rw [← HN.out]; exact hlt
      obtain ⟨g, rfl, ck⟩ := HC.out k hkl
      have HM : Hid ((tkl T P)[k] ∈ tkl T P) := List.getElem_mem hkl
      have HA2 : Hid (((tkl T P)[k] : Int) ≠ id → ∀ j (h : j < (tkl T P).length), j < k + 1 → ((tkl T P)[j] : Int) ≠ id) := fun hx j hj hjk => by
        by_cases hje : j = k
        · subst hje; exact hx
        · exact HA.out j hj (by omega)
      clear HC HA
      generalize (tkl T P)[k] = x at *
      clear hkl
      by_cases he : (x : Int) = id
      · have heq : ((x : Int) == id) = true := by simp [he]
        have HT : Hid (takB P T id = true) := takB_mem.2 ⟨x, HM.out, he⟩
        clear he
        go_wp2
        go_ret
        exact ⟨by rw [HT.out]; rfl, rfl⟩
      · have heq : ((x : Int) == id) = false := by simp [he]
        have HA3 := hide (HA2.out he)
        clear he HA2
        go_wp2
        go_roundw
        case rel => exact ⟨k + 1, by omega, by go_num, HA3, trivial⟩
        case measure => simp [intOf]; omega
    · have HT : Hid (takB P T id = false) := by
        show takB P T id = false
        cases hb : takB P T id with
        | false => rfl
        | true =>
          obtain ⟨j, hj, he⟩ := takB_mem.1 hb
          obtain ⟨i, hi, rfl⟩ := List.getElem_of_mem hj
          exact absurd he (HA.out i hi (by rw [← HN.out] at hi; omega))
      have hkI : ¬ (k : Int) < (n : Int) := by omega
      clear HA HC
      go_wp2
      go_ret
      exact ⟨by rw [HT.out]; rfl, rfl⟩
theorem used_ref {P : Nat} {T : Nat → Bool} (hok : MapOk P T) (id : Int) : usedB P T id = (decide (id = 0) || (decide (id = 1) || takB P T id)) := by
  have hlo := hok.lo
  unfold usedB takB treeB
  by_cases h0 : id = 0
  · subst h0; simp [hok.t0]; omega
  · by_cases h1 : id = 1
    · subst h1; simp [hok.t1]; omega
    · by_cases h2 : 2 ≤ id
      · simp [h0, h1, h2, show 0 ≤ id by omega]
      · simp [h0, h1, h2, show ¬ 0 ≤ id by omega]
set_option maxHeartbeats 400000 in
theorem rused_any (b : Nat) (v : Value) (P : Nat) (T : Nat → Bool) (id : Int) (w : World) (h : RefR w b v P T) (hok : MapOk P T) : Calls Tryd.prog 46 #[.pointer (some ⟨b, 0, none⟩), .int .i64 id] w fun e w' => e = .returned (.bool (usedB P T id)) ∧ w = w' := by
  have RT := hide (rtaken_any b v P T id w h hok.hi)
  have HU := hide (used_ref hok id)
  clear h hok
  generalize takB P T id = u at *
  generalize usedB P T id = r at *
  by_cases h0 : id = 0
  · subst h0
    have hr : r = true := by rw [HU.out]; simp
    go_enter Tryd.func46, Tryd.ntmps46
    go_wp2_with fail
    refine RT.out.mono ?_
    rintro e w1 ⟨rfl, rfl⟩
    go_wp2
    go_ret
    exact ⟨by rw [hr]; rfl, rfl⟩
  · by_cases h1 : id = 1
    · subst h1
      have hr : r = true := by rw [HU.out]; simp
      go_enter Tryd.func46, Tryd.ntmps46
      go_wp2_with fail
      refine RT.out.mono ?_
      rintro e w1 ⟨rfl, rfl⟩
      go_wp2
      go_ret
      exact ⟨by rw [hr]; rfl, rfl⟩
    · have hr : r = u := by rw [HU.out]; simp [h0, h1]
      have e0 : (id == 0) = false := by simp [h0]
      have e1 : (id == 1) = false := by simp [h1]
      subst hr
      clear h0 h1
      go_enter Tryd.func46, Tryd.ntmps46
      go_wp2_with fail
      refine RT.out.mono ?_
      rintro e w1 ⟨rfl, rfl⟩
      go_wp2
      go_ret
      exact ⟨rfl, rfl⟩

end Go.Proofs.YtdghlblgmihbpaaDoor
