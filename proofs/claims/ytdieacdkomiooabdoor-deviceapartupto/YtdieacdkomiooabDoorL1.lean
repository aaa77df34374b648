import Derived.Test.YtdieacdkomiooabDoorM13
namespace Go.Proofs.YtdieacdkomiooabDoor
open Go.RowKit Go.Maps

/-- Sectors that are read. -/
def SecsIn (w : World) (v : Value) (l : List Sec) : Prop := ∃ a cap g off, v = .slice a l.length cap ∧ l.length ≤ 5864062014805 ∧ (0 < l.length → a = some ⟨g, off, none⟩) ∧ ∀ j u, (secCells l)[j]? = some u → w.cell? ⟨g, off + j, none⟩ = some u
def FatesIn (w : World) (v : Value) (l : List Fate) : Prop := ∃ a cap g off, v = .slice a l.length cap ∧ l.length ≤ 3518437208883 ∧ (0 < l.length → a = some ⟨g, off, none⟩) ∧ ∀ j u, (fateCells l)[j]? = some u → w.cell? ⟨g, off + j, none⟩ = some u
theorem SecsIn.keep {w w' : World} {v : Value} {l : List Sec} (h : SecsIn w v l) (hb : Below w.heap.size w w') : SecsIn w' v l := by
  obtain ⟨a, cap, g, off, h1, h2, h3, h4⟩ := h
  exact ⟨a, cap, g, off, h1, h2, h3, fun j u hu => cell_below hb (h4 j u hu)⟩
theorem FatesIn.keep {w w' : World} {v : Value} {l : List Fate} (h : FatesIn w v l) (hb : Below w.heap.size w w') : FatesIn w' v l := by
  obtain ⟨a, cap, g, off, h1, h2, h3, h4⟩ := h
  exact ⟨a, cap, g, off, h1, h2, h3, fun j u hu => cell_below hb (h4 j u hu)⟩
theorem secsIn_own {w : World} {base : Nat} {v : Value} {l : List Sec} (h : w.ownsRow base 68 2 v l.length (secCells l)) (hl : l.length ≤ 5864062014805) : SecsIn w v l := by
  obtain ⟨a, c, rfl, ha⟩ := owns_form h
  by_cases h0 : 0 < l.length
  · obtain ⟨g, rfl⟩ := ha h0
    exact ⟨_, c, g, 0, rfl, hl, fun _ => rfl, fun j u hu => by rw [Nat.zero_add]; exact owns_cell h rfl j u hu⟩
  · obtain rfl : l = [] := List.length_eq_zero_iff.1 (by omega)
    exact ⟨a, c, 0, 0, rfl, hl, fun h => absurd h (by simp), fun j u hu => by simp [secCells] at hu⟩

set_option maxRecDepth 100000 in
set_option maxHeartbeats 800000 in
theorem sectors_any (l : List Sec) (v : Value) (w : World) (hv : SecsIn w v l) :
    Calls Tryd.prog 20 #[v] w fun e w' => ∃ v', e = .returned v' ∧ w'.ownsRow w.heap.size 68 2 v' l.length (secCells l) ∧ Below w.heap.size w w' := by
  obtain ⟨i0, hi, hz0, hz1, hz2⟩ := info_parts Tryd.info68
  obtain ⟨a, cap, g, off, rfl, hb, ha, hc⟩ := hv
  obtain ⟨n, hn⟩ : ∃ n, n = l.length := ⟨_, rfl⟩
  have HL : Hid ((secCells l).length = n * 2) := by rw [hn]; exact secCells_len l
  have H1 := secCells_one l
  rw [← hn] at hb ha ⊢
  have HZ : Hid (n = 0 → secCells l = []) := fun h => List.length_eq_zero_iff.1 (by rw [HL.out, h])
  generalize secCells l = xs at *
  clear hn
  go_enter Tryd.func20, Tryd.ntmps20
  rcases Nat.eq_zero_or_pos n with h0 | h0
  · subst h0
    obtain rfl := HZ.out rfl
    clear HZ ha hc
    cases a with
    | none =>
      go_wp2_with fail
      go_ret
      exact ⟨_, rfl, World.ownsRow_nil _ _ _ _, Below.refl _ _⟩
    | some ad =>
      go_wp2_with fail
      go_ret
      exact ⟨_, rfl, World.ownsRow_nil _ _ _ _, Below.refl _ _⟩
  · obtain rfl := ha h0
    clear HZ ha
    go_wp2_with (at_builtin; refine wpList_append_own _ rfl _ _ 22 rfl w.heap.size 68 i0 (.agg #[.int .i64 0, .string ⟨#[]⟩]) 2 24 Tryd.underlying22 hi hz0 hz1 hz2 rfl (by decide) _ _ _ rfl (World.ownsRow_nil _ _ _ _) ⟨g, off, none⟩ n cap xs rfl ?qc1 ?qc2 ?qc3 ?qc4 ?qc5 ?qc6 ?_)
    case qc1 => exact HL.out
    case qc2 =>
      intro j u hj
      rw [Addr.add_mid]
      exact hc j u hj
    case qc3 => exact H1
    case qc4 => unfold maxLen; omega
    case qc5 => omega
    case qc6 => exact Nat.le_refl _
    intro v' w1 hown hgrow hnil
    have HR : Hid (w1.ownsRow w.heap.size 68 2 v' n xs ∧ Below w.heap.size w w1) := ⟨by simpa using hown, (Below.refl _ w).grown hgrow (Nat.le_refl _) (by intro k hk; simp [Value.ownBlock] at hk)⟩
    clear hown hgrow hnil hc
    go_wp2_with fail
    go_ret
    exact ⟨v', rfl, HR.out⟩

set_option maxRecDepth 100000 in
set_option maxHeartbeats 800000 in
theorem fates_any (l : List Fate) (v : Value) (w : World) (hv : FatesIn w v l) :
    Calls Tryd.prog 10 #[v] w fun e w' => ∃ v', e = .returned v' ∧ w'.ownsRow w.heap.size 92 4 v' l.length (fateCells l) ∧ Below w.heap.size w w' := by
  obtain ⟨i0, hi, hz0, hz1, hz2⟩ := info_parts Tryd.info92
  obtain ⟨a, cap, g, off, rfl, hb, ha, hc⟩ := hv
  obtain ⟨n, hn⟩ : ∃ n, n = l.length := ⟨_, rfl⟩
  have HL : Hid ((fateCells l).length = n * 4) := by rw [hn]; exact fateCells_len l
  have H1 := fateCells_one l
  rw [← hn] at hb ha ⊢
  have HZ : Hid (n = 0 → fateCells l = []) := fun h => List.length_eq_zero_iff.1 (by rw [HL.out, h])
  generalize fateCells l = xs at *
  clear hn
  go_enter Tryd.func10, Tryd.ntmps10
  rcases Nat.eq_zero_or_pos n with h0 | h0
  · subst h0
    obtain rfl := HZ.out rfl
    clear HZ ha hc
    cases a with
    | none =>
      go_wp2_with fail
      go_ret
      exact ⟨_, rfl, World.ownsRow_nil _ _ _ _, Below.refl _ _⟩
    | some ad =>
      go_wp2_with fail
      go_ret
      exact ⟨_, rfl, World.ownsRow_nil _ _ _ _, Below.refl _ _⟩
  · obtain rfl := ha h0
    clear HZ ha
    go_wp2_with (at_builtin; refine wpList_append_own _ rfl _ _ 26 rfl w.heap.size 92 i0 (.agg #[.int .i64 0, .int .i64 0, .int .i64 0, .string ⟨#[]⟩]) 4 40 Tryd.underlying26 hi hz0 hz1 hz2 rfl (by decide) _ _ _ rfl (World.ownsRow_nil _ _ _ _) ⟨g, off, none⟩ n cap xs rfl ?qc1 ?qc2 ?qc3 ?qc4 ?qc5 ?qc6 ?_)
    case qc1 => exact HL.out
    case qc2 =>
      intro j u hj
      rw [Addr.add_mid]
      exact hc j u hj
    case qc3 => exact H1
    case qc4 => unfold maxLen; omega
    case qc5 => omega
    case qc6 => exact Nat.le_refl _
    intro v' w1 hown hgrow hnil
    have HR : Hid (w1.ownsRow w.heap.size 92 4 v' n xs ∧ Below w.heap.size w w1) := ⟨by simpa using hown, (Below.refl _ w).grown hgrow (Nat.le_refl _) (by intro k hk; simp [Value.ownBlock] at hk)⟩
    clear hown hgrow hnil hc
    go_wp2_with fail
    go_ret
    exact ⟨v', rfl, HR.out⟩

end Go.Proofs.YtdieacdkomiooabDoor
