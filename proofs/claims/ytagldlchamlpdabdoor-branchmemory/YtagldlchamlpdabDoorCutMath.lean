import Derived.Test.YtagldlchamlpdabDoorBase
namespace Go.Proofs.YtagldlchamlpdabDoor

/-- The sum of the first i sizes. -/
def pre (l : List Int) (i : Nat) : Int := (l.take i).sum
theorem pre_zero (l : List Int) : pre l 0 = 0 := by simp [pre]
theorem pre_succ (l : List Int) (i : Nat) (h : i < l.length) : pre l (i + 1) = pre l i + l[i] := by
  unfold pre
  rw [List.take_succ_eq_append_getElem h, List.sum_append]; simp
theorem pre_all (l : List Int) (i : Nat) (h : l.length ≤ i) : pre l i = pre l l.length := by
  unfold pre
  rw [List.take_of_length_le h, List.take_of_length_le (Nat.le_refl _)]
def FineL (l : List Int) : Prop := ∀ i (h : i < l.length), 1 ≤ l[i] ∧ l[i] ≤ 4072
theorem pre_mono {l : List Int} (hf : FineL l) (i : Nat) : ∀ j, i ≤ j → j ≤ l.length → pre l i + (j - i : Nat) ≤ pre l j := by
  intro j hij
  induction j with
  | zero => intro _; have : i = 0 := by omega
            subst this; simp
  | succ j ih =>
    intro hj
    by_cases h : i = j + 1
    · subst h; simp
    · have h1 := ih (by omega) (by omega)
      have h2 := pre_succ l j (by omega)
      have h3 := (hf j (by omega)).1
      omega
theorem pre_bound {l : List Int} (hf : FineL l) : ∀ j, j ≤ l.length → 0 ≤ pre l j ∧ pre l j ≤ 4072 * (j : Int) := by
  intro j
  induction j with
  | zero => intro _; rw [pre_zero]; omega
  | succ j ih =>
    intro hj
    have h1 := ih (by omega)
    have h2 := pre_succ l j (by omega)
    have h3 := hf j (by omega)
    omega

def gapC (l : List Int) (i : Nat) : Nat := (pre l i - (pre l l.length - pre l i)).natAbs
def gapP (l : List Int) (i : Nat) : Nat := (pre l i - (pre l l.length - pre l (i + 1))).natAbs
/-- The least place from 1 to hi at which f is least. -/
def IsBest (f : Nat → Nat) (hi i : Nat) : Prop := (1 ≤ i ∧ i ≤ hi) ∧ ∀ j, 1 ≤ j → j ≤ hi → f i ≤ f j ∧ (j < i → f i < f j)
theorem IsBest.unique {f : Nat → Nat} {hi i j : Nat} (h : IsBest f hi i) (k : IsBest f hi j) : i = j := by
  have a := h.2 j k.1.1 k.1.2
  have b := k.2 i h.1.1 h.1.2
  rcases Nat.lt_trichotomy i j with h' | h' | h'
  · have := b.2 h'; omega
  · exact h'
  · have := a.2 h'; omega
/-- A place behind which a thing first holds. -/
theorem first_place (p : Nat → Prop) [DecidablePred p] : ∀ n, p n → ∃ j, j ≤ n ∧ p j ∧ ∀ k, k < j → ¬ p k := by
  intro n
  induction n using Nat.strongRecOn with
  | ind n ih =>
    intro hp
    by_cases h : ∃ k, k < n ∧ p k
    · obtain ⟨k, hk, hpk⟩ := h
      obtain ⟨j, h1, h2, h3⟩ := ih k hk hpk
      exact ⟨j, by omega, h2, h3⟩
    · exact ⟨n, Nat.le_refl _, hp, fun k hk hpk => h ⟨k, hk, hpk⟩⟩

theorem cut_even {l : List Int} {m : Int} {i : Nat} (hf : FineL l) (h2 : 2 ≤ l.length) (hm : ∀ k (h : k < l.length), l[k] ≤ m) (hb : IsBest (gapC l) (l.length - 1) i) : (gapC l i : Int) ≤ m := by
  suffices h : ∃ j, 1 ≤ j ∧ j ≤ l.length - 1 ∧ (gapC l j : Int) ≤ m by
    obtain ⟨j, j1, j2, j3⟩ := h
    have := (hb.2 j j1 j2).1
    omega
  obtain ⟨j, h1, h2', h3⟩ := first_place (fun j => pre l l.length ≤ 2 * pre l j) l.length (by have := (pre_bound hf l.length (Nat.le_refl _)).1; show _ ≤ _; omega)
  have T0 := pre_mono hf 0 l.length (by omega) (by omega)
  rw [pre_zero] at T0
  have hj0 : j ≠ 0 := by rintro rfl; rw [pre_zero] at h2'; omega
  obtain ⟨k, rfl⟩ : ∃ k, j = k + 1 := ⟨j - 1, by omega⟩
  have h4 := h3 k (by omega)
  have hk := pre_succ l k (by omega)
  have hmk := hm k (by omega)
  have hp := (pre_bound hf k (by omega)).1
  have hq := pre_mono hf (k + 1) l.length (by omega) (Nat.le_refl _)
  by_cases ha : k + 1 = l.length
  · refine ⟨k, by omega, by omega, ?_⟩
    rw [ha] at hk
    unfold gapC; omega
  · by_cases hz : k = 0
    · subst hz
      rw [pre_zero] at *
      exact ⟨0 + 1, by omega, by omega, by unfold gapC; omega⟩
    · by_cases hc : (gapC l (k + 1) : Int) ≤ m
      · exact ⟨k + 1, by omega, by omega, hc⟩
      · refine ⟨k, by omega, by omega, ?_⟩
        unfold gapC at hc ⊢; omega

theorem pivot_even {l : List Int} {m : Int} {i : Nat} (hf : FineL l) (h2 : 3 ≤ l.length) (hm : ∀ k (h : k < l.length), l[k] ≤ m) (hb : IsBest (gapP l) (l.length - 2) i) : (gapP l i : Int) ≤ m := by
  suffices h : ∃ j, 1 ≤ j ∧ j ≤ l.length - 2 ∧ (gapP l j : Int) ≤ m by
    obtain ⟨j, j1, j2, j3⟩ := h
    have := (hb.2 j j1 j2).1
    omega
  have B := fun j hj => (pre_bound hf j hj).1
  obtain ⟨j, h1, h2', h3⟩ := first_place (fun j => pre l l.length ≤ pre l j + pre l (j + 1)) (l.length - 1) (by
    have := B (l.length - 1) (by omega); show _ ≤ _; rw [show l.length - 1 + 1 = l.length by omega]; omega)
  have hj0 : j ≠ 0 := by
    rintro rfl
    have := pre_mono hf (0 + 1) l.length (by omega) (by omega)
    rw [pre_zero] at h2'; omega
  obtain ⟨k, rfl⟩ : ∃ k, j = k + 1 := ⟨j - 1, by omega⟩
  have h4 := h3 k (by omega)
  have hk := pre_succ l k (by omega)
  have hk1 := pre_succ l (k + 1) (by omega)
  have hmk := hm k (by omega)
  have hmk1 := hm (k + 1) (by omega)
  have hp := B k (by omega)
  have hq := pre_mono hf (k + 1 + 1) l.length (by omega) (Nat.le_refl _)
  by_cases ha : k + 1 = l.length - 1
  · refine ⟨k, by omega, by omega, ?_⟩
    rw [show k + 1 + 1 = l.length by omega] at hk1
    unfold gapP; omega
  · by_cases hz : k = 0
    · subst hz
      rw [pre_zero] at *
      exact ⟨0 + 1, by omega, by omega, by unfold gapP; omega⟩
    · by_cases hc : (gapP l (k + 1) : Int) ≤ m
      · exact ⟨k + 1, by omega, by omega, hc⟩
      · refine ⟨k, by omega, by omega, ?_⟩
        unfold gapP at hc ⊢; omega


theorem IsBest.one (f : Nat → Nat) : IsBest f 1 1 := ⟨⟨Nat.le_refl _, Nat.le_refl _⟩, fun j h1 h2 => by
  have : j = 1 := by omega
  subst this; exact ⟨Nat.le_refl _, fun h => by omega⟩⟩
theorem IsBest.stepNew {f : Nat → Nat} {k i : Nat} (h : IsBest f k i) (hf : f (k + 1) < f i) : IsBest f (k + 1) (k + 1) :=
  ⟨⟨by omega, Nat.le_refl _⟩, fun j h1 h2 => by
    by_cases hj : j = k + 1
    · subst hj; exact ⟨Nat.le_refl _, fun h => by omega⟩
    · have := (h.2 j h1 (by omega)).1
      exact ⟨by omega, fun _ => by omega⟩⟩
theorem IsBest.stepOld {f : Nat → Nat} {k i : Nat} (h : IsBest f k i) (hf : ¬ f (k + 1) < f i) : IsBest f (k + 1) i :=
  ⟨⟨h.1.1, by have := h.1.2; omega⟩, fun j h1 h2 => by
    by_cases hj : j = k + 1
    · subst hj; exact ⟨by omega, fun h' => by have := h.1.2; omega⟩
    · exact h.2 j h1 (by omega)⟩
theorem gapC_lt {l : List Int} (hf : FineL l) (j : Nat) (h1 : 1 ≤ j) (h2 : j + 1 ≤ l.length) : (gapC l j : Int) < pre l l.length := by
  have a := pre_mono hf 0 j (by omega) (by omega)
  have b := pre_mono hf j l.length (by omega) (by omega)
  rw [pre_zero] at a
  unfold gapC; omega
theorem gapP_lt {l : List Int} (hf : FineL l) (j : Nat) (h1 : 1 ≤ j) (h2 : j + 2 ≤ l.length) : (gapP l j : Int) < pre l l.length := by
  have a := pre_mono hf 0 j (by omega) (by omega)
  have b := pre_mono hf (j + 1) l.length (by omega) (by omega)
  have c := pre_mono hf j (j + 1) (by omega) (by omega)
  rw [pre_zero] at a
  unfold gapP; omega

end Go.Proofs.YtagldlchamlpdabDoor
