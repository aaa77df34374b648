import Derived.Lib.TrailingZeros
namespace Go.Proofs.YtdghlblgmihbpaaDoor

/-- The number whose lowest n bits f says. -/
def wd : (Nat → Bool) → Nat → Nat
  | _, 0 => 0
  | f, n + 1 => (if f 0 then 1 else 0) + 2 * wd (fun j => f (j + 1)) n
theorem testBit_wd : ∀ (n : Nat) (f : Nat → Bool) (j : Nat), (wd f n).testBit j = (decide (j < n) && f j)
  | 0, f, j => by simp [wd]
  | n + 1, f, 0 => by
    rw [Nat.testBit_zero, wd]
    cases h : f 0 <;> simp <;> omega
  | n + 1, f, j + 1 => by
    have ih := testBit_wd n (fun j => f (j + 1)) j
    rw [Nat.testBit_succ, wd]
    have e : ((if f 0 = true then 1 else 0) + 2 * wd (fun j => f (j + 1)) n) / 2 = wd (fun j => f (j + 1)) n := by split <;> omega
    rw [e, ih]
    simp
theorem wd_lt : ∀ (n : Nat) (f : Nat → Bool), wd f n < 2 ^ n
  | 0, f => by simp [wd]
  | n + 1, f => by
    have ih := wd_lt n (fun j => f (j + 1))
    rw [wd, Nat.pow_succ]
    split <;> omega
theorem eq_wd {x n : Nat} {f : Nat → Bool} (hx : x < 2 ^ n) (h : ∀ j, j < n → x.testBit j = f j) : x = wd f n := by
  apply Nat.eq_of_testBit_eq
  intro j
  rw [testBit_wd]
  by_cases hj : j < n
  · simp [hj, h j hj]
  · rw [Nat.testBit_lt_two_pow (Nat.lt_of_lt_of_le hx (Nat.pow_le_pow_right (by decide) (by omega)))]
    simp [hj]

/-- The word i of a map. -/
def word (T : Nat → Bool) (i : Nat) : Nat := wd (fun j => T (64 * i + j)) 64
theorem word_lt (T : Nat → Bool) (i : Nat) : word T i < 18446744073709551616 := wd_lt 64 _
theorem testBit_word (T : Nat → Bool) (i j : Nat) : (word T i).testBit j = (decide (j < 64) && T (64 * i + j)) := testBit_wd 64 _ j
def upd (T : Nat → Bool) (id : Nat) (b : Bool) : Nat → Bool := fun j => if j = id then b else T j
theorem upd_self (T : Nat → Bool) (id : Nat) (b : Bool) : upd T id b id = b := by simp [upd]
theorem upd_ne (T : Nat → Bool) (id j : Nat) (b : Bool) (h : j ≠ id) : upd T id b j = T j := by simp [upd, h]
theorem word_upd_ne (T : Nat → Bool) (id : Nat) (b : Bool) (i : Nat) (h : i ≠ id / 64) : word (upd T id b) i = word T i := by
  apply Nat.eq_of_testBit_eq
  intro j
  rw [testBit_word, testBit_word]
  by_cases hj : j < 64
  · rw [upd_ne _ _ _ _ (by omega)]
  · simp [hj]
theorem two_pow_lt (id : Nat) : 2 ^ (id % 64) < 18446744073709551616 := Nat.pow_lt_pow_right (by decide) (by omega : id % 64 < 64)
theorem word_set (T : Nat → Bool) (id : Nat) : word T (id / 64) ||| 2 ^ (id % 64) = word (upd T id true) (id / 64) := by
  apply Nat.eq_of_testBit_eq
  intro j
  rw [Nat.testBit_or, testBit_word, testBit_word, Nat.testBit_two_pow]
  by_cases hj : j < 64
  · by_cases he : 64 * (id / 64) + j = id
    · rw [he, upd_self]
      have : id % 64 = j := by omega
      simp [hj, this]
    · rw [upd_ne _ _ _ _ he]
      have : ¬ id % 64 = j := by omega
      simp [hj, this]
  · have : ¬ id % 64 = j := by omega
    simp [hj, this]
theorem word_unset (T : Nat → Bool) (id x : Nat) (h : ∀ j, x.testBit j = (decide (j < 64) && ((word T (id / 64)).testBit j && !(2 ^ (id % 64)).testBit j))) : x = word (upd T id false) (id / 64) := by
  apply Nat.eq_of_testBit_eq
  intro j
  rw [h, testBit_word, testBit_word, Nat.testBit_two_pow]
  by_cases hj : j < 64
  · by_cases he : 64 * (id / 64) + j = id
    · rw [he, upd_self]
      have : id % 64 = j := by omega
      simp [hj, this]
    · rw [upd_ne _ _ _ _ he]
      have : ¬ id % 64 = j := by omega
      simp [hj, this]
  · simp [hj]
theorem and_two_pow (x i : Nat) : x &&& 2 ^ i = if x.testBit i then 2 ^ i else 0 := by
  apply Nat.eq_of_testBit_eq
  intro j
  rw [Nat.testBit_and, Nat.testBit_two_pow]
  by_cases h : i = j
  · subst h
    cases hx : x.testBit i <;> simp
  · split <;> simp [h]
theorem word_used (T : Nat → Bool) (id : Nat) : (word T (id / 64) &&& 2 ^ (id % 64) = 0) ↔ T id = false := by
  rw [and_two_pow, testBit_word]
  have h1 : id % 64 < 64 := by omega
  have h2 : 64 * (id / 64) + id % 64 = id := by omega
  have hp : 0 < 2 ^ (id % 64) := Nat.two_pow_pos _
  rw [h2]
  cases T id <;> simp [h1]

/-- How many of the first n are true. -/
def tr (f : Nat → Bool) : Nat → Nat
  | 0 => 0
  | n + 1 => tr f n + (if f n then 1 else 0)
theorem tr_congr {f g : Nat → Bool} : ∀ {n : Nat}, (∀ j, j < n → f j = g j) → tr f n = tr g n
  | 0, _ => rfl
  | n + 1, h => by rw [tr, tr, tr_congr (fun j hj => h j (by omega)), h n (by omega)]
theorem tr_le (f : Nat → Bool) : ∀ n, tr f n ≤ n
  | 0 => Nat.le_refl _
  | n + 1 => by have := tr_le f n; rw [tr]; split <;> omega
theorem tr_add (f : Nat → Bool) (m : Nat) : ∀ n, tr f (m + n) = tr f m + tr (fun j => f (m + j)) n
  | 0 => by simp [tr]
  | n + 1 => by rw [← Nat.add_assoc, tr, tr, tr_add f m n]; omega
theorem tr_word (T : Nat → Bool) (i : Nat) : tr T (64 * (i + 1)) = tr T (64 * i) + tr (word T i).testBit 64 := by
  rw [show 64 * (i + 1) = 64 * i + 64 by omega, tr_add]
  congr 1
  exact tr_congr fun j hj => by rw [testBit_word]; simp [hj]
/-- How many of the first n are false. -/
def fr (f : Nat → Bool) (n : Nat) : Nat := n - tr f n
/-- The false ones below n, rising. -/
def frl (f : Nat → Bool) : Nat → List Nat
  | 0 => []
  | n + 1 => frl f n ++ (if f n then [] else [n])
theorem frl_len (f : Nat → Bool) : ∀ n, (frl f n).length = fr f n
  | 0 => by simp [frl, fr, tr]
  | n + 1 => by
    have h := frl_len f n
    have h2 := tr_le f n
    unfold fr at h ⊢
    rw [frl, List.length_append, h, tr]
    split <;> simp <;> omega
theorem frl_true {f : Nat → Bool} {m : Nat} : ∀ n, (∀ j, m ≤ j → j < m + n → f j = true) → frl f (m + n) = frl f m
  | 0, _ => rfl
  | n + 1, h => by rw [← Nat.add_assoc, frl, frl_true n (fun j h1 h2 => h j h1 (by omega)), h (m + n) (by omega) (by omega)]; simp
theorem frl_pre (f : Nat → Bool) {m n : Nat} (h : m ≤ n) : ∃ r, frl f n = frl f m ++ r := by
  obtain ⟨d, rfl⟩ : ∃ d, n = m + d := ⟨n - m, by omega⟩
  clear h
  induction d with
  | zero => exact ⟨[], by simp⟩
  | succ d ih =>
    obtain ⟨r, hr⟩ := ih
    exact ⟨r ++ (if f (m + d) then [] else [m + d]), by rw [← Nat.add_assoc, frl, hr, List.append_assoc]⟩
theorem frl_mem (f : Nat → Bool) : ∀ {n j : Nat}, j ∈ frl f n ↔ j < n ∧ f j = false
  | 0, j => by simp [frl]
  | n + 1, j => by
    rw [frl, List.mem_append, frl_mem f]
    by_cases hj : j = n
    · subst hj
      cases h : f j <;> simp
    · cases h : f n <;> simp [hj] <;> omega
theorem frl_congr {f g : Nat → Bool} : ∀ {n : Nat}, (∀ j, j < n → f j = g j) → frl f n = frl g n
  | 0, _ => rfl
  | n + 1, h => by rw [frl, frl, frl_congr (fun j hj => h j (by omega)), h n (by omega)]

/-- The free bits of word i from k on. -/
def zw (T : Nat → Bool) (i k : Nat) : Nat := wd (fun j => decide (k ≤ j) && !T (64 * i + j)) 64
theorem zw_lt (T : Nat → Bool) (i k : Nat) : zw T i k < 18446744073709551616 := wd_lt 64 _
theorem testBit_zw (T : Nat → Bool) (i k j : Nat) : (zw T i k).testBit j = (decide (j < 64) && (decide (k ≤ j) && !T (64 * i + j))) := testBit_wd 64 _ j
theorem zw_zero (T : Nat → Bool) (i : Nat) : zw T i 0 = 18446744073709551615 - word T i := by
  have e : 18446744073709551615 - word T i = 2 ^ 64 - (word T i + 1) := by omega
  rw [e]
  apply Nat.eq_of_testBit_eq
  intro j
  rw [testBit_zw, Nat.testBit_two_pow_sub_succ (word_lt T i), testBit_word]
  by_cases hj : j < 64 <;> simp [hj]
theorem zw_none {T : Nat → Bool} {i k : Nat} (h : zw T i k = 0) : ∀ j, k ≤ j → j < 64 → T (64 * i + j) = true := by
  intro j h1 h2
  have := testBit_zw T i k j
  rw [h] at this
  simpa [h1, h2] using this
theorem clear_low (t m j : Nat) : ((2 ^ t * (2 * m + 1)) &&& (2 ^ t * (2 * m + 1) - 1)).testBit j = ((2 ^ t * (2 * m + 1)).testBit j && !decide (j = t)) := by
  have hp : 0 < 2 ^ t := Nat.two_pow_pos t
  have e : 2 ^ t * (2 * m + 1) - 1 = 2 ^ t * (2 * m) + (2 ^ t - 1) := by
    rw [Nat.mul_add, Nat.mul_one]; omega
  rw [Nat.testBit_and, e]
  by_cases hj : j < t
  · have h0 : (2 ^ t * (2 * m + 1)).testBit j = false := by
      rw [Nat.testBit_two_pow_mul]; simp; omega
    rw [h0]; simp
  · have h1 : (2 ^ t * (2 * m) + (2 ^ t - 1)).testBit j = (2 * m).testBit (j - t) := by
      rw [Nat.testBit_two_pow_mul_add _ (by omega)]
      simp [hj]
    have h2 : (2 ^ t * (2 * m + 1)).testBit j = (2 * m + 1).testBit (j - t) := by
      rw [Nat.testBit_two_pow_mul]
      simp [show t ≤ j by omega]
    rw [h1, h2]
    by_cases he : j = t
    · subst he
      rw [Nat.sub_self, Nat.testBit_zero, Nat.testBit_zero]
      simp
    · obtain ⟨d, hd⟩ : ∃ d, j - t = d + 1 := ⟨j - t - 1, by omega⟩
      rw [hd, Nat.testBit_succ, Nat.testBit_succ, show (2 * m + 1) / 2 = m by omega, show 2 * m / 2 = m by omega]
      simp [he]
/-- The lowest of them. -/
theorem zw_step {T : Nat → Bool} {i k : Nat} (h : zw T i k ≠ 0) : ∃ t, Lib.ctz 64 (zw T i k) = t ∧ k ≤ t ∧ t < 64 ∧ T (64 * i + t) = false ∧ (∀ j, k ≤ j → j < t → T (64 * i + j) = true) ∧ zw T i k &&& (zw T i k - 1) = zw T i (t + 1) := by
  obtain ⟨m, hm, hk⟩ := Lib.ctzFrom_spec 64 (zw T i k) (by omega) (zw_lt T i k)
  have e : Lib.ctz 64 (zw T i k) = Lib.ctzFrom 64 (zw T i k) := by simp [Lib.ctz, h]
  generalize ht : Lib.ctzFrom 64 (zw T i k) = t at hm hk
  rw [ht] at e
  have hb : ∀ j, (zw T i k).testBit j = (2 ^ t * (2 * m + 1)).testBit j := fun j => by rw [← hm]
  have h1 : (zw T i k).testBit t = true := by
    rw [hb, Nat.testBit_two_pow_mul]
    simp [Nat.testBit_zero]
  have h2 : ∀ j, j < t → (zw T i k).testBit j = false := fun j hj => by
    rw [hb, Nat.testBit_two_pow_mul]; simp; omega
  rw [testBit_zw] at h1
  simp only [hk, decide_true, Bool.true_and, Bool.and_eq_true, decide_eq_true_eq, Bool.not_eq_true'] at h1
  refine ⟨t, e, h1.1, hk, h1.2, fun j a b => ?_, ?_⟩
  · have := h2 j b
    rw [testBit_zw] at this
    simpa [show j < 64 by omega, a] using this
  · apply Nat.eq_of_testBit_eq
    intro j
    have hc := clear_low t m j
    rw [← hm] at hc
    rw [hc, testBit_zw, testBit_zw]
    by_cases hj : j < 64
    · by_cases h3 : j < t
      · have h4 := h2 j h3
        rw [testBit_zw] at h4
        rw [h4]
        simp [show ¬ t + 1 ≤ j by omega]
      · by_cases h4 : j = t
        · subst h4; simp; intro _ h; omega
        · simp [hj, h4, show k ≤ j by omega, show t + 1 ≤ j by omega]
    · simp [hj]

end Go.Proofs.YtdghlblgmihbpaaDoor
