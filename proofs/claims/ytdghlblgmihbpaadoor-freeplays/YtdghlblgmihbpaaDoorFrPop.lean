import Derived.Test.YtdghlblgmihbpaaDoorFrMath
namespace Go.Proofs.YtdghlblgmihbpaaDoor

def rep (c : Nat) : Nat → Nat
  | 0 => 0
  | k + 1 => c + 256 * rep c k
theorem rep_succ (c k : Nat) : rep c (k + 1) = c + 256 * rep c k := rfl
theorem and_256 (a c p q : Nat) (ha : a < 256) (hc : c < 256) : (a + 256 * p) &&& (c + 256 * q) = (a &&& c) + 256 * (p &&& q) := by
  have h1 := Nat.and_mod_two_pow (a := a + 256 * p) (b := c + 256 * q) (n := 8)
  have h2 := Nat.and_div_two_pow (a := a + 256 * p) (b := c + 256 * q) (n := 8)
  rw [show (a + 256 * p) % 2 ^ 8 = a by omega, show (c + 256 * q) % 2 ^ 8 = c by omega] at h1
  rw [show (a + 256 * p) / 2 ^ 8 = p by omega, show (c + 256 * q) / 2 ^ 8 = q by omega] at h2
  omega
def g1 (b : Nat) : Nat := ((b / 2) &&& 85) + (b &&& 85)
def g2 (b : Nat) : Nat := ((b / 4) &&& 51) + (b &&& 51)
def g3 (b : Nat) : Nat := b / 16 + b % 16
def S1 (k x : Nat) : Nat := ((x / 2) &&& rep 85 k) + (x &&& rep 85 k)
def S2 (k x : Nat) : Nat := ((x / 4) &&& rep 51 k) + (x &&& rep 51 k)
def S3 (k x : Nat) : Nat := (x / 16 + x) &&& rep 15 k
theorem d85 : ∀ b : Fin 128, ∀ t : Fin 2, (b.val + 128 * t.val) &&& 85 = b.val &&& 85 := by decide +kernel
theorem d51 : ∀ b : Fin 64, ∀ t : Fin 4, (b.val + 64 * t.val) &&& 51 = b.val &&& 51 := by decide +kernel
theorem S1_succ (k x : Nat) : S1 (k + 1) x = g1 (x % 256) + 256 * S1 k (x / 256) := by
  unfold S1 g1
  rw [rep_succ]
  have e1 : x / 2 = (x % 256 / 2 + 128 * (x / 256 % 2)) + 256 * (x / 256 / 2) := by omega
  have e2 : x = x % 256 + 256 * (x / 256) := by omega
  have a1 : (x / 2) &&& (85 + 256 * rep 85 k) = ((x % 256 / 2) &&& 85) + 256 * ((x / 256 / 2) &&& rep 85 k) := by
    rw [e1, and_256 _ _ _ _ (by omega) (by decide), d85 ⟨x % 256 / 2, by omega⟩ ⟨x / 256 % 2, by omega⟩]
  have a2 : x &&& (85 + 256 * rep 85 k) = ((x % 256) &&& 85) + 256 * ((x / 256) &&& rep 85 k) := by
    have := and_256 (x % 256) 85 (x / 256) (rep 85 k) (by omega) (by decide)
    rw [← e2] at this; exact this
  rw [a1, a2]; omega
theorem S2_succ (k x : Nat) : S2 (k + 1) x = g2 (x % 256) + 256 * S2 k (x / 256) := by
  unfold S2 g2
  rw [rep_succ]
  have e1 : x / 4 = (x % 256 / 4 + 64 * (x / 256 % 4)) + 256 * (x / 256 / 4) := by omega
  have e2 : x = x % 256 + 256 * (x / 256) := by omega
  have a1 : (x / 4) &&& (51 + 256 * rep 51 k) = ((x % 256 / 4) &&& 51) + 256 * ((x / 256 / 4) &&& rep 51 k) := by
    rw [e1, and_256 _ _ _ _ (by omega) (by decide), d51 ⟨x % 256 / 4, by omega⟩ ⟨x / 256 % 4, by omega⟩]
  have a2 : x &&& (51 + 256 * rep 51 k) = ((x % 256) &&& 51) + 256 * ((x / 256) &&& rep 51 k) := by
    have := and_256 (x % 256) 51 (x / 256) (rep 51 k) (by omega) (by decide)
    rw [← e2] at this; exact this
  rw [a1, a2]; omega
/-- Every byte of x is two numbers of at most 4. -/
def Nb : Nat → Nat → Prop
  | 0, x => x = 0
  | k + 1, x => x % 256 % 16 ≤ 4 ∧ x % 256 / 16 ≤ 4 ∧ Nb k (x / 256)
theorem Nb.low : ∀ {k x : Nat}, Nb k x → x % 16 ≤ 4
  | 0, x, h => by rw [show x = 0 from h]; decide
  | k + 1, x, h => by have := h.1; omega
theorem S3_succ (k x : Nat) (h : Nb (k + 1) x) : S3 (k + 1) x = g3 (x % 256) + 256 * S3 k (x / 256) := by
  obtain ⟨h1, h2, h3⟩ := h
  have h4 := h3.low
  unfold S3 g3
  rw [rep_succ]
  have e1 : x / 16 + x = (x % 256 / 16 + x % 256 + 16 * (x / 256 % 16)) + 256 * (x / 256 / 16 + x / 256) := by omega
  rw [e1, and_256 _ _ _ _ (by omega) (by decide)]
  have : (x % 256 / 16 + x % 256 + 16 * (x / 256 % 16)) &&& 15 = x % 256 / 16 + x % 256 % 16 := by
    rw [show (15 : Nat) = 2 ^ 4 - 1 by decide, Nat.and_two_pow_sub_one_eq_mod]
    omega
  rw [this]
theorem d1 : ∀ b : Fin 256, g1 b.val < 256 ∧ g2 (g1 b.val) < 256 ∧ g2 (g1 b.val) % 16 ≤ 4 ∧ g2 (g1 b.val) / 16 ≤ 4 ∧ g3 (g2 (g1 b.val)) = tr b.val.testBit 8 := by decide +kernel
theorem S12_succ (k x : Nat) : S2 (k + 1) (S1 (k + 1) x) = g2 (g1 (x % 256)) + 256 * S2 k (S1 k (x / 256)) := by
  have h := d1 ⟨x % 256, by omega⟩
  simp only at h
  rw [S2_succ, S1_succ, show (g1 (x % 256) + 256 * S1 k (x / 256)) % 256 = g1 (x % 256) by omega, show (g1 (x % 256) + 256 * S1 k (x / 256)) / 256 = S1 k (x / 256) by omega]
theorem S12_nb : ∀ (k x : Nat), Nb k (S2 k (S1 k x))
  | 0, x => by show S2 0 (S1 0 x) = 0; simp [S2, S1, rep]
  | k + 1, x => by
    have h := d1 ⟨x % 256, by omega⟩
    simp only at h
    have ih := S12_nb k (x / 256)
    rw [S12_succ]
    refine ⟨by omega, by omega, ?_⟩
    rw [show (g2 (g1 (x % 256)) + 256 * S2 k (S1 k (x / 256))) / 256 = S2 k (S1 k (x / 256)) by omega]
    exact ih
theorem S123_succ (k x : Nat) : S3 (k + 1) (S2 (k + 1) (S1 (k + 1) x)) = tr (x % 256).testBit 8 + 256 * S3 k (S2 k (S1 k (x / 256))) := by
  have h := d1 ⟨x % 256, by omega⟩
  simp only at h
  rw [S3_succ _ _ (S12_nb (k + 1) x), S12_succ, show (g2 (g1 (x % 256)) + 256 * S2 k (S1 k (x / 256))) % 256 = g2 (g1 (x % 256)) by omega, show (g2 (g1 (x % 256)) + 256 * S2 k (S1 k (x / 256))) / 256 = S2 k (S1 k (x / 256)) by omega, h.2.2.2.2]
theorem tr_byte (k x : Nat) : tr x.testBit (8 * (k + 1)) = tr (x % 256).testBit 8 + tr (x / 256).testBit (8 * k) := by
  rw [show 8 * (k + 1) = 8 + 8 * k by omega, tr_add]
  congr 1
  · exact tr_congr fun j hj => by rw [show (256 : Nat) = 2 ^ 8 by decide, Nat.testBit_mod_two_pow]; simp [hj]
  · exact tr_congr fun j hj => by rw [show (256 : Nat) = 2 ^ 8 by decide, Nat.testBit_div_two_pow, Nat.add_comm]
theorem sums (y e0 e1 e2 e3 e4 e5 e6 e7 : Nat) (h0 : e0 ≤ 8) (h1 : e1 ≤ 8) (h2 : e2 ≤ 8) (h3 : e3 ≤ 8) (h4 : e4 ≤ 8) (h5 : e5 ≤ 8) (h6 : e6 ≤ 8) (h7 : e7 ≤ 8)
    (hy : y = e0 + 256 * (e1 + 256 * (e2 + 256 * (e3 + 256 * (e4 + 256 * (e5 + 256 * (e6 + 256 * e7))))))) :
    ∃ s4 s5 s6, y < 1152921504606846976 ∧ y + y / 256 = s4 ∧ s4 + s4 / 65536 = s5 ∧ s5 + s5 / 4294967296 = s6 ∧ s4 < 2305843009213693952 ∧ s5 < 2305843009213693952 ∧ s6 < 2305843009213693952 ∧ s6 % 128 = e0 + e1 + e2 + e3 + e4 + e5 + e6 + e7 := by
  obtain ⟨r4, hr4⟩ : ∃ r, r = e4 + 256 * (e5 + 256 * (e6 + 256 * e7)) := ⟨_, rfl⟩
  obtain ⟨r5, hr5⟩ : ∃ r, r = e5 + 256 * (e6 + 256 * e7) := ⟨_, rfl⟩
  obtain ⟨r6, hr6⟩ : ∃ r, r = e6 + 256 * e7 := ⟨_, rfl⟩
  obtain ⟨r2, hr2⟩ : ∃ r, r = e2 + 256 * (e3 + 256 * r4) := ⟨_, rfl⟩
  obtain ⟨r1, hr1⟩ : ∃ r, r = e1 + 256 * r2 := ⟨_, rfl⟩
  obtain ⟨r3, hr3⟩ : ∃ r, r = e3 + 256 * r4 := ⟨_, rfl⟩
  have y1 : y = e0 + 256 * r1 := by omega
  have q1 : y / 256 = r1 := by omega
  have q4 : (y + r1) / 65536 = r2 + r3 := by omega
  have q5 : (y + r1 + (r2 + r3)) / 4294967296 = r4 + r5 + r6 + e7 := by omega
  have b4 : r4 ≤ 134744072 := by omega
  have b3 : r3 ≤ 34494482440 := by omega
  have b2 : r2 ≤ 8830587504648 := by omega
  have b1 : r1 ≤ 2260630401189896 := by omega
  have b0 : y ≤ 578721382704613384 := by omega
  refine ⟨y + r1, y + r1 + (r2 + r3), y + r1 + (r2 + r3) + (r4 + r5 + r6 + e7), by omega, by rw [q1], by rw [q4], by rw [q5], by omega, by omega, by omega, by omega⟩
/-- What bits.OnesCount64 reckons. -/
theorem pop_core (x : Nat) (_hx : x < 18446744073709551616) : ∃ s1 s2 s3 s4 s5 s6, ((x / 2) &&& 6148914691236517205) + (x &&& 6148914691236517205) = s1 ∧ ((s1 / 4) &&& 3689348814741910323) + (s1 &&& 3689348814741910323) = s2 ∧ (s2 / 16 + s2) &&& 1085102592571150095 = s3 ∧
    s3 + s3 / 256 = s4 ∧ s4 + s4 / 65536 = s5 ∧ s5 + s5 / 4294967296 = s6 ∧ s6 % 128 = tr x.testBit 64 ∧ s3 < 1152921504606846976 ∧ s4 < 2305843009213693952 ∧ s5 < 2305843009213693952 ∧ s6 < 2305843009213693952 := by
  have m1 : rep 85 8 = 6148914691236517205 := by decide
  have m2 : rep 51 8 = 3689348814741910323 := by decide
  have m3 : rep 15 8 = 1085102592571150095 := by decide
  have H : ∃ x1 x2 x3 x4 x5 x6 x7, S3 8 (S2 8 (S1 8 x)) = tr (x % 256).testBit 8 + 256 * (tr (x1 % 256).testBit 8 + 256 * (tr (x2 % 256).testBit 8 + 256 * (tr (x3 % 256).testBit 8 + 256 * (tr (x4 % 256).testBit 8 + 256 * (tr (x5 % 256).testBit 8 + 256 * (tr (x6 % 256).testBit 8 + 256 * (tr (x7 % 256).testBit 8))))))) ∧
      tr x.testBit 64 = tr (x % 256).testBit 8 + tr (x1 % 256).testBit 8 + tr (x2 % 256).testBit 8 + tr (x3 % 256).testBit 8 + tr (x4 % 256).testBit 8 + tr (x5 % 256).testBit 8 + tr (x6 % 256).testBit 8 + tr (x7 % 256).testBit 8 := by
    refine ⟨x / 256, x / 256 / 256, x / 256 / 256 / 256, x / 256 / 256 / 256 / 256, x / 256 / 256 / 256 / 256 / 256, x / 256 / 256 / 256 / 256 / 256 / 256, x / 256 / 256 / 256 / 256 / 256 / 256 / 256, ?_, ?_⟩
    · rw [S123_succ 7, S123_succ 6, S123_succ 5, S123_succ 4, S123_succ 3, S123_succ 2, S123_succ 1, S123_succ 0]
      have : ∀ z, S3 0 (S2 0 (S1 0 z)) = 0 := fun z => by simp [S3, rep]
      rw [this]
      simp only [Nat.mul_zero, Nat.add_zero]
    · have t7 : tr (x).testBit 64 = tr (x % 256).testBit 8 + tr (x / 256).testBit 56 := tr_byte 7 _
      have t6 : tr (x / 256).testBit 56 = tr (x / 256 % 256).testBit 8 + tr (x / 256 / 256).testBit 48 := tr_byte 6 _
      have t5 : tr (x / 256 / 256).testBit 48 = tr (x / 256 / 256 % 256).testBit 8 + tr (x / 256 / 256 / 256).testBit 40 := tr_byte 5 _
      have t4 : tr (x / 256 / 256 / 256).testBit 40 = tr (x / 256 / 256 / 256 % 256).testBit 8 + tr (x / 256 / 256 / 256 / 256).testBit 32 := tr_byte 4 _
      have t3 : tr (x / 256 / 256 / 256 / 256).testBit 32 = tr (x / 256 / 256 / 256 / 256 % 256).testBit 8 + tr (x / 256 / 256 / 256 / 256 / 256).testBit 24 := tr_byte 3 _
      have t2 : tr (x / 256 / 256 / 256 / 256 / 256).testBit 24 = tr (x / 256 / 256 / 256 / 256 / 256 % 256).testBit 8 + tr (x / 256 / 256 / 256 / 256 / 256 / 256).testBit 16 := tr_byte 2 _
      have t1 : tr (x / 256 / 256 / 256 / 256 / 256 / 256).testBit 16 = tr (x / 256 / 256 / 256 / 256 / 256 / 256 % 256).testBit 8 + tr (x / 256 / 256 / 256 / 256 / 256 / 256 / 256).testBit 8 := tr_byte 1 _
      have t0 : tr (x / 256 / 256 / 256 / 256 / 256 / 256 / 256).testBit 8 = tr (x / 256 / 256 / 256 / 256 / 256 / 256 / 256 % 256).testBit 8 + tr (x / 256 / 256 / 256 / 256 / 256 / 256 / 256 / 256).testBit 0 := tr_byte 0 _
      have t : tr (x / 256 / 256 / 256 / 256 / 256 / 256 / 256 / 256).testBit 0 = 0 := rfl
      omega
  obtain ⟨x1, x2, x3, x4, x5, x6, x7, hs, ht⟩ := H
  have hb : ∀ z, tr (z % 256).testBit 8 ≤ 8 := fun z => tr_le _ 8
  obtain ⟨s4, s5, s6, a0, a1, a2, a3, b4, b5, b6, a4⟩ := sums _ _ _ _ _ _ _ _ _ (hb x) (hb x1) (hb x2) (hb x3) (hb x4) (hb x5) (hb x6) (hb x7) hs
  unfold S3 S2 S1 at hs a0 a1
  rw [m1, m2, m3] at a0 a1
  exact ⟨_, _, _, s4, s5, s6, rfl, rfl, rfl, a1, a2, a3, by rw [a4, ht], a0, b4, b5, b6⟩

end Go.Proofs.YtdghlblgmihbpaaDoor
