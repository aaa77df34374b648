import Derived.Test.YtlopimdnjookeaaDoorMtLawKit
namespace Go.Proofs.YtlopimdnjookeaaDoor
open Go.RowKit

theorem pow_xor (n a b : Nat) : 2 ^ n * (a ^^^ b) = (2 ^ n * a) ^^^ (2 ^ n * b) := by
  have := Nat.shiftLeft_xor_distrib (a := a) (b := b) (i := n)
  simpa [Nat.shiftLeft_eq, Nat.mul_comm] using this
theorem leNat_setx (l : List UInt8) : ∀ (j : Nat) (hj : j < l.length) (b : UInt8), leNat (l.set j (l[j] ^^^ b)) = leNat l ^^^ (2 ^ (8 * j) * b.toNat) := by
  induction l with
  | nil => intro j hj; simp at hj
  | cons c r ih =>
    intro j hj b
    cases j with
    | zero =>
      simp only [List.set_cons_zero, leNat, List.getElem_cons_zero]
      rw [UInt8.toNat_xor, Nat.mul_zero, Nat.pow_zero, Nat.one_mul, Nat.xor_assoc, Nat.xor_assoc, Nat.xor_comm b.toNat]
    | succ j =>
      simp only [List.set_cons_succ, leNat, List.getElem_cons_succ]
      rw [ih j (by simpa using hj) b, pow_xor, ← Nat.mul_assoc, ← Nat.pow_add, ← Nat.xor_assoc, show 8 + 8 * j = 8 * (j + 1) by omega]
theorem xor_u8c (a b : UInt8) : bits BinOp.xor IntKind.u8 (a.toNat : Int) (b.toNat : Int) = ((a ^^^ b).toNat : Int) := by
  rw [u8_xor_nat a.toNat b.toNat (UInt8.toNat_lt a) (UInt8.toNat_lt b), UInt8.toNat_xor]

/-- A byte more of the burst. -/
theorem burst_more (T j b : Nat) (hT : T < 2 ^ (8 * j)) (hb : b < 256) : T ^^^ (2 ^ (8 * j) * b) < 2 ^ (8 * (j + 1)) ∧ (T ^^^ (2 ^ (8 * j) * b) = 0 ↔ T = 0 ∧ b = 0) := by
  have hd : (T ^^^ (2 ^ (8 * j) * b)) / 2 ^ (8 * j) = b := by
    rw [xor_div_pow, Nat.div_eq_of_lt hT, Nat.zero_xor, Nat.mul_div_cancel_left _ (Nat.two_pow_pos _)]
  refine ⟨Nat.xor_lt_two_pow (Nat.lt_of_lt_of_le hT (Nat.pow_le_pow_right (by decide) (by omega))) ?_, ?_⟩
  · rw [show 8 * (j + 1) = 8 * j + 8 by omega, Nat.pow_add]
    exact Nat.mul_lt_mul_of_pos_left (by simpa using hb) (Nat.two_pow_pos _)
  · constructor
    · intro h
      rw [h, Nat.zero_div] at hd
      subst hd
      simpa using h
    · rintro ⟨rfl, rfl⟩; simp

theorem sub_keep (q pg : List UInt8) (at0 T o m : Nat) (hq : q.length = pg.length) (hle : leNat q = leNat pg ^^^ (2 ^ (8 * at0) * T)) (hl : o + m ≤ pg.length) (ho : o + m ≤ at0) : sub q o m = sub pg o m := by
  have hz : (2 ^ (8 * at0) * T) / 2 ^ (8 * o) % 2 ^ (8 * m) = 0 := by
    rw [show 8 * at0 = 8 * o + (8 * m + 8 * (at0 - o - m)) by omega, Nat.pow_add, Nat.mul_assoc, Nat.mul_div_cancel_left _ (Nat.two_pow_pos _), Nat.pow_add, Nat.mul_assoc, Nat.mul_mod_right]
  refine leNat_inj _ _ (by rw [sub_len _ _ _ (by omega), sub_len _ _ _ (by omega)]) ?_
  rw [← leNat_sub q o m (by omega), ← leNat_sub pg o m (by omega), hle, xor_div_pow, Nat.xor_mod_two_pow, hz, Nat.xor_zero]

def Placed (at0 j : Nat) : Prop := at0 + j ≤ 512 ∧ ((24 ≤ at0 ∧ at0 < 28 ∧ at0 + j ≤ 28) ∨ at0 + j ≤ 24 ∨ 28 ≤ at0)

theorem marred_meta (m : Mt) (q : List UInt8) (at0 j T : Nat) (pages slot : Int) (hq : q.length = 512) (hle : leNat q = leNat (mpage m) ^^^ (2 ^ (8 * at0) * T)) (hT : T < 2 ^ (8 * j)) (hj : j ≤ 4) (h0 : T ≠ 0) (hm : MayM m) (hx : m.txid < 18446744073709551616) (hp : Placed at0 j) : ¬ okM q pages slot := by
  have hpl := mpage_len m
  rcases hp.2 with ⟨h1, h2, h3⟩ | h | h
  · refine within_meta m q pages slot ?_ hm hx ?_ ?_ ?_
    · rintro rfl
      have : (2 ^ (8 * at0) * T) = 0 := by
        have e : leNat (mpage m) ^^^ leNat (mpage m) = leNat (mpage m) ^^^ (leNat (mpage m) ^^^ (2 ^ (8 * at0) * T)) := by rw [← hle]
        rw [Nat.xor_self, ← Nat.xor_assoc, Nat.xor_self, Nat.zero_xor] at e
        exact e.symm
      rcases Nat.mul_eq_zero.1 this with h | h
      · exact absurd h (Nat.ne_of_gt (Nat.two_pow_pos _))
      · exact h0 h
    · exact sub_keep q _ at0 T 8 4 (by omega) hle (by omega) (by omega)
    · exact sub_keep q _ at0 T 12 4 (by omega) hle (by omega) (by omega)
    · exact sub_keep q _ at0 T 16 8 (by omega) hle (by omega) (by omega)
  · refine burst_meta m q (8 * at0) T pages slot hq hle (Nat.lt_of_lt_of_le hT (Nat.pow_le_pow_right (by decide) (by omega))) h0 (.inl ⟨by omega, ?_⟩)
    have h1 : 2 ^ (8 * at0) * T < 2 ^ (8 * at0) * 2 ^ (8 * j) := Nat.mul_lt_mul_of_pos_left hT (Nat.two_pow_pos _)
    rw [← Nat.pow_add] at h1
    exact Nat.lt_of_lt_of_le h1 (Nat.pow_le_pow_right (by decide) (by omega))
  · have := hp.1
    exact burst_meta m q (8 * at0) T pages slot hq hle (Nat.lt_of_lt_of_le hT (Nat.pow_le_pow_right (by decide) (by omega))) h0 (.inr ⟨by omega, by omega⟩)
theorem unmarred (q pg : List UInt8) (n : Nat) (hq : q.length = pg.length) (hle : leNat q = leNat pg ^^^ (2 ^ n * 0)) : q = pg := leNat_inj q pg hq (by rw [hle]; simp)
theorem RowT.set {t : TypeId} {w : World} {g : Nat} {l : List UInt8} (h : RowT t w g l) (j : Nat) (d : UInt8) : RowT t (w.setCell ⟨g, j, none⟩ (.int .u8 (d.toNat : Int))) g (l.set j d) := by
  unfold RowT
  rw [heap_setCell_same w g j _ _ _ h]
  simp [u8s, List.map_set]
theorem RowT.frozen {t : TypeId} {w : World} {g : Nat} {l : List UInt8} (h : RowT t w g l) (j : Nat) : w.frozen? ⟨g, j, none⟩ = false := frozen_of_row _ _ _ _ _ h
theorem boxed_sole {b g : Nat} {l : List Value} {w w' : World} (h : Boxed b l w) (hs : Sole g w w') (hn : b ≠ g) : Boxed b l w' := ⟨Nat.lt_of_lt_of_le h.1 hs.size, fun j hj => hs.cell (h.2 j hj) hn⟩
theorem drewn_three {n0 g b : Nat} {t : TypeId} {q : List UInt8} {l : List Value} {w W : World} (h1 : Below n0 w W) (h2 : RowT t W g q) (h3 : Boxed b l W) : ∀ n, Below n0 w (W.drewN n) ∧ RowT t (W.drewN n) g q ∧ Boxed b l (W.drewN n) := fun _ => ⟨⟨h1.os, h1.tape, h1.output, h1.size, h1.block⟩, h2, h3⟩
theorem decV_no (a0 a1 : Addr) (l : List UInt8) (pages slot : Int) (hp : PagesOk pages) (hs : 0 ≤ slot ∧ slot < 2) (h : ¬ okM l pages slot) : decV a0 a1 l pages slot = #[zMt, .iface 108 (.pointer (some a1))] := by
  unfold decV
  rw [if_neg (by rintro (h | h); exact h hp; exact h hs), if_neg h]

end Go.Proofs.YtlopimdnjookeaaDoor
