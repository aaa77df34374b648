import Derived.Test.YtmifadjgmjnkgaaGreatDoorA9
namespace Go.Proofs.YtmifadjgmjnkgaaGreatDoor
open Go.RowKit

theorem nums_bare0 (k c i t sum : Nat) (body : List UInt8) : nums (bare k c i t sum body) 0 = beNat (beBytes k 1) := rfl
theorem nums_bare1 (k c i t sum : Nat) (body : List UInt8) : nums (bare k c i t sum body) 1 = beNat (beBytes c 2) := rfl
theorem nums_bare2 (k c i t sum : Nat) (body : List UInt8) : nums (bare k c i t sum body) 2 = beNat (beBytes i 4) := rfl
theorem nums_bare3 (k c i t sum : Nat) (body : List UInt8) : nums (bare k c i t sum body) 3 = beNat (beBytes t 8) := rfl
theorem nums_bare4 (k c i t sum : Nat) (body : List UInt8) : nums (bare k c i t sum body) 4 = beNat (beBytes sum 4) := rfl
theorem drop_bare (k c i t sum : Nat) (body : List UInt8) : (bare k c i t sum body).drop 24 = body := rfl

theorem parse_page (s : Sh) (hm : May s) (hx : s.txid < 18446744073709551616) : parse (page s) = s := by
  obtain ⟨k, i, t, c, b⟩ := s
  obtain ⟨hk, ⟨hc1, hc2⟩, ⟨hi1, hi2⟩, hb⟩ := hm
  simp only at hk hc1 hc2 hi1 hi2 hb hx
  obtain ⟨k, rfl⟩ := Int.eq_ofNat_of_zero_le (show 0 ≤ k by omega)
  obtain ⟨c, rfl⟩ := Int.eq_ofNat_of_zero_le hc1
  obtain ⟨i, rfl⟩ := Int.eq_ofNat_of_zero_le (show 0 ≤ i by omega)
  have h : page ⟨(k : Int), (i : Int), t, (c : Int), b⟩ = bare k c i t (crcV (pageB ⟨(k : Int), (i : Int), t, (c : Int), b⟩ 0)) b.data.toList := rfl
  rw [h]
  generalize crcV (pageB ⟨(k : Int), (i : Int), t, (c : Int), b⟩ 0) = sum
  unfold parse
  rw [nums_bare0, nums_bare1, nums_bare2, nums_bare3, drop_bare, back_num 1 k (by decide) (by show k < 2 ^ 8; omega), back_num 2 c (by decide) (by show c < 2 ^ 16; omega), back_num 4 i (by decide) (by show i < 2 ^ 32; omega), back_num 8 t (by decide) (by show t < 2 ^ 64; omega)]

theorem okRead_page (s : Sh) (hm : May s) (hx : s.txid < 18446744073709551616) (id : Int) : okRead (page s) id ↔ id = s.id := by
  unfold okRead
  rw [parse_page s hm hx]
  exact ⟨fun h => h.2.1.symm, fun h => ⟨page_len s hm, h.symm, hm, rfl⟩⟩

/-- leNat by bytes. -/
theorem leNat_lt (l : List UInt8) : leNat l < 2 ^ (8 * l.length) := by
  induction l with
  | nil => simp [leNat]
  | cons c r ih =>
    have hc := UInt8.toNat_lt c
    show c.toNat ^^^ (2 ^ 8 * leNat r) < 2 ^ (8 * (r.length + 1))
    refine Nat.xor_lt_two_pow ?_ ?_
    · exact Nat.lt_of_lt_of_le hc (Nat.pow_le_pow_right (n := 2) (i := 8) (by decide) (by omega))
    · rw [show 8 * (r.length + 1) = 8 + 8 * r.length by omega, Nat.pow_add]
      exact Nat.mul_lt_mul_of_pos_left ih (by decide)
theorem xor_div_pow (a b n : Nat) : (a ^^^ b) / 2 ^ n = (a / 2 ^ n) ^^^ (b / 2 ^ n) := by
  have := Nat.shiftRight_xor_distrib (a := a) (b := b) (i := n)
  simpa [Nat.shiftRight_eq_div_pow] using this
theorem leNat_cons_div (c : UInt8) (r : List UInt8) : leNat (c :: r) / 2 ^ 8 = leNat r := by
  show (c.toNat ^^^ (2 ^ 8 * leNat r)) / 2 ^ 8 = _
  have hc := UInt8.toNat_lt c
  rw [xor_div_pow, Nat.div_eq_of_lt hc, Nat.mul_div_cancel_left _ (by decide), Nat.zero_xor]
theorem leNat_drop (k : Nat) : ∀ l : List UInt8, leNat l / 2 ^ (8 * k) = leNat (l.drop k) := by
  induction k with
  | zero => intro l; simp
  | succ k ih =>
    intro l
    match l with
    | [] => simp [leNat]
    | c :: r => rw [List.drop_succ_cons, ← ih r, ← leNat_cons_div c r, Nat.div_div_eq_div_mul, ← Nat.pow_add, show 8 + 8 * k = 8 * (k + 1) by omega]
theorem leNat_append (a b : List UInt8) : leNat (a ++ b) = leNat a ^^^ (2 ^ (8 * a.length) * leNat b) := by
  induction a with
  | nil => simp [leNat]
  | cons c r ih =>
    show c.toNat ^^^ (2 ^ 8 * leNat (r ++ b)) = (c.toNat ^^^ (2 ^ 8 * leNat r)) ^^^ _
    have h : 2 ^ 8 * (leNat r ^^^ 2 ^ (8 * r.length) * leNat b) = (2 ^ 8 * leNat r) ^^^ (2 ^ (8 * (r.length + 1)) * leNat b) := by
      have := Nat.shiftLeft_xor_distrib (a := leNat r) (b := 2 ^ (8 * r.length) * leNat b) (i := 8)
      rw [show 8 * (r.length + 1) = 8 + 8 * r.length by omega, Nat.pow_add, Nat.mul_assoc]
      simpa [Nat.shiftLeft_eq, Nat.mul_comm] using this
    rw [ih, h, ← Nat.xor_assoc]; rfl
theorem leNat_inj (a : List UInt8) : ∀ b : List UInt8, a.length = b.length → leNat a = leNat b → a = b := by
  induction a with
  | nil => intro b hl _; exact (List.length_eq_zero_iff.1 hl.symm).symm
  | cons c r ih =>
    intro b hl h
    match b, hl with
    | d :: q, hl =>
      have h1 : leNat r = leNat q := by rw [← leNat_cons_div c r, ← leNat_cons_div d q, h]
      have h2 : c.toNat = d.toNat := by
        have h' : c.toNat ^^^ (2 ^ 8 * leNat r) = d.toNat ^^^ (2 ^ 8 * leNat q) := h
        rw [h1] at h'
        have h3 : (c.toNat ^^^ (2 ^ 8 * leNat q)) ^^^ (2 ^ 8 * leNat q) = (d.toNat ^^^ (2 ^ 8 * leNat q)) ^^^ (2 ^ 8 * leNat q) := by rw [h']
        rwa [Nat.xor_assoc, Nat.xor_self, Nat.xor_zero, Nat.xor_assoc, Nat.xor_self, Nat.xor_zero] at h3
      rw [UInt8.toNat_inj.1 h2, ih q (by simpa using hl) h1]

theorem leNat_take (m : Nat) (l : List UInt8) (h : m ≤ l.length) : leNat l % 2 ^ (8 * m) = leNat (l.take m) := by
  have hl : (l.take m).length = m := by simp; omega
  have hlt := leNat_lt (l.take m)
  rw [hl] at hlt
  conv => lhs; rw [← List.take_append_drop m l, leNat_append, hl]
  rw [Nat.xor_mod_two_pow, Nat.mul_mod_right, Nat.xor_zero, Nat.mod_eq_of_lt hlt]
theorem leNat_sub (l : List UInt8) (o m : Nat) (h : o + m ≤ l.length) : leNat l / 2 ^ (8 * o) % 2 ^ (8 * m) = leNat (sub l o m) := by
  rw [leNat_drop, leNat_take m _ (by rw [List.length_drop]; omega)]; rfl
def headA (s : Sh) : List UInt8 := beBytes s.kind.toNat 1 ++ ([0] ++ (beBytes s.count.toNat 2 ++ (beBytes s.id.toNat 4 ++ beBytes s.txid 8)))
theorem pageB_parts (s : Sh) (sum : Nat) : pageB s sum = headA s ++ (beBytes sum 4 ++ ([0, 0, 0, 0] ++ s.body.data.toList)) := by
  simp [pageB, bare, headA]
theorem headA_len (s : Sh) : (headA s).length = 16 := by simp [headA, beBytes_len]
theorem leNat_pageB (s : Sh) (sum : Nat) : leNat (pageB s sum) = leNat (pageB s 0) ^^^ (2 ^ 128 * leNat (beBytes sum 4)) := by
  have h0 : leNat (beBytes 0 4) = 0 := by decide
  have hl0 : (beBytes 0 4).length = (beBytes sum 4).length := by rw [beBytes_len _ _ (by decide), beBytes_len _ _ (by decide)]
  have hx : ∀ a b : Nat, 2 ^ 128 * (a ^^^ b) = (2 ^ 128 * a) ^^^ (2 ^ 128 * b) := fun a b => by
    have := Nat.shiftLeft_xor_distrib (a := a) (b := b) (i := 128)
    simpa [Nat.shiftLeft_eq, Nat.mul_comm] using this
  rw [pageB_parts s sum, pageB_parts s 0, leNat_append, leNat_append (headA s), leNat_append (beBytes sum 4), leNat_append (beBytes 0 4), headA_len, h0, hl0, Nat.zero_xor]
  rw [show 8 * 16 = 128 from rfl, hx, Nat.xor_assoc, Nat.xor_comm (2 ^ 128 * leNat (beBytes sum 4))]
theorem sub_pageB (s : Sh) (sum : Nat) : sub (pageB s sum) 16 4 = beBytes sum 4 := rfl
theorem nt_inj {x y : Nat} (hx : x < 4294967296) (hy : y < 4294967296) (h : nt x = nt y) : x = y := by unfold nt at h; omega

theorem burst_page (s : Sh) (q : List UInt8) (at' T : Nat) (id : Int) (hm : May s) (hq : q.length = 4096) (hle : leNat q = leNat (page s) ^^^ (2 ^ at' * T)) (hT : T < 2 ^ 32) (h0 : T ≠ 0)
    (hat : at' + 32 ≤ 128 ∨ (160 ≤ at' ∧ at' ≤ 8 * 4096)) : ¬ okRead q id := by
  rintro ⟨_, _, hm', hpg⟩
  have hpl := page_len s hm
  -- the sums' bytes are as they were
  have hz : (2 ^ at' * T) / 2 ^ (8 * 16) % 2 ^ (8 * 4) = 0 := by
    rcases hat with h | ⟨h, _⟩
    · have hlt : 2 ^ at' * T < 2 ^ (8 * 16) := by
        have h1 : 2 ^ at' * T < 2 ^ at' * 2 ^ 32 := Nat.mul_lt_mul_of_pos_left hT (Nat.two_pow_pos _)
        rw [← Nat.pow_add] at h1
        exact Nat.lt_of_lt_of_le h1 (Nat.pow_le_pow_right (by decide) (by omega))
      rw [Nat.div_eq_of_lt hlt]
    · rw [show at' = 8 * 16 + (8 * 4 + (at' - 160)) by omega, Nat.pow_add, Nat.mul_assoc, Nat.mul_div_cancel_left _ (Nat.two_pow_pos _), Nat.pow_add, Nat.mul_assoc, Nat.mul_mod_right]
  have hs : leNat (sub q 16 4) = leNat (sub (page s) 16 4) := by
    rw [← leNat_sub q 16 4 (by omega), ← leNat_sub (page s) 16 4 (by omega), hle, xor_div_pow, Nat.xor_mod_two_pow, hz, Nat.xor_zero]
  have hsub : sub q 16 4 = sub (page s) 16 4 := leNat_inj _ _ (by rw [sub_len _ _ _ (by omega), sub_len _ _ _ (by omega)]) hs
  obtain ⟨cs, hcs⟩ : ∃ cs, cs = crcV (pageB s 0) := ⟨_, rfl⟩
  obtain ⟨ct, hct⟩ : ∃ ct, ct = crcV (pageB (parse q) 0) := ⟨_, rfl⟩
  have e1 : page s = pageB s cs := by rw [hcs]; rfl
  have e2 : q = pageB (parse q) ct := by rw [hct]; exact hpg.symm
  have hcl : cs < 4294967296 := by rw [hcs]; exact nt_lt _
  have htl : ct < 4294967296 := by rw [hct]; exact nt_lt _
  have hsum : cs = ct := by
    rw [e1, sub_pageB] at hsub
    have h3 : sub q 16 4 = beBytes ct 4 := by rw [e2]; exact sub_pageB _ _
    rw [h3] at hsub
    rw [← back_num 4 cs (by decide) hcl, ← back_num 4 ct (by decide) htl, hsub]
  have l1 := leNat_pageB s cs
  have l2 := leNat_pageB (parse q) ct
  rw [← e1] at l1
  rw [← e2, ← hsum] at l2
  have hx : leNat (pageB (parse q) 0) = leNat (pageB s 0) ^^^ (2 ^ at' * T) := by
    have h1 : leNat (pageB (parse q) 0) ^^^ (2 ^ 128 * leNat (beBytes cs 4)) = (leNat (pageB s 0) ^^^ (2 ^ at' * T)) ^^^ (2 ^ 128 * leNat (beBytes cs 4)) := by
      rw [← l2, hle, l1, Nat.xor_assoc, Nat.xor_assoc, Nat.xor_comm (2 ^ 128 * leNat (beBytes cs 4))]
    have h2 : (leNat (pageB (parse q) 0) ^^^ (2 ^ 128 * leNat (beBytes cs 4))) ^^^ (2 ^ 128 * leNat (beBytes cs 4)) = ((leNat (pageB s 0) ^^^ (2 ^ at' * T)) ^^^ (2 ^ 128 * leNat (beBytes cs 4))) ^^^ (2 ^ 128 * leNat (beBytes cs 4)) := by rw [h1]
    rwa [Nat.xor_assoc, Nat.xor_self, Nat.xor_zero, Nat.xor_assoc, Nat.xor_self, Nat.xor_zero] at h2
  have hn0 : nt 0 < 4294967296 := nt_lt 0
  have hc : crcReg (nt 0) (pageB s 0) = crcReg (nt 0) (pageB (parse q) 0) := by
    refine nt_inj (crcReg_lt _ _ hn0) (crcReg_lt _ _ hn0) ?_
    show crcV (pageB s 0) = crcV (pageB (parse q) 0)
    rw [← hcs, ← hct, hsum]
  rw [crcReg_le, crcReg_le, pageB_len s 0 hm, pageB_len (parse q) 0 hm', hx] at hc
  exact burst_tells (nt 0) (leNat (pageB s 0)) (8 * 4096) at' T (by rcases hat with h | h <;> omega) hT h0 hc

end Go.Proofs.YtmifadjgmjnkgaaGreatDoor
