import Derived.Test.YtlopimdnjookeabGreatDoorBack1
import Derived.Laws.CopyOwn
namespace Go.Proofs.YtlopimdnjookeabGreatDoor
open Go.RowKit

def sub (l : List UInt8) (o m : Nat) : List UInt8 := (l.drop o).take m
theorem sub_len (l : List UInt8) (o m : Nat) (h : o + m ≤ l.length) : (sub l o m).length = m := by
  simp [sub]; omega
theorem sub_get (l : List UInt8) (o m j : Nat) (h : o + m ≤ l.length) (hj : j < (sub l o m).length) : (sub l o m)[j] = l[o + j]'(by rw [sub_len l o m h] at hj; omega) := by
  simp [sub]
/-- leNat by bytes. -/
theorem leNat_lt (l : List UInt8) : leNat l < 2 ^ (8 * l.length) := by
  induction l with
  | nil => simp [leNat]
  | cons c r ih =>
    have hc := UInt8.toNat_lt c
    show c.toNat ^^^ (2 ^ 8 * leNat r) < 2 ^ (8 * (r.length + 1))
    refine Nat.xor_lt_two_pow ?_ ?_
    · exact Nat.lt_of_lt_of_le hc (Nat.pow_le_pow_right (n := 2) (i := 8) (by decide) (by omega))
    · rw [show 8 * (r.length + 1) = 8 + 8 * r.length by omega, Nat.pow_add]
      exact Nat.mul_lt_mul_of_pos_left ih (by decide)
theorem xor_div_pow (a b n : Nat) : (a ^^^ b) / 2 ^ n = (a / 2 ^ n) ^^^ (b / 2 ^ n) := by
  have := Nat.shiftRight_xor_distrib (a := a) (b := b) (i := n)
  simpa [Nat.shiftRight_eq_div_pow] using this
theorem leNat_cons_div (c : UInt8) (r : List UInt8) : leNat (c :: r) / 2 ^ 8 = leNat r := by
  show (c.toNat ^^^ (2 ^ 8 * leNat r)) / 2 ^ 8 = _
  have hc := UInt8.toNat_lt c
  rw [xor_div_pow, Nat.div_eq_of_lt hc, Nat.mul_div_cancel_left _ (by decide), Nat.zero_xor]
theorem leNat_drop (k : Nat) : ∀ l : List UInt8, leNat l / 2 ^ (8 * k) = leNat (l.drop k) := by
  induction k with
  | zero => intro l; simp
  | succ k ih =>
    intro l
    match l with
    | [] => simp [leNat]
    | c :: r => rw [List.drop_succ_cons, ← ih r, ← leNat_cons_div c r, Nat.div_div_eq_div_mul, ← Nat.pow_add, show 8 + 8 * k = 8 * (k + 1) by omega]
theorem leNat_append (a b : List UInt8) : leNat (a ++ b) = leNat a ^^^ (2 ^ (8 * a.length) * leNat b) := by
  induction a with
  | nil => simp [leNat]
  | cons c r ih =>
    show c.toNat ^^^ (2 ^ 8 * leNat (r ++ b)) = (c.toNat ^^^ (2 ^ 8 * leNat r)) ^^^ _
    have h : 2 ^ 8 * (leNat r ^^^ 2 ^ (8 * r.length) * leNat b) = (2 ^ 8 * leNat r) ^^^ (2 ^ (8 * (r.length + 1)) * leNat b) := by
      have := Nat.shiftLeft_xor_distrib (a := leNat r) (b := 2 ^ (8 * r.length) * leNat b) (i := 8)
      rw [show 8 * (r.length + 1) = 8 + 8 * r.length by omega, Nat.pow_add, Nat.mul_assoc]
      simpa [Nat.shiftLeft_eq, Nat.mul_comm] using this
    rw [ih, h, ← Nat.xor_assoc]; rfl
theorem leNat_inj (a : List UInt8) : ∀ b : List UInt8, a.length = b.length → leNat a = leNat b → a = b := by
  induction a with
  | nil => intro b hl _; exact (List.length_eq_zero_iff.1 hl.symm).symm
  | cons c r ih =>
    intro b hl h
    match b, hl with
    | d :: q, hl =>
      have h1 : leNat r = leNat q := by rw [← leNat_cons_div c r, ← leNat_cons_div d q, h]
      have h2 : c.toNat = d.toNat := by
        have h' : c.toNat ^^^ (2 ^ 8 * leNat r) = d.toNat ^^^ (2 ^ 8 * leNat q) := h
        rw [h1] at h'
        have h3 : (c.toNat ^^^ (2 ^ 8 * leNat q)) ^^^ (2 ^ 8 * leNat q) = (d.toNat ^^^ (2 ^ 8 * leNat q)) ^^^ (2 ^ 8 * leNat q) := by rw [h']
        rwa [Nat.xor_assoc, Nat.xor_self, Nat.xor_zero, Nat.xor_assoc, Nat.xor_self, Nat.xor_zero] at h3
      rw [UInt8.toNat_inj.1 h2, ih q (by simpa using hl) h1]

theorem leNat_take (m : Nat) (l : List UInt8) (h : m ≤ l.length) : leNat l % 2 ^ (8 * m) = leNat (l.take m) := by
  have hl : (l.take m).length = m := by simp; omega
  have hlt := leNat_lt (l.take m)
  rw [hl] at hlt
  conv => lhs; rw [← List.take_append_drop m l, leNat_append, hl]
  rw [Nat.xor_mod_two_pow, Nat.mul_mod_right, Nat.xor_zero, Nat.mod_eq_of_lt hlt]
theorem leNat_sub (l : List UInt8) (o m : Nat) (h : o + m ≤ l.length) : leNat l / 2 ^ (8 * o) % 2 ^ (8 * m) = leNat (sub l o m) := by
  rw [leNat_drop, leNat_take m _ (by rw [List.length_drop]; omega)]; rfl
theorem nt_inj {x y : Nat} (hx : x < 4294967296) (hy : y < 4294967296) (h : nt x = nt y) : x = y := by unfold nt at h; omega

/-- A meta as data. -/
structure Mt where
  pages : Int
  root : Int
  txid : Nat
def Mt.cells (m : Mt) : List Value := [.int .i64 m.pages, .int .i64 m.root, .int .u64 (m.txid : Int)]
/-- The numbers of a meta are those of their types. -/
def Mt.num (m : Mt) : Prop := -9223372036854775808 ≤ m.pages ∧ m.pages ≤ 9223372036854775807 ∧ -9223372036854775808 ≤ m.root ∧ m.root ≤ 9223372036854775807 ∧ m.txid < 18446744073709551616
def PagesOk (n : Int) : Prop := 4 ≤ n ∧ n ≤ 1048576
instance (n : Int) : Decidable (PagesOk n) := inferInstanceAs (Decidable (_ ∧ _))
def MayM (m : Mt) : Prop := PagesOk m.pages ∧ (m.root = 0 ∨ (2 ≤ m.root ∧ m.root < m.pages))
instance (m : Mt) : Decidable (MayM m) := inferInstanceAs (Decidable (_ ∧ _))
def markL : List UInt8 := [67, 79, 80, 83, 69, 0, 1, 0]
def tailZ : List UInt8 := List.replicate 484 0
theorem tailZ_len : tailZ.length = 484 := List.length_replicate ..
def mbare (p r t s : Nat) : List UInt8 := markL ++ (beBytes p 4 ++ (beBytes r 4 ++ (beBytes t 8 ++ (beBytes s 4 ++ tailZ))))
def mpageN (p r t : Nat) : List UInt8 := mbare p r t (crcV (mbare p r t 0))
def mpage (m : Mt) : List UInt8 := mpageN m.pages.toNat m.root.toNat m.txid
theorem mbare_len (p r t s : Nat) : (mbare p r t s).length = 512 := by
  simp [mbare, beBytes_len, markL, tailZ_len]
theorem mpage_len (m : Mt) : (mpage m).length = 512 := mbare_len _ _ _ _
def parseM (l : List UInt8) : Mt := ⟨(beNat (sub l 8 4) : Nat), (beNat (sub l 12 4) : Nat), beNat (sub l 16 8)⟩
theorem mbare8 (p r t s : Nat) : sub (mbare p r t s) 8 4 = beBytes p 4 := rfl
theorem mbare12 (p r t s : Nat) : sub (mbare p r t s) 12 4 = beBytes r 4 := rfl
theorem mbare16 (p r t s : Nat) : sub (mbare p r t s) 16 8 = beBytes t 8 := rfl
theorem mbare24 (p r t s : Nat) : sub (mbare p r t s) 24 4 = beBytes s 4 := rfl
/-- Bytes are valid in a slot of a device with so many pages. -/
def okM (l : List UInt8) (pages slot : Int) : Prop := l.length = 512 ∧ (parseM l).pages = pages ∧ MayM (parseM l) ∧ (((parseM l).txid % 2 : Nat) : Int) = slot ∧ mpage (parseM l) = l
instance (l : List UInt8) (pages slot : Int) : Decidable (okM l pages slot) := inferInstanceAs (Decidable (_ ∧ _))
theorem parseM_num (l : List UInt8) (h : l.length = 512) : (parseM l).num := by
  have h1 := beNat_lt (sub l 8 4)
  have h2 := beNat_lt (sub l 12 4)
  have h3 := beNat_lt (sub l 16 8)
  rw [sub_len _ _ _ (by omega)] at h1 h2 h3
  simp only [show (256 : Nat) ^ 4 = 4294967296 from rfl, show (256 : Nat) ^ 8 = 18446744073709551616 from rfl] at h1 h2 h3
  unfold Mt.num parseM
  simp only
  omega
theorem parse_mpage (m : Mt) (hm : MayM m) (hx : m.txid < 18446744073709551616) : parseM (mpage m) = m := by
  obtain ⟨p, r, t⟩ := m
  obtain ⟨⟨hp1, hp2⟩, hr⟩ := hm
  simp only at hp1 hp2 hr hx
  obtain ⟨p, rfl⟩ := Int.eq_ofNat_of_zero_le (show 0 ≤ p by omega)
  obtain ⟨r, rfl⟩ := Int.eq_ofNat_of_zero_le (show 0 ≤ r by omega)
  have h : mpage ⟨(p : Int), (r : Int), t⟩ = mbare p r t (crcV (mbare p r t 0)) := rfl
  rw [h]
  generalize crcV (mbare p r t 0) = sum
  unfold parseM
  rw [mbare8, mbare12, mbare16, back_num 4 p (by decide) (by show p < 2 ^ 32; omega), back_num 4 r (by decide) (by show r < 2 ^ 32; omega), back_num 8 t (by decide) (by show t < 2 ^ 64; omega)]
theorem okM_mpage (m : Mt) (hm : MayM m) (hx : m.txid < 18446744073709551616) (pages slot : Int) : okM (mpage m) pages slot ↔ m.pages = pages ∧ ((m.txid % 2 : Nat) : Int) = slot := by
  unfold okM
  rw [parse_mpage m hm hx]
  exact ⟨fun h => ⟨h.2.1, h.2.2.2.1⟩, fun h => ⟨mpage_len m, h.1, hm, h.2, rfl⟩⟩
def mheadA (p r t : Nat) : List UInt8 := markL ++ (beBytes p 4 ++ (beBytes r 4 ++ beBytes t 8))
theorem mbare_parts (p r t s : Nat) : mbare p r t s = mheadA p r t ++ (beBytes s 4 ++ tailZ) := by
  simp [mbare, mheadA]
theorem mheadA_len (p r t : Nat) : (mheadA p r t).length = 24 := by simp [mheadA, beBytes_len, markL]
theorem leNat_mbare (p r t s : Nat) : leNat (mbare p r t s) = leNat (mbare p r t 0) ^^^ (2 ^ 192 * leNat (beBytes s 4)) := by
  have h0 : leNat (beBytes 0 4) = 0 := by decide
  have hl0 : (beBytes 0 4).length = (beBytes s 4).length := by rw [beBytes_len _ _ (by decide), beBytes_len _ _ (by decide)]
  have hx : ∀ a b : Nat, 2 ^ 192 * (a ^^^ b) = (2 ^ 192 * a) ^^^ (2 ^ 192 * b) := fun a b => by
    have := Nat.shiftLeft_xor_distrib (a := a) (b := b) (i := 192)
    simpa [Nat.shiftLeft_eq, Nat.mul_comm] using this
  rw [mbare_parts p r t s, mbare_parts p r t 0, leNat_append, leNat_append (mheadA p r t), leNat_append (beBytes s 4), leNat_append (beBytes 0 4), mheadA_len, h0, hl0, Nat.zero_xor]
  rw [show 8 * 24 = 192 from rfl, hx, Nat.xor_assoc, Nat.xor_comm (2 ^ 192 * leNat (beBytes s 4))]

/-- A burst outside of the sum is told. -/
theorem burst_meta (m : Mt) (q : List UInt8) (at' T : Nat) (pages slot : Int) (hq : q.length = 512) (hle : leNat q = leNat (mpage m) ^^^ (2 ^ at' * T)) (hT : T < 2 ^ 32) (h0 : T ≠ 0)
    (hat : (at' ≤ 8 * 512 ∧ 2 ^ at' * T < 2 ^ 192) ∨ (224 ≤ at' ∧ at' ≤ 8 * 512)) : ¬ okM q pages slot := by
  rintro ⟨_, _, hm', _, hpg⟩
  obtain ⟨p, r, t⟩ := m
  have hpl := mpage_len ⟨p, r, t⟩
  have hz : (2 ^ at' * T) / 2 ^ (8 * 24) % 2 ^ (8 * 4) = 0 := by
    rcases hat with ⟨_, h⟩ | ⟨h, _⟩
    · rw [Nat.div_eq_of_lt h]
    · rw [show at' = 8 * 24 + (8 * 4 + (at' - 224)) by omega, Nat.pow_add, Nat.mul_assoc, Nat.mul_div_cancel_left _ (Nat.two_pow_pos _), Nat.pow_add, Nat.mul_assoc, Nat.mul_mod_right]
  have hs : leNat (sub q 24 4) = leNat (sub (mpage ⟨p, r, t⟩) 24 4) := by
    rw [← leNat_sub q 24 4 (by omega), ← leNat_sub (mpage ⟨p, r, t⟩) 24 4 (by omega), hle, xor_div_pow, Nat.xor_mod_two_pow, hz, Nat.xor_zero]
  have hsub : sub q 24 4 = sub (mpage ⟨p, r, t⟩) 24 4 := leNat_inj _ _ (by rw [sub_len _ _ _ (by omega), sub_len _ _ _ (by omega)]) hs
  generalize hp' : (parseM q) = pm at *
  obtain ⟨p2, r2, t2⟩ := pm
  obtain ⟨cs, hcs⟩ : ∃ cs, cs = crcV (mbare p.toNat r.toNat t 0) := ⟨_, rfl⟩
  obtain ⟨ct, hct⟩ : ∃ ct, ct = crcV (mbare p2.toNat r2.toNat t2 0) := ⟨_, rfl⟩
  have e1 : mpage ⟨p, r, t⟩ = mbare p.toNat r.toNat t cs := by rw [hcs]; rfl
  have e2 : q = mbare p2.toNat r2.toNat t2 ct := by rw [hct]; exact hpg.symm
  have hcl : cs < 4294967296 := by rw [hcs]; exact nt_lt _
  have htl : ct < 4294967296 := by rw [hct]; exact nt_lt _
  have hsum : cs = ct := by
    rw [e1, mbare24] at hsub
    have h3 : sub q 24 4 = beBytes ct 4 := by rw [e2]; exact mbare24 _ _ _ _
    rw [h3] at hsub
    rw [← back_num 4 cs (by decide) hcl, ← back_num 4 ct (by decide) htl, hsub]
  have l1 := leNat_mbare p.toNat r.toNat t cs
  have l2 := leNat_mbare p2.toNat r2.toNat t2 ct
  rw [← e1] at l1
  rw [← e2, ← hsum] at l2
  have hx : leNat (mbare p2.toNat r2.toNat t2 0) = leNat (mbare p.toNat r.toNat t 0) ^^^ (2 ^ at' * T) := by
    have h1 : leNat (mbare p2.toNat r2.toNat t2 0) ^^^ (2 ^ 192 * leNat (beBytes cs 4)) = (leNat (mbare p.toNat r.toNat t 0) ^^^ (2 ^ at' * T)) ^^^ (2 ^ 192 * leNat (beBytes cs 4)) := by
      rw [← l2, hle, l1, Nat.xor_assoc, Nat.xor_assoc, Nat.xor_comm (2 ^ 192 * leNat (beBytes cs 4))]
    have h2 : (leNat (mbare p2.toNat r2.toNat t2 0) ^^^ (2 ^ 192 * leNat (beBytes cs 4))) ^^^ (2 ^ 192 * leNat (beBytes cs 4)) = ((leNat (mbare p.toNat r.toNat t 0) ^^^ (2 ^ at' * T)) ^^^ (2 ^ 192 * leNat (beBytes cs 4))) ^^^ (2 ^ 192 * leNat (beBytes cs 4)) := by rw [h1]
    rwa [Nat.xor_assoc, Nat.xor_self, Nat.xor_zero, Nat.xor_assoc, Nat.xor_self, Nat.xor_zero] at h2
  have hn0 : nt 0 < 4294967296 := nt_lt 0
  have hc : crcReg (nt 0) (mbare p.toNat r.toNat t 0) = crcReg (nt 0) (mbare p2.toNat r2.toNat t2 0) := by
    refine nt_inj (crcReg_lt _ _ hn0) (crcReg_lt _ _ hn0) ?_
    show crcV (mbare p.toNat r.toNat t 0) = crcV (mbare p2.toNat r2.toNat t2 0)
    rw [← hcs, ← hct, hsum]
  rw [crcReg_le, crcReg_le, mbare_len, mbare_len, hx] at hc
  exact burst_tells (nt 0) (leNat (mbare p.toNat r.toNat t 0)) (8 * 512) at' T (by rcases hat with h | h <;> omega) hT h0 hc

/-- What is changed within the sum alone is told. -/
theorem within_meta (m : Mt) (q : List UInt8) (pages slot : Int) (hne : q ≠ mpage m) (hm : MayM m) (hx : m.txid < 18446744073709551616)
    (h8 : sub q 8 4 = sub (mpage m) 8 4) (h12 : sub q 12 4 = sub (mpage m) 12 4) (h16 : sub q 16 8 = sub (mpage m) 16 8) : ¬ okM q pages slot := by
  rintro ⟨_, _, _, _, hpg⟩
  refine hne ?_
  rw [← hpg]
  have : parseM q = parseM (mpage m) := by unfold parseM; rw [h8, h12, h16]
  rw [this, parse_mpage m hm hx]

end Go.Proofs.YtlopimdnjookeabGreatDoor
