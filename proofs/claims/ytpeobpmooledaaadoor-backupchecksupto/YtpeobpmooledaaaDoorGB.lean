import Derived.Test.YtpeobpmooledaaaDoorBack1
import Derived.Laws.CopyOwn
import Derived.Test.YtpeobpmooledaaaDoorGA
import Derived.Test.YtpeobpmooledaaaDoorSReadL
namespace Go.Proofs.YtpeobpmooledaaaDoor.M
open Go.RowKit

def sub (l : List UInt8) (o m : Nat) : List UInt8 := (l.drop o).take m
theorem sub_len (l : List UInt8) (o m : Nat) (h : o + m ≤ l.length) : (sub l o m).length = m := by
  simp [sub]; omega
theorem sub_get (l : List UInt8) (o m j : Nat) (h : o + m ≤ l.length) (hj : j < (sub l o m).length) : (sub l o m)[j] = l[o + j]'(by rw [sub_len l o m h] at hj; omega) := by
  simp [sub]
/-- leNat by bytes. -/
theorem leNat_lt (l : List UInt8) : leNat l < 2 ^ (8 * l.length) := by
  induction l with
  | nil => simp [leNat]
  | cons c r ih =>
    have hc := UInt8.toNat_lt c
    show c.toNat ^^^ (2 ^ 8 * leNat r) < 2 ^ (8 * (r.length + 1))
    refine Nat.xor_lt_two_pow ?_ ?_
    · exact Nat.lt_of_lt_of_le hc (Nat.pow_le_pow_right (n := 2) (i := 8) (by decide) (by omega))
    · rw [show 8 * (r.length + 1) = 8 + 8 * r.length by omega, Nat.pow_add]
      exact Nat.mul_lt_mul_of_pos_left ih (by decide)
theorem xor_div_pow (a b n : Nat) : (a ^^^ b) / 2 ^ n = (a / 2 ^ n) ^^^ (b / 2 ^ n) := by
  have := Nat.shiftRight_xor_distrib (a := a) (b := b) (i := n)
  simpa [Nat.shiftRight_eq_div_pow] using this
theorem leNat_cons_div (c : UInt8) (r : List UInt8) : leNat (c :: r) / 2 ^ 8 = leNat r := by
  show (c.toNat ^^^ (2 ^ 8 * leNat r)) / 2 ^ 8 = _
  have hc := UInt8.toNat_lt c
  rw [xor_div_pow, Nat.div_eq_of_lt hc, Nat.mul_div_cancel_left _ (by decide), Nat.zero_xor]
theorem leNat_drop (k : Nat) : ∀ l : List UInt8, leNat l / 2 ^ (8 * k) = leNat (l.drop k) := by
  induction k with
  | zero => intro l; simp
  | succ k ih =>
    intro l
    match l with
    | [] => simp [leNat]
    | c :: r => rw [List.drop_succ_cons, ← ih r, ← leNat_cons_div c r, Nat.div_div_eq_div_mul, ← Nat.pow_add, show 8 + 8 * k = 8 * (k + 1) by omega]
theorem leNat_append (a b : List UInt8) : leNat (a ++ b) = leNat a ^^^ (2 ^ (8 * a.length) * leNat b) := by
  induction a with
  | nil => simp [leNat]
  | cons c r ih =>
    show c.toNat ^^^ (2 ^ 8 * leNat (r ++ b)) = (c.toNat ^^^ (2 ^ 8 * leNat r)) ^^^ _
    have h : 2 ^ 8 * (leNat r ^^^ 2 ^ (8 * r.length) * leNat b) = (2 ^ 8 * leNat r) ^^^ (2 ^ (8 * (r.length + 1)) * leNat b) := by
      have := Nat.shiftLeft_xor_distrib (a := leNat r) (b := 2 ^ (8 * r.length) * leNat b) (i := 8)
      rw [show 8 * (r.length + 1) = 8 + 8 * r.length by omega, Nat.pow_add, Nat.mul_assoc]
      simpa [Nat.shiftLeft_eq, Nat.mul_comm] using this
    rw [ih, h, ← Nat.xor_assoc]; rfl
theorem leNat_inj (a : List UInt8) : ∀ b : List UInt8, a.length = b.length → leNat a = leNat b → a = b := by
  induction a with
  | nil => intro b hl _; exact (List.length_eq_zero_iff.1 hl.symm).symm
  | cons c r ih =>
    intro b hl h
    match b, hl with
    | d :: q, hl =>
      have h1 : leNat r = leNat q := by rw [← leNat_cons_div c r, ← leNat_cons_div d q, h]
      have h2 : c.toNat = d.toNat := by
        have h' : c.toNat ^^^ (2 ^ 8 * leNat r) = d.toNat ^^^ (2 ^ 8 * leNat q) := h
        rw [h1] at h'
        have h3 : (c.toNat ^^^ (2 ^ 8 * leNat q)) ^^^ (2 ^ 8 * leNat q) = (d.toNat ^^^ (2 ^ 8 * leNat q)) ^^^ (2 ^ 8 * leNat q) := by rw [h']
        rwa [Nat.xor_assoc, Nat.xor_self, Nat.xor_zero, Nat.xor_assoc, Nat.xor_self, Nat.xor_zero] at h3
      rw [UInt8.toNat_inj.1 h2, ih q (by simpa using hl) h1]

theorem leNat_take (m : Nat) (l : List UInt8) (h : m ≤ l.length) : leNat l % 2 ^ (8 * m) = leNat (l.take m) := by
  have hl : (l.take m).length = m := by simp; omega
  have hlt := leNat_lt (l.take m)
  rw [hl] at hlt
  conv => lhs; rw [← List.take_append_drop m l, leNat_append, hl]
  rw [Nat.xor_mod_two_pow, Nat.mul_mod_right, Nat.xor_zero, Nat.mod_eq_of_lt hlt]
theorem leNat_sub (l : List UInt8) (o m : Nat) (h : o + m ≤ l.length) : leNat l / 2 ^ (8 * o) % 2 ^ (8 * m) = leNat (sub l o m) := by
  rw [leNat_drop, leNat_take m _ (by rw [List.length_drop]; omega)]; rfl
theorem nt_inj {x y : Nat} (hx : x < 4294967296) (hy : y < 4294967296) (h : nt x = nt y) : x = y := by unfold nt at h; omega

/-- A meta as data. -/
structure Mt where
  pages : Int
  root : Int
  txid : Nat
def Mt.cells (m : Mt) : List Value := [.int .i64 m.pages, .int .i64 m.root, .int .u64 (m.txid : Int)]
/-- The numbers of a meta are those of their types. -/
def Mt.num (m : Mt) : Prop := -9223372036854775808 ≤ m.pages ∧ m.pages ≤ 9223372036854775807 ∧ -9223372036854775808 ≤ m.root ∧ m.root ≤ 9223372036854775807 ∧ m.txid < 18446744073709551616
def PagesOk (n : Int) : Prop := 4 ≤ n ∧ n ≤ 1048576
instance (n : Int) : Decidable (PagesOk n) := inferInstanceAs (Decidable (_ ∧ _))
def MayM (m : Mt) : Prop := PagesOk m.pages ∧ (m.root = 0 ∨ (2 ≤ m.root ∧ m.root < m.pages))
instance (m : Mt) : Decidable (MayM m) := inferInstanceAs (Decidable (_ ∧ _))
def markL : List UInt8 := [67, 79, 80, 83, 69, 0, 1, 0]
def tailZ : List UInt8 := List.replicate 484 0
theorem tailZ_len : tailZ.length = 484 := List.length_replicate ..
def mbare (p r t s : Nat) : List UInt8 := markL ++ (beBytes p 4 ++ (beBytes r 4 ++ (beBytes t 8 ++ (beBytes s 4 ++ tailZ))))
def mpageN (p r t : Nat) : List UInt8 := mbare p r t (crcV (mbare p r t 0))
def mpage (m : Mt) : List UInt8 := mpageN m.pages.toNat m.root.toNat m.txid
theorem mbare_len (p r t s : Nat) : (mbare p r t s).length = 512 := by
  simp [mbare, beBytes_len, markL, tailZ_len]
theorem mpage_len (m : Mt) : (mpage m).length = 512 := mbare_len _ _ _ _
def parseM (l : List UInt8) : Mt := ⟨(beNat (sub l 8 4) : Nat), (beNat (sub l 12 4) : Nat), beNat (sub l 16 8)⟩
theorem mbare8 (p r t s : Nat) : sub (mbare p r t s) 8 4 = beBytes p 4 := rfl
theorem mbare12 (p r t s : Nat) : sub (mbare p r t s) 12 4 = beBytes r 4 := rfl
theorem mbare16 (p r t s : Nat) : sub (mbare p r t s) 16 8 = beBytes t 8 := rfl
theorem mbare24 (p r t s : Nat) : sub (mbare p r t s) 24 4 = beBytes s 4 := rfl
/-- Bytes are valid in a slot of a device with so many pages. -/
def okM (l : List UInt8) (pages slot : Int) : Prop := l.length = 512 ∧ (parseM l).pages = pages ∧ MayM (parseM l) ∧ (((parseM l).txid % 2 : Nat) : Int) = slot ∧ mpage (parseM l) = l
instance (l : List UInt8) (pages slot : Int) : Decidable (okM l pages slot) := inferInstanceAs (Decidable (_ ∧ _))
theorem parseM_num (l : List UInt8) (h : l.length = 512) : (parseM l).num := by
  have h1 := beNat_lt (sub l 8 4)
  have h2 := beNat_lt (sub l 12 4)
  have h3 := beNat_lt (sub l 16 8)
  rw [sub_len _ _ _ (by omega)] at h1 h2 h3
  simp only [show (256 : Nat) ^ 4 = 4294967296 from rfl, show (256 : Nat) ^ 8 = 18446744073709551616 from rfl] at h1 h2 h3
  unfold Mt.num parseM
  simp only
  omega
theorem parse_mpage (m : Mt) (hm : MayM m) (hx : m.txid < 18446744073709551616) : parseM (mpage m) = m := by
  obtain ⟨p, r, t⟩ := m
  obtain ⟨⟨hp1, hp2⟩, hr⟩ := hm
  simp only at hp1 hp2 hr hx
  obtain ⟨p, rfl⟩ := Int.eq_ofNat_of_zero_le (show 0 ≤ p by omega)
  obtain ⟨r, rfl⟩ := Int.eq_ofNat_of_zero_le (show 0 ≤ r by omega)
  have h : mpage ⟨(p : Int), (r : Int), t⟩ = mbare p r t (crcV (mbare p r t 0)) := rfl
  rw [h]
  generalize crcV (mbare p r t 0) = sum
  unfold parseM
  rw [mbare8, mbare12, mbare16, back_num 4 p (by decide) (by show p < 2 ^ 32; omega), back_num 4 r (by decide) (by show r < 2 ^ 32; omega), back_num 8 t (by decide) (by show t < 2 ^ 64; omega)]
theorem okM_mpage (m : Mt) (hm : MayM m) (hx : m.txid < 18446744073709551616) (pages slot : Int) : okM (mpage m) pages slot ↔ m.pages = pages ∧ ((m.txid % 2 : Nat) : Int) = slot := by
  unfold okM
  rw [parse_mpage m hm hx]
  exact ⟨fun h => ⟨h.2.1, h.2.2.2.1⟩, fun h => ⟨mpage_len m, h.1, hm, h.2, rfl⟩⟩
def mheadA (p r t : Nat) : List UInt8 := markL ++ (beBytes p 4 ++ (beBytes r 4 ++ beBytes t 8))
theorem mbare_parts (p r t s : Nat) : mbare p r t s = mheadA p r t ++ (beBytes s 4 ++ tailZ) := by
  simp [mbare, mheadA]
theorem mheadA_len (p r t : Nat) : (mheadA p r t).length = 24 := by simp [mheadA, beBytes_len, markL]
theorem leNat_mbare (p r t s : Nat) : leNat (mbare p r t s) = leNat (mbare p r t 0) ^^^ (2 ^ 192 * leNat (beBytes s 4)) := by
  have h0 : leNat (beBytes 0 4) = 0 := by decide
  have hl0 : (beBytes 0 4).length = (beBytes s 4).length := by rw [beBytes_len _ _ (by decide), beBytes_len _ _ (by decide)]
  have hx : ∀ a b : Nat, 2 ^ 192 * (a ^^^ b) = (2 ^ 192 * a) ^^^ (2 ^ 192 * b) := fun a b => by
    have := Nat.shiftLeft_xor_distrib (a := a) (b := b) (i := 192)
    simpa [Nat.shiftLeft_eq, Nat.mul_comm] using this
  rw [mbare_parts p r t s, mbare_parts p r t 0, leNat_append, leNat_append (mheadA p r t), leNat_append (beBytes s 4), leNat_append (beBytes 0 4), mheadA_len, h0, hl0, Nat.zero_xor]
  rw [show 8 * 24 = 192 from rfl, hx, Nat.xor_assoc, Nat.xor_comm (2 ^ 192 * leNat (beBytes s 4))]

/-- A burst outside of the sum is told. -/
theorem burst_meta (m : Mt) (q : List UInt8) (at' T : Nat) (pages slot : Int) (hq : q.length = 512) (hle : leNat q = leNat (mpage m) ^^^ (2 ^ at' * T)) (hT : T < 2 ^ 32) (h0 : T ≠ 0)
    (hat : (at' ≤ 8 * 512 ∧ 2 ^ at' * T < 2 ^ 192) ∨ (224 ≤ at' ∧ at' ≤ 8 * 512)) : ¬ okM q pages slot := by
  rintro ⟨_, _, hm', _, hpg⟩
  obtain ⟨p, r, t⟩ := m
  have hpl := mpage_len ⟨p, r, t⟩
  have hz : (2 ^ at' * T) / 2 ^ (8 * 24) % 2 ^ (8 * 4) = 0 := by
    rcases hat with ⟨_, h⟩ | ⟨h, _⟩
    · rw [Nat.div_eq_of_lt h]
    · rw [show at' = 8 * 24 + (8 * 4 + (at' - 224)) by omega, Nat.pow_add, Nat.mul_assoc, Nat.mul_div_cancel_left _ (Nat.two_pow_pos _), Nat.pow_add, Nat.mul_assoc, Nat.mul_mod_right]
  have hs : leNat (sub q 24 4) = leNat (sub (mpage ⟨p, r, t⟩) 24 4) := by
    rw [← leNat_sub q 24 4 (by omega), ← leNat_sub (mpage ⟨p, r, t⟩) 24 4 (by omega), hle, xor_div_pow, Nat.xor_mod_two_pow, hz, Nat.xor_zero]
  have hsub : sub q 24 4 = sub (mpage ⟨p, r, t⟩) 24 4 := leNat_inj _ _ (by rw [sub_len _ _ _ (by omega), sub_len _ _ _ (by omega)]) hs
  generalize hp' : (parseM q) = pm at *
  obtain ⟨p2, r2, t2⟩ := pm
  obtain ⟨cs, hcs⟩ : ∃ cs, cs = crcV (mbare p.toNat r.toNat t 0) := ⟨_, rfl⟩
  obtain ⟨ct, hct⟩ : ∃ ct, ct = crcV (mbare p2.toNat r2.toNat t2 0) := ⟨_, rfl⟩
  have e1 : mpage ⟨p, r, t⟩ = mbare p.toNat r.toNat t cs := by rw [hcs]; rfl
  have e2 : q = mbare p2.toNat r2.toNat t2 ct := by rw [hct]; exact hpg.symm
  have hcl : cs < 4294967296 := by rw [hcs]; exact nt_lt _
  have htl : ct < 4294967296 := by rw [hct]; exact nt_lt _
  have hsum : cs = ct := by
    rw [e1, mbare24] at hsub
    have h3 : sub q 24 4 = beBytes ct 4 := by rw [e2]; exact mbare24 _ _ _ _
    rw [h3] at hsub
    rw [← back_num 4 cs (by decide) hcl, ← back_num 4 ct (by decide) htl, hsub]
  have l1 := leNat_mbare p.toNat r.toNat t cs
  have l2 := leNat_mbare p2.toNat r2.toNat t2 ct
  rw [← e1] at l1
  rw [← e2, ← hsum] at l2
  have hx : leNat (mbare p2.toNat r2.toNat t2 0) = leNat (mbare p.toNat r.toNat t 0) ^^^ (2 ^ at' * T) := by
    have h1 : leNat (mbare p2.toNat r2.toNat t2 0) ^^^ (2 ^ 192 * leNat (beBytes cs 4)) = (leNat (mbare p.toNat r.toNat t 0) ^^^ (2 ^ at' * T)) ^^^ (2 ^ 192 * leNat (beBytes cs 4)) := by
      rw [← l2, hle, l1, Nat.xor_assoc, Nat.xor_assoc, Nat.xor_comm (2 ^ 192 * leNat (beBytes cs 4))]
    have h2 : (leNat (mbare p2.toNat r2.toNat t2 0) ^^^ (2 ^ 192 * leNat (beBytes cs 4))) ^^^ (2 ^ 192 * leNat (beBytes cs 4)) = ((leNat (mbare p.toNat r.toNat t 0) ^^^ (2 ^ at' * T)) ^^^ (2 ^ 192 * leNat (beBytes cs 4))) ^^^ (2 ^ 192 * leNat (beBytes cs 4)) := by rw [h1]
    rwa [Nat.xor_assoc, Nat.xor_self, Nat.xor_zero, Nat.xor_assoc, Nat.xor_self, Nat.xor_zero] at h2
  have hn0 : nt 0 < 4294967296 := nt_lt 0
  have hc : crcReg (nt 0) (mbare p.toNat r.toNat t 0) = crcReg (nt 0) (mbare p2.toNat r2.toNat t2 0) := by
    refine nt_inj (crcReg_lt _ _ hn0) (crcReg_lt _ _ hn0) ?_
    show crcV (mbare p.toNat r.toNat t 0) = crcV (mbare p2.toNat r2.toNat t2 0)
    rw [← hcs, ← hct, hsum]
  rw [crcReg_le, crcReg_le, mbare_len, mbare_len, hx] at hc
  exact burst_tells (nt 0) (leNat (mbare p.toNat r.toNat t 0)) (8 * 512) at' T (by rcases hat with h | h <;> omega) hT h0 hc

/-- What is changed within the sum alone is told. -/
theorem within_meta (m : Mt) (q : List UInt8) (pages slot : Int) (hne : q ≠ mpage m) (hm : MayM m) (hx : m.txid < 18446744073709551616)
    (h8 : sub q 8 4 = sub (mpage m) 8 4) (h12 : sub q 12 4 = sub (mpage m) 12 4) (h16 : sub q 16 8 = sub (mpage m) 16 8) : ¬ okM q pages slot := by
  rintro ⟨_, _, _, _, hpg⟩
  refine hne ?_
  rw [← hpg]
  have : parseM q = parseM (mpage m) := by unfold parseM; rw [h8, h12, h16]
  rw [this, parse_mpage m hm hx]

end Go.Proofs.YtpeobpmooledaaaDoor.M

namespace Go.Proofs.YtpeobpmooledaaaDoor
open Go.RowKit

/-- A parcel, an archive, as data. -/
structure Pc where
  id : Int
  tx : Nat
  dat : ByteArray
structure Ar where
  pg : Int
  rt : Int
  tx : Nat
  si : Nat
  ids : List Int
  pcs : List Pc
  sum : Nat
/-- Pages that rise, from lo to below hi. -/
def pgOk (lo hi : Int) : List Int → Bool
  | [] => true
  | x :: r => !(decide (x < lo) || decide (hi ≤ x)) && pgOk (x + 1) hi r
/-- The bytes of a parcel are those of its page. -/
def holdsD (p : Pc) : Bool := decide (S.okRead p.dat.data.toList p.id) && decide (S.nums p.dat.data.toList 3 = p.tx)
def pcOk (si tx : Nat) (lo : Int) : List Pc → Bool
  | [] => true
  | p :: r => !(decide (p.id < lo) || decide (p.tx ≤ si) || decide (tx < p.tx) || !holdsD p) && pcOk si tx (p.id + 1) r
def foundN (ids : List Int) (pcs : List Pc) : Nat := (ids.filter fun i => pcs.any fun p => decide (p.id = i)).length
def hasD (a : Ar) : Bool := decide (foundN a.ids a.pcs = a.pcs.length) && (decide (foundN a.ids a.pcs = a.ids.length) || !decide (a.si = 0))
def mayD (a : Ar) : Bool := decide (M.MayM ⟨a.pg, a.rt, a.tx⟩) && decide (a.si ≤ a.tx) && pgOk 2 a.pg a.ids && pcOk a.si a.tx 2 a.pcs && hasD a
/-- The document's words of the parcels. -/
def qcOk (ids : List Int) (si tx : Nat) (lo : Int) : List Pc → Bool
  | [] => true
  | p :: r => (decide (p.id ∈ ids) && (holdsD p && decide (si < p.tx) && decide (p.tx ≤ tx))) && !decide (p.id < lo) && qcOk ids si tx (p.id + 1) r
def rmayD (a : Ar) : Bool := decide (M.MayM ⟨a.pg, a.rt, a.tx⟩) && !(decide (a.tx < a.si) || (decide (a.si = 0) && !decide (a.pcs.length = a.ids.length))) && pgOk 2 a.pg a.ids && qcOk a.ids a.si a.tx 2 a.pcs

/-- Lists that rise. -/
def Up : List Int → Prop
  | [] => True
  | x :: r => (∀ y ∈ r, x < y) ∧ Up r
theorem Up.filter (f : Int → Bool) : ∀ l, Up l → Up (l.filter f)
  | [], _ => trivial
  | x :: r, h => by
    rw [List.filter_cons]
    split
    · exact ⟨fun y hy => h.1 y (List.mem_filter.1 hy).1, Up.filter f r h.2⟩
    · exact Up.filter f r h.2
theorem Up.eq : ∀ a b : List Int, Up a → Up b → (∀ x, x ∈ a ↔ x ∈ b) → a = b
  | [], [], _, _, _ => rfl
  | [], y :: r, _, _, h => absurd ((h y).2 (by simp)) (by simp)
  | x :: r, [], _, _, h => absurd ((h x).1 (by simp)) (by simp)
  | x :: r, y :: s, ha, hb, h => by
    have e : x = y := by
      have h1 := (h x).1 (by simp)
      have h2 := (h y).2 (by simp)
      rcases List.mem_cons.1 h1 with e | h1
      · exact e
      rcases List.mem_cons.1 h2 with e | h2
      · exact e.symm
      have := ha.1 y h2
      have := hb.1 x h1
      omega
    subst e
    rw [Up.eq r s ha.2 hb.2 fun z => ?_]
    constructor
    · intro hz
      rcases List.mem_cons.1 ((h z).1 (List.mem_cons_of_mem _ hz)) with e | hz'
      · subst e; have := ha.1 z hz; omega
      · exact hz'
    · intro hz
      rcases List.mem_cons.1 ((h z).2 (List.mem_cons_of_mem _ hz)) with e | hz'
      · subst e; have := hb.1 z hz; omega
      · exact hz'
theorem pgOk_up (hi : Int) : ∀ (l : List Int) (lo : Int), pgOk lo hi l = true → Up l ∧ ∀ x ∈ l, lo ≤ x ∧ x < hi
  | [], _, _ => ⟨trivial, fun x h => by cases h⟩
  | x :: r, lo, h => by
    simp only [pgOk, Bool.and_eq_true, Bool.not_eq_true', Bool.or_eq_false_iff, decide_eq_false_iff_not] at h
    obtain ⟨⟨h1, h2⟩, h3⟩ := h
    obtain ⟨u, k⟩ := pgOk_up hi r (x + 1) h3
    refine ⟨⟨fun y hy => by have := (k y hy).1; omega, u⟩, fun y hy => ?_⟩
    rcases List.mem_cons.1 hy with rfl | hy
    · omega
    · have := k y hy; omega
theorem pcOk_up (si tx : Nat) : ∀ (l : List Pc) (lo : Int), pcOk si tx lo l = true → Up (l.map Pc.id) ∧ (∀ p ∈ l, lo ≤ p.id) ∧ ∀ p ∈ l, holdsD p = true ∧ si < p.tx ∧ p.tx ≤ tx
  | [], _, _ => ⟨trivial, fun x h => (by cases h), fun x h => (by cases h)⟩
  | p :: r, lo, h => by
    simp only [pcOk, Bool.and_eq_true, Bool.not_eq_true', Bool.or_eq_false_iff, decide_eq_false_iff_not, Bool.not_eq_false'] at h
    obtain ⟨⟨⟨⟨h1, h2⟩, h3⟩, h4⟩, h5⟩ := h
    obtain ⟨u, k, m⟩ := pcOk_up si tx r (p.id + 1) h5
    refine ⟨⟨fun y hy => ?_, u⟩, fun q hq => ?_, fun q hq => ?_⟩
    · obtain ⟨q, hq, rfl⟩ := List.mem_map.1 hy
      have := k q hq; omega
    · rcases List.mem_cons.1 hq with rfl | hq
      · omega
      · have := k q hq; omega
    · rcases List.mem_cons.1 hq with rfl | hq
      · exact ⟨h4, by omega, by omega⟩
      · exact m q hq
/-- The same words in another order. -/
theorem qcOk_eq (ids : List Int) (si tx : Nat) : ∀ (l : List Pc) (lo : Int), qcOk ids si tx lo l = (pcOk si tx lo l && decide (∀ p ∈ l, p.id ∈ ids))
  | [], _ => by simp [qcOk, pcOk]
  | p :: r, lo => by
    rw [Bool.eq_iff_iff]
    simp only [qcOk, pcOk, qcOk_eq ids si tx r (p.id + 1), Bool.and_eq_true, Bool.not_eq_true', Bool.or_eq_false_iff, decide_eq_false_iff_not, Bool.not_eq_false', decide_eq_true_eq, List.mem_cons, forall_eq_or_imp]
    constructor
    · rintro ⟨⟨⟨h1, ⟨h2, h3⟩, h4⟩, h5⟩, h6, h7⟩
      exact ⟨⟨⟨⟨⟨h5, by omega⟩, by omega⟩, h2⟩, h6⟩, h1, h7⟩
    · rintro ⟨⟨⟨⟨⟨h5, h3⟩, h4⟩, h2⟩, h6⟩, h1, h7⟩
      exact ⟨⟨⟨h1, ⟨h2, by omega⟩, by omega⟩, h5⟩, h6, h7⟩
theorem found_up {a : Ar} (h1 : Up a.ids) (h2 : Up (a.pcs.map Pc.id)) : foundN a.ids a.pcs = ((a.pcs.map Pc.id).filter fun i => decide (i ∈ a.ids)).length := by
  unfold foundN
  congr 1
  refine Up.eq _ _ (h1.filter _) (h2.filter _) fun x => ?_
  simp only [List.mem_filter, List.any_eq_true, decide_eq_true_eq, List.mem_map]
  constructor
  · rintro ⟨h, p, hp, e⟩; exact ⟨⟨p, hp, e⟩, h⟩
  · rintro ⟨⟨p, hp, e⟩, h⟩; exact ⟨h, p, hp, e⟩
theorem found_all {a : Ar} (h1 : Up a.ids) (h2 : Up (a.pcs.map Pc.id)) : (foundN a.ids a.pcs = a.pcs.length) ↔ ∀ p ∈ a.pcs, p.id ∈ a.ids := by
  have e : a.pcs.length = (a.pcs.map Pc.id).length := by simp
  rw [found_up h1 h2, e, List.length_filter_eq_length_iff]
  simp
theorem may_eq (a : Ar) : rmayD a = mayD a := by
  rw [Bool.eq_iff_iff]
  unfold rmayD mayD hasD
  rw [qcOk_eq]
  simp only [Bool.and_eq_true, Bool.not_eq_true', Bool.or_eq_false_iff, Bool.or_eq_true, decide_eq_false_iff_not, Bool.and_eq_false_iff, decide_eq_true_eq, Bool.not_eq_false']
  constructor
  · rintro ⟨⟨⟨h1, h2, h3⟩, h4⟩, h5, h6⟩
    have u1 := (pgOk_up _ _ _ h4).1
    have u2 := (pcOk_up _ _ _ _ h5).1
    have hf := (found_all u1 u2).2 h6
    refine ⟨⟨⟨⟨h1, by omega⟩, h4⟩, h5⟩, hf, ?_⟩
    rcases h3 with h3 | h3
    · exact .inr h3
    · exact .inl (hf.trans h3)
  · rintro ⟨⟨⟨⟨h1, h2⟩, h4⟩, h5⟩, h6, h7⟩
    have u1 := (pgOk_up _ _ _ h4).1
    have u2 := (pcOk_up _ _ _ _ h5).1
    refine ⟨⟨⟨h1, by omega, ?_⟩, h4⟩, h5, (found_all u1 u2).1 h6⟩
    rcases h7 with h7 | h7
    · exact .inr (h6.symm.trans h7)
    · exact .inl h7

/-- The bytes that an archive's sum is taken of. -/
def pcB (p : Pc) : List UInt8 := (beBytes p.id.toNat 4 ++ beBytes p.tx 8) ++ p.dat.data.toList
def hdB (a : Ar) : List UInt8 := ((beBytes a.pg.toNat 4 ++ beBytes a.rt.toNat 4) ++ beBytes a.tx 8) ++ beBytes a.si 8
def idsB (l : List Int) : List UInt8 := l.flatMap fun i => beBytes i.toNat 4
def pcsB (l : List Pc) : List UInt8 := l.flatMap pcB
def arB (a : Ar) : List UInt8 := (((hdB a ++ beBytes a.ids.length 4) ++ idsB a.ids) ++ beBytes a.pcs.length 4) ++ pcsB a.pcs
def chkD (a : Ar) : Bool := mayD a && decide (a.sum = crcV (arB a))
end Go.Proofs.YtpeobpmooledaaaDoor

namespace Go.Proofs.YtpeobpmooledaaaDoor
open Go.RowKit

/-- The cells of a parcel, of parcels. -/
def pcC (c : Pc) : List Value := [.int .i64 c.id, .int .u64 (c.tx : Int), .string c.dat]
def pcs (l : List Pc) : List Value := l.flatMap pcC
theorem pcs_cons (c : Pc) (l : List Pc) : pcs (c :: l) = pcC c ++ pcs l := by simp [pcs]
theorem pcs_append (a b : List Pc) : pcs (a ++ b) = pcs a ++ pcs b := by simp [pcs]
theorem pcs_length (l : List Pc) : (pcs l).length = l.length * 3 := by
  induction l with
  | nil => rfl
  | cons c l ih => rw [pcs_cons]; simp [ih, pcC]; omega
theorem pcs_get (l : List Pc) : ∀ j (h : j < l.length) i (_ : i < 3), (pcs l)[j * 3 + i]? = (pcC l[j])[i]? := by
  induction l with
  | nil => intro j h; simp at h
  | cons c l ih =>
    intro j h i hi
    rw [pcs_cons]
    cases j with
    | zero =>
      rw [List.getElem?_append_left (by simp [pcC]; omega)]
      simp
    | succ j =>
      have := ih j (by simpa using h) i hi
      rw [List.getElem?_append_right (by simp [pcC]; omega)]
      rw [show (j + 1) * 3 + i - (pcC c).length = j * 3 + i by simp [pcC]; omega]
      simpa using this
theorem pcs_one (l : List Pc) : ∀ u ∈ pcs l, u.oneCell' = true := by
  intro u hu
  simp only [pcs, List.mem_flatMap] at hu
  obtain ⟨p, _, h⟩ := hu
  simp [pcC] at h
  rcases h with rfl | rfl | rfl <;> rfl
theorem infoPc : (Tryd.prog.info? 38).map (fun i => (i.zero, i.size, i.bytes)) = some (some (.agg #[.int .i64 0, .int .u64 0, .string ByteArray.empty]), 3, 32) := by kernel_rfl

/-- A parcel lies from this place on. -/
def PcAt (w : World) (g o : Nat) (c : Pc) : Prop := w.cell? ⟨g, o, none⟩ = some (.int .i64 c.id) ∧ w.cell? ⟨g, o + 1, none⟩ = some (.int .u64 (c.tx : Int)) ∧ w.cell? ⟨g, o + 2, none⟩ = some (.string c.dat)
theorem PcAt.lt {w : World} {g o : Nat} {c : Pc} (h : PcAt w g o c) : g < w.heap.size := World.block_lt_of_cell? w _ h.1
theorem PcAt.block {w w' : World} {g o : Nat} {c : Pc} (h : PcAt w g o c) (hb : w'.heap[g]? = w.heap[g]?) : PcAt w' g o c :=
  ⟨(World.cell?_of_block (a := ⟨g, o, none⟩) hb).trans h.1, (World.cell?_of_block (a := ⟨g, o + 1, none⟩) hb).trans h.2.1, (World.cell?_of_block (a := ⟨g, o + 2, none⟩) hb).trans h.2.2⟩
/-- The slice value v reads as the parcels l. -/
def PcR (w : World) (v : Value) (l : List Pc) : Prop := ∃ a cap, v = .slice a l.length cap ∧ l.length ≤ cap ∧ (a = none → cap = 0) ∧
  ∀ j (h : j < l.length), ∃ g o, a = some ⟨g, o, none⟩ ∧ PcAt w g (o + j * 3) l[j]
theorem PcR.below {w w' : World} {v : Value} {l : List Pc} (h : PcR w v l) (hb : Below w.heap.size w w') : PcR w' v l := by
  obtain ⟨a, cap, rfl, hle, hn, hc⟩ := h
  refine ⟨a, cap, rfl, hle, hn, fun j hj => ?_⟩
  obtain ⟨g, o, ha, h1⟩ := hc j hj
  exact ⟨g, o, ha, h1.block (hb.block g h1.lt)⟩
theorem PcR.form {w : World} {v : Value} {l : List Pc} (h : PcR w v l) : ∃ a c, v = .slice a l.length c := by
  obtain ⟨a, c, rfl, _⟩ := h; exact ⟨a, c, rfl⟩
theorem PcR.of_owns {w : World} {base n : Nat} {v : Value} {l : List Pc} (h : w.ownsRow base 38 3 v n (pcs l)) : PcR w v l := by
  have hl := h.1
  rw [pcs_length] at hl
  have hl : l.length = n := by omega
  rcases h.2 with ⟨rfl, hn⟩ | ⟨g, cap, cur, rfl, hb, hg, hnc, hcm, hcs, htk⟩
  · have h0 : l.length = 0 := by omega
    exact ⟨none, 0, by rw [h0], by omega, fun _ => rfl, fun j hj => by omega⟩
  · refine ⟨some ⟨g, 0, none⟩, cap, by rw [hl], by omega, fun h => (by cases h), fun j hj => ⟨g, 0, rfl, ?_⟩⟩
    have hc := fun i (hi : i < 3) => (h.cellAt (j * 3 + i) (by omega)).trans (pcs_get l j hj i hi)
    refine ⟨?_, ?_, ?_⟩
    · have := hc 0 (by omega); rw [Nat.zero_add]; exact this
    · have := hc 1 (by omega); rw [Nat.zero_add]; exact this
    · have := hc 2 (by omega); rw [Nat.zero_add]; exact this
theorem PcR.take {w : World} {a : Option Addr} {n m cap : Nat} {l : List Pc} (h : PcR w (.slice a n cap) l) (hm : m ≤ n) : PcR w (.slice a m cap) (l.take m) := by
  obtain ⟨a', cap', he, hle, hn, hc⟩ := h
  cases he
  refine ⟨a, cap, by rw [List.length_take, Nat.min_eq_left hm], by rw [List.length_take]; omega, hn, fun j hj => ?_⟩
  rw [List.length_take] at hj
  obtain ⟨g, o, ha, h1⟩ := hc j (by omega)
  exact ⟨g, o, ha, by rw [List.getElem_take]; exact h1⟩
theorem PcR.nil (w : World) : PcR w (.slice none 0 0) [] := ⟨none, 0, rfl, Nat.le_refl _, fun _ => rfl, fun j h => by simp at h⟩

/-- A list of the call's own that reads as these parcels. -/
def PcO (w : World) (base : Nat) (v : Value) (l : List Pc) : Prop := w.ownsRow base 38 3 v l.length (pcs l)
theorem PcO.at {w : World} {base : Nat} {v : Value} {l : List Pc} (h : PcO w base v l) : PcR w v l := PcR.of_owns h
theorem PcO.form {w : World} {base : Nat} {v : Value} {l : List Pc} (h : PcO w base v l) : ∃ a c, v = .slice a l.length c := h.at.form
/-- What a list owns lies on where its block does. -/
theorem PcO.keep {w w' : World} {base : Nat} {v : Value} {l : List Pc} (h : PcO w base v l) (hb : ∀ g cs, base ≤ g → w.heap[g]? = some (.cells cs 38 (0, 0)) → w'.heap[g]? = some (.cells cs 38 (0, 0))) : PcO w' base v l := by
  refine ⟨h.1, ?_⟩
  rcases h.2 with h' | ⟨g, cap, cur, h', h1, h2, hr⟩
  · exact .inl h'
  · exact .inr ⟨g, cap, cur, h', h1, hb g _ h1 h2, hr⟩
theorem PcO.below {w w' : World} {base : Nat} {v : Value} {l : List Pc} (h : PcO w base v l) (hb : Below w.heap.size w w') : PcO w' base v l :=
  h.keep fun g _ _ h2 => (hb.block g (Array.getElem?_eq_some_iff.1 h2).1).trans h2
theorem PcO.mono {w : World} {b b2 : Nat} {v : Value} {l : List Pc} (h : PcO w b v l) (hb : b2 ≤ b) : PcO w b2 v l := by
  refine ⟨h.1, ?_⟩
  rcases h.2 with h' | ⟨g, cap, cur, h', h1, hr⟩
  · exact .inl h'
  · exact .inr ⟨g, cap, cur, h', Nat.le_trans hb h1, hr⟩
theorem PcO.nil (w : World) (base : Nat) : PcO w base (.slice none 0 0) [] := World.ownsRow_nil _ _ _ _
theorem PcO.blk {w : World} {base : Nat} {v : Value} {l : List Pc} (h : PcO w base v l) : ∀ k, v.ownBlock = some k → base ≤ k ∧ k < w.heap.size := World.ownsRow.lt h
theorem PcO.kind {w : World} {base : Nat} {v : Value} {l : List Pc} (h : PcO w base v l) : ∀ k o, v.ownBlock = some k → w.heap[k]? = some o → ∃ cs, o = .cells cs 38 (0, 0) := by
  intro k o hk ho
  rcases h.2 with ⟨rfl, _⟩ | ⟨g, cap, cur, rfl, h1, h2, hr⟩
  · simp [Value.ownBlock] at hk
  · simp [Value.ownBlock] at hk; subst hk; rw [h2] at ho; cases ho; exact ⟨_, rfl⟩
/-- append(v, s...) of parcels. -/
theorem append_pcs (base : Nat) (v s : Value) (xs us : List Pc) (w : World) (hown : PcO w base v xs) (hs : PcR w s us) (hb : (xs.length + us.length) * 32 ≤ 140737488355328) (hbase : base ≤ w.heap.size) :
    ∃ a' cap' w', (Builtin.append_ #[26, 26] 26 #[v, s]).run Tryd.prog w = .ok (.slice a' (xs.length + us.length) cap') w' ∧ PcO w' base (.slice a' (xs.length + us.length) cap') (xs ++ us) ∧ w.grownBy w' v.ownBlock := by
  obtain ⟨i0, hi, hz, hsz, hby⟩ := info_parts infoPc
  obtain ⟨a, cap, rfl, hle, hnil, hc⟩ := hs
  have hf0 : ∃ a' c', v = .slice a' xs.length c' := hown.form
  unfold PcO at hown ⊢
  rw [List.length_append, pcs_append]
  cases a with
  | none =>
    have h0 : us = [] := by
      cases us with
      | nil => rfl
      | cons u r => obtain ⟨g, o, he, _⟩ := hc 0 (by simp); cases he
    subst h0
    rw [hnil rfl]
    have hr := run_append_owned_none (P := Tryd.prog) w base 26 26 38 i0 3 Tryd.underlying26 hi v xs.length (pcs xs) hown
    obtain ⟨a', c', rfl⟩ := hf0
    exact ⟨a', c', w, hr, by simpa [pcs] using hown, ⟨rfl, rfl, rfl, Nat.le_refl _, fun _ _ _ => rfl⟩⟩
  | some ad =>
    obtain ⟨v', w', hr, hown', hgr, _⟩ := run_append_own (P := Tryd.prog) w base 26 26 38 i0 _ 3 32 Tryd.underlying26 hi hz hsz hby rfl (by decide) v xs.length (pcs xs) hown ad us.length cap (pcs us) (pcs_length us) (fun j u hj => by
      have hj' := (List.getElem?_eq_some_iff.1 hj).1
      rw [pcs_length] at hj'
      obtain ⟨q, r, hm, rfl⟩ : ∃ q r, r < 3 ∧ j = q * 3 + r := ⟨j / 3, j % 3, by omega, by omega⟩
      have hq : q < us.length := by omega
      clear hj'
      obtain ⟨g, o, he, c0, c1, c2⟩ := hc q hq
      cases he
      have hg := pcs_get us q hq r hm
      rw [hj] at hg
      rw [add_plain', ← Nat.add_assoc]
      match r, hm, hg with
      | 0, _, hg => simp [pcC] at hg; subst hg; exact c0
      | 1, _, hg => simp [pcC] at hg; subst hg; exact c1
      | 2, _, hg => simp [pcC] at hg; subst hg; exact c2) (pcs_one us) (by unfold maxLen; omega) hb hbase
    have hf : ∃ a' c', v' = .slice a' (xs.length + us.length) c' := by
      rcases hown'.2 with ⟨rfl, h0⟩ | ⟨g, cap, cur, rfl, _⟩
      · exact ⟨none, 0, by rw [h0]⟩
      · exact ⟨_, _, rfl⟩
    obtain ⟨a', c', rfl⟩ := hf
    exact ⟨a', c', w', hr, hown', hgr⟩
theorem pcR_lit (w : World) (c : Pc) (t : TypeId) : PcR (w.alloc (.cells (pcC c).toArray t)) (.slice (some ⟨w.heap.size, 0, none⟩) 1 1) [c] := by
  have hb := boxed_new w (pcC c).toArray t
  refine ⟨_, _, rfl, Nat.le_refl _, fun h => (by cases h), fun j hj => ⟨_, _, rfl, ?_⟩⟩
  have : j = 0 := by simpa using hj
  subst this
  exact ⟨hb.2 0 (by simp [pcC]), hb.2 1 (by simp [pcC]), hb.2 2 (by simp [pcC])⟩
/-- v = append(v, c): the list's own block alone is turned, or there is a new one. -/
theorem push_pcs (base : Nat) (v : Value) (l : List Pc) (c : Pc) (t : TypeId) (w : World) (n : Nat) (hn : l.length = n) (hown : PcO w base v l) (hb : (n + 1) * 32 ≤ 140737488355328) (hbase : base ≤ w.heap.size) :
    ∃ a' cap' w', (Builtin.append_ #[26, 26] 26 #[v, .slice (some ⟨w.heap.size, 0, none⟩) 1 1]).run Tryd.prog (w.alloc (.cells (pcC c).toArray t)) = .ok (.slice a' (n + 1) cap') w' ∧ PcO w' base (.slice a' (n + 1) cap') (l ++ [c]) ∧ (w.alloc (.cells (pcC c).toArray t)).grownBy w' v.ownBlock := by
  subst hn
  have ho : PcO (w.alloc (.cells (pcC c).toArray t)) base v l := World.ownsRow.alloc hown _
  exact append_pcs base v _ l [c] _ ho (pcR_lit w c t) (by simpa using hb) (by simp; omega)

end Go.Proofs.YtpeobpmooledaaaDoor
