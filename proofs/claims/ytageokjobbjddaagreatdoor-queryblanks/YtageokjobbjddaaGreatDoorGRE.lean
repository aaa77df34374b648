import Derived.Test.YtageokjobbjddaaGreatDoorGRD
import Derived.Deep.RegionLaw
import Derived.Lib.ItoaLen
import Derived.Test.YtageokjobbjddaaGreatDoorGRC
import Derived.Test.YtageokjobbjddaaGreatDoorFault
import Derived.Lib.Bytealg
namespace Go.Proofs.YtageokjobbjddaaGreatDoor
open Go.RowKit

/-! Letters, digits, words, reserved words: the document's own. -/
theorem q_drop (s : ByteArray) (k : Nat) (h : k < s.size) : s.data.toList.drop k = s[k] :: s.data.toList.drop (k + 1) := by
  have h1 : k < s.data.toList.length := by rw [q_len]; exact h
  exact List.drop_eq_getElem_cons h1
theorem q_drop_end (s : ByteArray) (k : Nat) (h : s.size ≤ k) : s.data.toList.drop k = [] := List.drop_eq_nil_of_le (by rw [q_len]; exact h)
theorem u8_ne {c : UInt8} {k : Nat} (hk : k < 256) (h : ¬ c = UInt8.ofNat k) : ((c.toNat : Int) == (k : Int)) = false := by
  rw [beq_eq_false_iff_ne]
  intro e
  refine h (UInt8.toNat_inj.1 ?_)
  rw [UInt8.toNat_ofNat', Nat.mod_eq_of_lt hk]
  omega
def letterB (c : UInt8) : Bool := decide ((97 ≤ c.toNat ∧ c.toNat ≤ 122) ∨ (65 ≤ c.toNat ∧ c.toNat ≤ 90) ∨ c.toNat = 95)
def digitB (c : UInt8) : Bool := decide (48 ≤ c.toNat ∧ c.toNat ≤ 57)
/-- How many bytes are a word's; b: the next one must be a letter. -/
def wfrom : Bool → List UInt8 → Nat
  | _, [] => 0
  | b, c :: r => if (letterB c || (!b && digitB c)) = true then wfrom false r + 1 else 0
theorem wfrom_le : ∀ (b : Bool) (l : List UInt8), wfrom b l ≤ l.length
  | _, [] => Nat.le_refl _
  | b, c :: r => by
    rw [wfrom]
    split
    · have := wfrom_le false r; simp only [List.length_cons]; omega
    · simp
/-- The reserved words. -/
def resL : List ByteArray := [⟨#[102, 114, 111, 109]⟩, ⟨#[119, 104, 101, 114, 101]⟩, ⟨#[97, 110, 100]⟩, ⟨#[111, 114, 100, 101, 114]⟩, ⟨#[98, 121]⟩, ⟨#[102, 97, 108, 108, 105, 110, 103]⟩, ⟨#[108, 105, 109, 105, 116]⟩, ⟨#[110, 117, 108, 108]⟩, ⟨#[116, 114, 117, 101]⟩, ⟨#[102, 97, 108, 115, 101]⟩]
def resB (s : ByteArray) : Bool := resL.any fun x => decide (x = s)
end Go.Proofs.YtageokjobbjddaaGreatDoor

namespace Go.Proofs.YtageokjobbjddaaGreatDoor
open Go.RowKit

/-! How the document writes a name. -/
def plainB (s : ByteArray) : Bool := decide (s ≠ ⟨#[]⟩) && decide (wfrom true s.data.toList = s.size) && !resB s
def qescL (l : List UInt8) : List UInt8 := l.flatMap fun c => if c = 96 then [96, 96] else [c]
def nameL (s : ByteArray) : List UInt8 := if plainB s = true then s.data.toList else 96 :: (qescL s.data.toList ++ [96])
theorem qescL_take (t : List UInt8) (k : Nat) (h : k < t.length) : qescL (t.take (k + 1)) = qescL (t.take k) ++ (if t[k] = 96 then [96, 96] else [t[k]]) := by
  unfold qescL
  rw [List.take_succ_eq_append_getElem h, List.flatMap_append]
  congr 1
  simp
theorem qescL_len (l : List UInt8) : (qescL l).length ≤ 2 * l.length := by
  induction l with
  | nil => simp [qescL]
  | cons c l ih =>
    have : qescL (c :: l) = (if c = 96 then [96, 96] else [c]) ++ qescL l := rfl
    rw [this, List.length_append]
    have h : (if c = 96 then [96, 96] else [c] : List UInt8).length ≤ 2 := by split <;> simp
    simp only [List.length_cons]; omega
end Go.Proofs.YtageokjobbjddaaGreatDoor

namespace Go.Proofs.YtageokjobbjddaaGreatDoor
open Go.RowKit
attribute [local go_sem ↓] Go.wp_at_zero Go.wp_at_succ

/-! How the document writes a text. -/
def hexC (n : Nat) : UInt8 := if n < 10 then UInt8.ofNat (48 + n) else UInt8.ofNat (87 + n)
def quoB (b : UInt8) : List UInt8 := if b.toNat < 32 ∨ 126 < b.toNat then [92, 120, hexC (b.toNat / 16), hexC (b.toNat % 16)] else if b = 34 ∨ b = 92 then [92, b] else [b]
def quoL (l : List UInt8) : List UInt8 := l.flatMap quoB
def digB : ByteArray := ⟨#[48, 49, 50, 51, 52, 53, 54, 55, 56, 57, 97, 98, 99, 100, 101, 102]⟩
theorem dig_hex : ∀ n : Fin 16, digB[n.1]'n.2 = hexC n.1 := by decide
theorem quoL_take (t : List UInt8) (k : Nat) (h : k < t.length) : quoL (t.take (k + 1)) = quoL (t.take k) ++ quoB t[k] := by
  unfold quoL
  rw [List.take_succ_eq_append_getElem h, List.flatMap_append]
  congr 1
  simp
theorem quoB_len (b : UInt8) : (quoB b).length ≤ 4 := by
  unfold quoB
  split
  · simp
  · split <;> simp
theorem quoL_len (l : List UInt8) : (quoL l).length ≤ 4 * l.length := by
  induction l with
  | nil => simp [quoL]
  | cons c l ih =>
    have : quoL (c :: l) = quoB c ++ quoL l := rfl
    rw [this, List.length_append]
    have := quoB_len c
    simp only [List.length_cons]; omega
def quotedL (s : ByteArray) : List UInt8 := 34 :: (quoL s.data.toList ++ [34])
end Go.Proofs.YtageokjobbjddaaGreatDoor

namespace Go.Proofs.YtageokjobbjddaaGreatDoor
open Go.RowKit

/-! How the document writes an item. -/
def itoaB (n : Int) : ByteArray := ⟨(Lib.itoa n).toArray⟩
/-- strconv.Itoa does what it says, from this world on. -/
def ItoAt (w : World) : Prop := ∀ (W : World) (n : Int), Below w.heap.size w W → -9223372036854775808 ≤ n → n ≤ 9223372036854775807 → Calls Tryz.prog 85 #[.int .i64 n] W fun e w' => e = .returned (.string (itoaB n)) ∧ Below W.heap.size W w'
theorem ItoAt.keep {w w' : World} (h : ItoAt w) (hb : Below w.heap.size w w') : ItoAt w' := fun W n hW h1 h2 => h W n (Below.next hb hW) h1 h2
mutual
def itemL : It → List UInt8
  | .mk k n t l => if k = 2 then (if n = 1 then [116, 114, 117, 101] else [102, 97, 108, 115, 101]) else if k = 3 then Lib.itoa n else if k = 4 then quotedL t else if k = 5 then 91 :: (listL l ++ [93]) else [110, 117, 108, 108]
def listL : List It → List UInt8
  | [] => []
  | x :: l => itemL x ++ tailL l
def tailL : List It → List UInt8
  | [] => []
  | x :: l => 44 :: 32 :: (itemL x ++ tailL l)
end
theorem listL_snoc : ∀ (l : List It) (x : It), listL (l ++ [x]) = listL l ++ (if l = [] then [] else [44, 32]) ++ itemL x
  | [], x => by simp [listL, tailL]
  | y :: l, x => by
    have ht : ∀ (l : List It), tailL (l ++ [x]) = tailL l ++ ([44, 32] ++ itemL x) := by
      intro l
      induction l with
      | nil => simp [tailL]
      | cons z l ih => simp only [List.cons_append, tailL, ih]; simp
    simp only [List.cons_append, listL, ht]
    simp
end Go.Proofs.YtageokjobbjddaaGreatDoor

namespace Go.Proofs.YtageokjobbjddaaGreatDoor
open Go.RowKit

def sgn (a b : Int) : Int := if a < b then -1 else if b < a then 1 else 0
theorem sgn_lt {a b : Int} (h : a < b) : sgn a b = -1 := by unfold sgn; rw [if_pos h]
theorem sgn_gt {a b : Int} (h : b < a) : sgn a b = 1 := by unfold sgn; rw [if_neg (by omega), if_pos h]
theorem sgn_eq (a : Int) : sgn a a = 0 := by unfold sgn; rw [if_neg (by omega), if_neg (by omega)]
theorem sgn_congr {a b c d : Int} (h1 : a < b ↔ c < d) (h2 : b < a ↔ d < c) : sgn a b = sgn c d := by
  unfold sgn
  by_cases k : c < d
  · rw [if_pos k, if_pos (h1.2 k)]
  · rw [if_neg k, if_neg (fun e => k (h1.1 e))]
    by_cases k2 : d < c
    · rw [if_pos k2, if_pos (h2.2 k2)]
    · rw [if_neg k2, if_neg (fun e => k2 (h2.1 e))]
theorem sgn_zero {a b : Int} (h : sgn a b = 0) : a = b := by
  rcases Int.lt_trichotomy a b with k | k | k
  · rw [sgn_lt k] at h; cases h
  · exact k
  · rw [sgn_gt k] at h; cases h
/-- c counts, where it is not 0; else d. -/
def orElse0 (c d : Int) : Int := if c = 0 then d else c
abbrev cmpB := Lib.compareBytes
theorem cmpB_nil_cons (c : UInt8) (r : List UInt8) : cmpB [] (c :: r) = -1 := rfl
theorem cmpB_cons (a b : UInt8) (x y : List UInt8) : cmpB (a :: x) (b :: y) = if a < b then -1 else if b < a then 1 else cmpB x y := rfl
theorem cmpB_same (c : UInt8) (x y : List UInt8) : cmpB (c :: x) (c :: y) = cmpB x y := by
  rw [cmpB_cons, if_neg (UInt8.lt_irrefl c), if_neg (UInt8.lt_irrefl c)]
theorem cmpB_self (x : List UInt8) : cmpB x x = 0 := by
  induction x with
  | nil => rfl
  | cons c r ih => rw [cmpB_same, ih]
theorem cmpB_app (p x y : List UInt8) : cmpB (p ++ x) (p ++ y) = cmpB x y := by
  induction p with
  | nil => rfl
  | cons c r ih => rw [List.cons_append, List.cons_append, cmpB_same, ih]
theorem cmpB_zero : ∀ (x y : List UInt8), cmpB x y = 0 → x = y
  | [], [], _ => rfl
  | [], _ :: _, h => by simp [cmpB, Lib.compareBytes] at h
  | _ :: _, [], h => by simp [cmpB, Lib.compareBytes] at h
  | a :: x, b :: y, h => by
    rw [cmpB_cons] at h
    split at h
    · simp at h
    · split at h
      · simp at h
      · rename_i h1 h2
        have e : a = b := UInt8.le_antisymm (UInt8.not_lt.1 h2) (UInt8.not_lt.1 h1)
        rw [e, cmpB_zero x y h]

/-- Big-endian digits. -/
def beK (m : Nat) : Nat → List UInt8
  | 0 => []
  | k + 1 => byteAt m k :: beK m k
theorem be8_eq (m : Nat) : be8 m = beK m 8 := rfl
theorem byteAt_toNat (m i : Nat) : (byteAt m i).toNat = m / 2 ^ (8 * i) % 256 := by
  unfold byteAt
  rw [UInt8.toNat_ofNat', Nat.mod_eq_of_lt (Nat.mod_lt _ (by decide))]
theorem mod_split (m M : Nat) : m % (256 * M) = (m / M % 256) * M + m % M := by
  rw [Nat.mul_comm 256 M, Nat.mod_mul, Nat.add_comm, Nat.mul_comm]
theorem beK_cmp (m m' : Nat) (s t : List UInt8) (k : Nat) :
    cmpB (beK m k ++ s) (beK m' k ++ t) = orElse0 (sgn ((m % 2 ^ (8 * k) : Nat) : Int) ((m' % 2 ^ (8 * k) : Nat) : Int)) (cmpB s t) := by
  induction k with
  | zero => simp [beK, orElse0, sgn, Nat.mod_one]
  | succ k ih =>
    have e : 2 ^ (8 * (k + 1)) = 256 * 2 ^ (8 * k) := by rw [Nat.mul_add, Nat.pow_add, Nat.mul_comm]
    have hM : 0 < 2 ^ (8 * k) := Nat.two_pow_pos _
    have hr := Nat.mod_lt m hM
    have hr' := Nat.mod_lt m' hM
    simp only [beK, List.cons_append, cmpB_cons, ih, e, mod_split]
    have h1 : (byteAt m k < byteAt m' k) ↔ m / 2 ^ (8 * k) % 256 < m' / 2 ^ (8 * k) % 256 := by rw [UInt8.lt_iff_toNat_lt, byteAt_toNat, byteAt_toNat]
    have h2 : (byteAt m' k < byteAt m k) ↔ m' / 2 ^ (8 * k) % 256 < m / 2 ^ (8 * k) % 256 := by rw [UInt8.lt_iff_toNat_lt, byteAt_toNat, byteAt_toNat]
    generalize m / 2 ^ (8 * k) % 256 = d at *
    generalize m' / 2 ^ (8 * k) % 256 = d' at *
    generalize m % 2 ^ (8 * k) = r at *
    generalize m' % 2 ^ (8 * k) = r' at *
    generalize 2 ^ (8 * k) = M at *
    rcases Nat.lt_trichotomy d d' with h | h | h
    · rw [if_pos (h1.2 h)]
      have : d * M + r < d' * M + r' := by
        have : (d + 1) * M ≤ d' * M := Nat.mul_le_mul_right M h
        rw [Nat.add_mul] at this
        omega
      rw [sgn_lt (Int.ofNat_lt.2 this)]; rfl
    · subst h
      rw [if_neg (fun e => by have := h1.1 e; omega), if_neg (fun e => by have := h2.1 e; omega)]
      congr 1
      exact sgn_congr (by rw [Int.ofNat_lt, Int.ofNat_lt]; omega) (by rw [Int.ofNat_lt, Int.ofNat_lt]; omega)
    · rw [if_neg (fun e => by have := h1.1 e; omega), if_pos (h2.2 h)]
      have : d' * M + r' < d * M + r := by
        have : (d' + 1) * M ≤ d * M := Nat.mul_le_mul_right M h
        rw [Nat.add_mul] at this
        omega
      rw [sgn_gt (Int.ofNat_lt.2 this)]; rfl
theorem num8_cmp (n n' : Int) (h1 : -9223372036854775808 ≤ n) (h2 : n ≤ 9223372036854775807) (h3 : -9223372036854775808 ≤ n') (h4 : n' ≤ 9223372036854775807) (s t : List UInt8) :
    cmpB (num8 n ++ s) (num8 n' ++ t) = orElse0 (sgn n n') (cmpB s t) := by
  unfold num8
  rw [be8_eq, be8_eq, beK_cmp]
  have e1 : ((biased n % 2 ^ (8 * 8) : Nat) : Int) = n + 9223372036854775808 := by
    rw [Nat.mod_eq_of_lt (by have := biased_lt n h1 h2; show _ < 18446744073709551616; exact this)]
    unfold biased; omega
  have e2 : ((biased n' % 2 ^ (8 * 8) : Nat) : Int) = n' + 9223372036854775808 := by
    rw [Nat.mod_eq_of_lt (by have := biased_lt n' h3 h4; show _ < 18446744073709551616; exact this)]
    unfold biased; omega
  rw [e1, e2]
  congr 1
  exact sgn_congr (by omega) (by omega)

theorem escL_cons (c : UInt8) (r : List UInt8) : escL (c :: r) = (if c = 0 then [0, 255] else [c]) ++ escL r := by simp [escL]
theorem zero_lt_of_ne (c : UInt8) (h : c ≠ 0) : 0 < c := by
  rw [UInt8.lt_iff_toNat_lt]
  rcases Nat.eq_zero_or_pos c.toNat with e | e
  · exact absurd (UInt8.toNat_inj.1 (by rw [e]; rfl)) h
  · exact e
theorem encT_cmp : ∀ (x y s t : List UInt8), cmpB (encT x ++ s) (encT y ++ t) = orElse0 (cmpB x y) (cmpB s t)
  | [], [], s, t => by simp [encT, escL, cmpB_same, orElse0]; intro h; exact absurd rfl h
  | [], d :: r', s, t => by
    unfold encT
    rw [escL_cons]
    have e : orElse0 (cmpB [] (d :: r')) (cmpB s t) = -1 := rfl
    rw [e]
    by_cases hd : d = 0
    · subst hd; simp [escL, cmpB, Lib.compareBytes]
    · have hz := zero_lt_of_ne d hd
      simp [hd, escL, cmpB, Lib.compareBytes, hz]
  | c :: r, [], s, t => by
    unfold encT
    rw [escL_cons]
    have e : orElse0 (cmpB (c :: r) []) (cmpB s t) = 1 := rfl
    rw [e]
    by_cases hc : c = 0
    · subst hc; simp [escL, cmpB, Lib.compareBytes]
    · have hz := zero_lt_of_ne c hc
      have hz' : ¬ c < 0 := by rw [UInt8.not_lt]; exact UInt8.le_of_lt hz
      simp [hc, escL, cmpB, Lib.compareBytes, hz, hz']
  | c :: r, d :: r', s, t => by
    have ih := encT_cmp r r' s t
    unfold encT at ih ⊢
    rw [escL_cons, escL_cons]
    by_cases hcd : c = d
    · subst hcd
      rw [cmpB_same]
      simp only [List.append_assoc]
      rw [cmpB_app, ← List.append_assoc, ← List.append_assoc]
      exact ih
    · have hne : orElse0 (cmpB (c :: r) (d :: r')) (cmpB s t) = if c < d then -1 else 1 := by
        rw [cmpB_cons]
        by_cases h : c < d
        · simp [h, orElse0]
        · have : d < c := UInt8.lt_of_le_of_ne (UInt8.not_lt.1 h) (Ne.symm hcd)
          simp [h, this, orElse0]
      rw [hne]
      have first : ∀ (e : UInt8) (q : List UInt8), ∃ q', (if e = 0 then [(0 : UInt8), 255] else [e]) ++ q = e :: q' := fun e q => by
        by_cases h : e = 0
        · subst h; exact ⟨255 :: q, by simp⟩
        · exact ⟨q, by simp [h]⟩
      simp only [List.append_assoc]
      obtain ⟨q1, e1⟩ := first c (escL r ++ ([0, 0] ++ s))
      obtain ⟨q2, e2⟩ := first d (escL r' ++ ([0, 0] ++ t))
      rw [e1, e2, cmpB_cons]
      by_cases h : c < d
      · simp [h]
      · have : d < c := UInt8.lt_of_le_of_ne (UInt8.not_lt.1 h) (Ne.symm hcd)
        simp [h, this]

end Go.Proofs.YtageokjobbjddaaGreatDoor
