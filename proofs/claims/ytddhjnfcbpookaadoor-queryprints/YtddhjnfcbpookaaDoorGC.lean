import Derived.Test.YtddhjnfcbpookaaDoorEnc
import Derived.Test.YtddhjnfcbpookaaDoorFault
import Derived.Lib.Bytealg
namespace Go.Proofs.YtddhjnfcbpookaaDoor
open Go.RowKit

def sgn (a b : Int) : Int := if a < b then -1 else if b < a then 1 else 0
theorem sgn_lt {a b : Int} (h : a < b) : sgn a b = -1 := by unfold sgn; rw [if_pos h]
theorem sgn_gt {a b : Int} (h : b < a) : sgn a b = 1 := by unfold sgn; rw [if_neg (by omega), if_pos h]
theorem sgn_eq (a : Int) : sgn a a = 0 := by unfold sgn; rw [if_neg (by omega), if_neg (by omega)]
theorem sgn_congr {a b c d : Int} (h1 : a < b ↔ c < d) (h2 : b < a ↔ d < c) : sgn a b = sgn c d := by
  unfold sgn
  by_cases k : c < d
  · rw [if_pos k, if_pos (h1.2 k)]
  · rw [if_neg k, if_neg (fun e => k (h1.1 e))]
    by_cases k2 : d < c
    · rw [if_pos k2, if_pos (h2.2 k2)]
    · rw [if_neg k2, if_neg (fun e => k2 (h2.1 e))]
theorem sgn_zero {a b : Int} (h : sgn a b = 0) : a = b := by
  rcases Int.lt_trichotomy a b with k | k | k
  · rw [sgn_lt k] at h; cases h
  · exact k
  · rw [sgn_gt k] at h; cases h
/-- c counts, where it is not 0; else d. -/
def orElse0 (c d : Int) : Int := if c = 0 then d else c
abbrev cmpB := Lib.compareBytes
theorem cmpB_nil_cons (c : UInt8) (r : List UInt8) : cmpB [] (c :: r) = -1 := rfl
theorem cmpB_cons (a b : UInt8) (x y : List UInt8) : cmpB (a :: x) (b :: y) = if a < b then -1 else if b < a then 1 else cmpB x y := rfl
theorem cmpB_same (c : UInt8) (x y : List UInt8) : cmpB (c :: x) (c :: y) = cmpB x y := by
  rw [cmpB_cons, if_neg (UInt8.lt_irrefl c), if_neg (UInt8.lt_irrefl c)]
theorem cmpB_self (x : List UInt8) : cmpB x x = 0 := by
  induction x with
  | nil => rfl
  | cons c r ih => rw [cmpB_same, ih]
theorem cmpB_app (p x y : List UInt8) : cmpB (p ++ x) (p ++ y) = cmpB x y := by
  induction p with
  | nil => rfl
  | cons c r ih => rw [List.cons_append, List.cons_append, cmpB_same, ih]
theorem cmpB_zero : ∀ (x y : List UInt8), cmpB x y = 0 → x = y
  | [], [], _ => rfl
  | [], _ :: _, h => by simp [cmpB, Lib.compareBytes] at h
  | _ :: _, [], h => by simp [cmpB, Lib.compareBytes] at h
  | a :: x, b :: y, h => by
    rw [cmpB_cons] at h
    split at h
    · simp at h
    · split at h
      · simp at h
      · rename_i h1 h2
        have e : a = b := UInt8.le_antisymm (UInt8.not_lt.1 h2) (UInt8.not_lt.1 h1)
        rw [e, cmpB_zero x y h]

/-- Big-endian digits. -/
def beK (m : Nat) : Nat → List UInt8
  | 0 => []
  | k + 1 => byteAt m k :: beK m k
theorem be8_eq (m : Nat) : be8 m = beK m 8 := rfl
theorem byteAt_toNat (m i : Nat) : (byteAt m i).toNat = m / 2 ^ (8 * i) % 256 := by
  unfold byteAt
  rw [UInt8.toNat_ofNat', Nat.mod_eq_of_lt (Nat.mod_lt _ (by decide))]
theorem mod_split (m M : Nat) : m % (256 * M) = (m / M % 256) * M + m % M := by
  rw [Nat.mul_comm 256 M, Nat.mod_mul, Nat.add_comm, Nat.mul_comm]
theorem beK_cmp (m m' : Nat) (s t : List UInt8) (k : Nat) :
    cmpB (beK m k ++ s) (beK m' k ++ t) = orElse0 (sgn ((m % 2 ^ (8 * k) : Nat) : Int) ((m' % 2 ^ (8 * k) : Nat) : Int)) (cmpB s t) := by
  induction k with
  | zero => simp [beK, orElse0, sgn, Nat.mod_one]
  | succ k ih =>
    have e : 2 ^ (8 * (k + 1)) = 256 * 2 ^ (8 * k) := by rw [Nat.mul_add, Nat.pow_add, Nat.mul_comm]
    have hM : 0 < 2 ^ (8 * k) := Nat.two_pow_pos _
    have hr := Nat.mod_lt m hM
    have hr' := Nat.mod_lt m' hM
    simp only [beK, List.cons_append, cmpB_cons, ih, e, mod_split]
    have h1 : (byteAt m k < byteAt m' k) ↔ m / 2 ^ (8 * k) % 256 < m' / 2 ^ (8 * k) % 256 := by rw [UInt8.lt_iff_toNat_lt, byteAt_toNat, byteAt_toNat]
    have h2 : (byteAt m' k < byteAt m k) ↔ m' / 2 ^ (8 * k) % 256 < m / 2 ^ (8 * k) % 256 := by rw [UInt8.lt_iff_toNat_lt, byteAt_toNat, byteAt_toNat]
    generalize m / 2 ^ (8 * k) % 256 = d at *
    generalize m' / 2 ^ (8 * k) % 256 = d' at *
    generalize m % 2 ^ (8 * k) = r at *
    generalize m' % 2 ^ (8 * k) = r' at *
    generalize 2 ^ (8 * k) = M at *
    rcases Nat.lt_trichotomy d d' with h | h | h
    · rw [if_pos (h1.2 h)]
      have : d * M + r < d' * M + r' := by
        have : (d + 1) * M ≤ d' * M := Nat.mul_le_mul_right M h
        rw [Nat.add_mul] at this
        omega
      rw [sgn_lt (Int.ofNat_lt.2 this)]; rfl
    · subst h
      rw [if_neg (fun e => by have := h1.1 e; omega), if_neg (fun e => by have := h2.1 e; omega)]
      congr 1
      exact sgn_congr (by rw [Int.ofNat_lt, Int.ofNat_lt]; omega) (by rw [Int.ofNat_lt, Int.ofNat_lt]; omega)
    · rw [if_neg (fun e => by have := h1.1 e; omega), if_pos (h2.2 h)]
      have : d' * M + r' < d * M + r := by
        have : (d' + 1) * M ≤ d * M := Nat.mul_le_mul_right M h
        rw [Nat.add_mul] at this
        omega
      rw [sgn_gt (Int.ofNat_lt.2 this)]; rfl
theorem num8_cmp (n n' : Int) (h1 : -9223372036854775808 ≤ n) (h2 : n ≤ 9223372036854775807) (h3 : -9223372036854775808 ≤ n') (h4 : n' ≤ 9223372036854775807) (s t : List UInt8) :
    cmpB (num8 n ++ s) (num8 n' ++ t) = orElse0 (sgn n n') (cmpB s t) := by
  unfold num8
  rw [be8_eq, be8_eq, beK_cmp]
  have e1 : ((biased n % 2 ^ (8 * 8) : Nat) : Int) = n + 9223372036854775808 := by
    rw [Nat.mod_eq_of_lt (by have := biased_lt n h1 h2; show _ < 18446744073709551616; exact this)]
    unfold biased; omega
  have e2 : ((biased n' % 2 ^ (8 * 8) : Nat) : Int) = n' + 9223372036854775808 := by
    rw [Nat.mod_eq_of_lt (by have := biased_lt n' h3 h4; show _ < 18446744073709551616; exact this)]
    unfold biased; omega
  rw [e1, e2]
  congr 1
  exact sgn_congr (by omega) (by omega)

theorem escL_cons (c : UInt8) (r : List UInt8) : escL (c :: r) = (if c = 0 then [0, 255] else [c]) ++ escL r := by simp [escL]
theorem zero_lt_of_ne (c : UInt8) (h : c ≠ 0) : 0 < c := by
  rw [UInt8.lt_iff_toNat_lt]
  rcases Nat.eq_zero_or_pos c.toNat with e | e
  · exact absurd (UInt8.toNat_inj.1 (by rw [e]; rfl)) h
  · exact e
theorem encT_cmp : ∀ (x y s t : List UInt8), cmpB (encT x ++ s) (encT y ++ t) = orElse0 (cmpB x y) (cmpB s t)
  | [], [], s, t => by simp [encT, escL, cmpB_same, orElse0]; intro h; exact absurd rfl h
  | [], d :: r', s, t => by
    unfold encT
    rw [escL_cons]
    have e : orElse0 (cmpB [] (d :: r')) (cmpB s t) = -1 := rfl
    rw [e]
    by_cases hd : d = 0
    · subst hd; simp [escL, cmpB, Lib.compareBytes]
    · have hz := zero_lt_of_ne d hd
      simp [hd, escL, cmpB, Lib.compareBytes, hz]
  | c :: r, [], s, t => by
    unfold encT
    rw [escL_cons]
    have e : orElse0 (cmpB (c :: r) []) (cmpB s t) = 1 := rfl
    rw [e]
    by_cases hc : c = 0
    · subst hc; simp [escL, cmpB, Lib.compareBytes]
    · have hz := zero_lt_of_ne c hc
      have hz' : ¬ c < 0 := by rw [UInt8.not_lt]; exact UInt8.le_of_lt hz
      simp [hc, escL, cmpB, Lib.compareBytes, hz, hz']
  | c :: r, d :: r', s, t => by
    have ih := encT_cmp r r' s t
    unfold encT at ih ⊢
    rw [escL_cons, escL_cons]
    by_cases hcd : c = d
    · subst hcd
      rw [cmpB_same]
      simp only [List.append_assoc]
      rw [cmpB_app, ← List.append_assoc, ← List.append_assoc]
      exact ih
    · have hne : orElse0 (cmpB (c :: r) (d :: r')) (cmpB s t) = if c < d then -1 else 1 := by
        rw [cmpB_cons]
        by_cases h : c < d
        · simp [h, orElse0]
        · have : d < c := UInt8.lt_of_le_of_ne (UInt8.not_lt.1 h) (Ne.symm hcd)
          simp [h, this, orElse0]
      rw [hne]
      have first : ∀ (e : UInt8) (q : List UInt8), ∃ q', (if e = 0 then [(0 : UInt8), 255] else [e]) ++ q = e :: q' := fun e q => by
        by_cases h : e = 0
        · subst h; exact ⟨255 :: q, by simp⟩
        · exact ⟨q, by simp [h]⟩
      simp only [List.append_assoc]
      obtain ⟨q1, e1⟩ := first c (escL r ++ ([0, 0] ++ s))
      obtain ⟨q2, e2⟩ := first d (escL r' ++ ([0, 0] ++ t))
      rw [e1, e2, cmpB_cons]
      by_cases h : c < d
      · simp [h]
      · have : d < c := UInt8.lt_of_le_of_ne (UInt8.not_lt.1 h) (Ne.symm hcd)
        simp [h, this]

end Go.Proofs.YtddhjnfcbpookaaDoor

namespace Go.Proofs.YtddhjnfcbpookaaDoor
open Go.RowKit

def cmpFirst (f : It → It → Int) : List It → List It → Int
  | x :: a, y :: b => if f x y = 0 then cmpFirst f a b else f x y
  | a, b => sgn a.length b.length
def cmpOne (rec : List It → List It → Int) (x y : It) : Int :=
  if x.kind = y.kind then (if x.kind = 2 ∨ x.kind = 3 then sgn x.num y.num else if x.kind = 4 then cmpB x.text.data.toList y.text.data.toList else if x.kind = 5 then rec x.list y.list else 0) else sgn x.kind y.kind
/-- The order of lists within which r lists may lie in one another. -/
def cmpR : Nat → List It → List It → Int
  | 0 => cmpFirst (cmpOne fun _ _ => 0)
  | r + 1 => cmpFirst (cmpOne (cmpR r))
def OkR : Nat → List It → Prop
  | 0, l => ∀ x ∈ l, x.Ok
  | r + 1, l => ∀ x ∈ l, x.Ok ∧ OkR r x.list
theorem ItsAt.okR (r : Nat) : ∀ {w : World} {F : Nat → Prop} {v : Value} {l : List It}, ItsAt w F v l → OkR r l := by
  induction r with
  | zero =>
    intro w F v l h
    obtain ⟨a, g, off, cap, l, vs, hlen, ha, hok, h0, h1, h2, h3, hin⟩ := h
    intro x hx
    obtain ⟨i, hi, rfl⟩ := List.getElem_of_mem hx
    exact hok i hi
  | succ r ih =>
    intro w F v l h
    obtain ⟨a, g, off, cap, l, vs, hlen, ha, hok, h0, h1, h2, h3, hin⟩ := h
    intro x hx
    obtain ⟨i, hi, rfl⟩ := List.getElem_of_mem hx
    exact ⟨hok i hi, ih (hin i hi)⟩
theorem OkR.each {r : Nat} {l : List It} (h : OkR r l) : ∀ x ∈ l, x.Ok := by
  cases r with
  | zero => exact h
  | succ r => exact fun x hx => (h x hx).1
theorem firstF_zero {f : It → Nat} : ∀ {l : List It}, firstF f l = 0 → ∀ x ∈ l, f x = 0
  | [], _, x, hx => by simp at hx
  | y :: r, h, x, hx => by
    simp only [firstF] at h
    split at h
    · rename_i h0
      rcases List.mem_cons.1 hx with rfl | hx
      · exact h0
      · exact firstF_zero h x hx
    · exact absurd h ‹_›
theorem oneF_zero {rec : List It → Nat} {x : It} (h : oneF rec x = 0) : fits x = true ∧ (x.kind = 5 → rec x.list = 0) := by
  unfold oneF at h
  split at h
  · cases h
  · rename_i hf
    refine ⟨by simpa using hf, fun hk => ?_⟩
    rw [if_pos hk] at h
    exact h
theorem fits_kind {x : It} (h : fits x = true) : 1 ≤ x.kind ∧ x.kind ≤ 5 := by
  unfold fits fitB at h
  split at h
  · omega
  · split at h
    · omega
    · split at h
      · omega
      · split at h
        · omega
        · split at h
          · omega
          · cases h
theorem text_nil {t : ByteArray} (h : (t.toList == []) = true) : t = ⟨#[]⟩ := by
  rw [beq_iff_eq, ByteArray.toList_eq] at h
  cases t
  rename_i d
  congr 1
  exact Array.toList_inj.1 h
theorem len_nil {l : List It} (h : ((l.length : Int) == 0) = true) : l = [] := by
  rw [beq_iff_eq] at h
  exact List.length_eq_zero_iff.1 (by omega)
/-- What the fields are of an item that may be so. -/
theorem fits_cases {x : It} (h : fits x = true) :
    (x = .mk 1 0 ⟨#[]⟩ []) ∨ (x = .mk 2 0 ⟨#[]⟩ []) ∨ (x = .mk 2 1 ⟨#[]⟩ []) ∨ (∃ n, x = .mk 3 n ⟨#[]⟩ []) ∨ (∃ t, x = .mk 4 0 t []) ∨ (∃ l, x = .mk 5 0 ⟨#[]⟩ l) := by
  obtain ⟨k, n, t, l⟩ := x
  have h' : (if k = 1 then (n == 0) && (t.toList == []) && ((l.length : Int) == 0) else if k = 2 then (n == 0 || n == 1) && (t.toList == []) && ((l.length : Int) == 0) else if k = 3 then (t.toList == []) && ((l.length : Int) == 0) else if k = 4 then (n == 0) && ((l.length : Int) == 0) else if k = 5 then (n == 0) && (t.toList == []) else false) = true := h
  clear h
  by_cases k1 : k = 1
  · rw [if_pos k1] at h'
    simp only [Bool.and_eq_true] at h'
    obtain ⟨⟨h1, h2⟩, h3⟩ := h'
    rw [k1, text_nil h2, len_nil h3, eq_of_beq h1]
    exact .inl rfl
  · rw [if_neg k1] at h'
    by_cases k2 : k = 2
    · rw [if_pos k2] at h'
      simp only [Bool.and_eq_true, Bool.or_eq_true] at h'
      obtain ⟨⟨h1, h2⟩, h3⟩ := h'
      rw [k2, text_nil h2, len_nil h3]
      rcases h1 with h1 | h1
      · rw [eq_of_beq h1]; exact .inr (.inl rfl)
      · rw [eq_of_beq h1]; exact .inr (.inr (.inl rfl))
    · rw [if_neg k2] at h'
      by_cases k3 : k = 3
      · rw [if_pos k3] at h'
        simp only [Bool.and_eq_true] at h'
        rw [k3, text_nil h'.1, len_nil h'.2]
        exact .inr (.inr (.inr (.inl ⟨n, rfl⟩)))
      · rw [if_neg k3] at h'
        by_cases k4 : k = 4
        · rw [if_pos k4] at h'
          simp only [Bool.and_eq_true] at h'
          rw [k4, len_nil h'.2, eq_of_beq h'.1]
          exact .inr (.inr (.inr (.inr (.inl ⟨t, rfl⟩))))
        · rw [if_neg k4] at h'
          by_cases k5 : k = 5
          · rw [if_pos k5] at h'
            simp only [Bool.and_eq_true] at h'
            rw [k5, text_nil h'.2, eq_of_beq h'.1]
            exact .inr (.inr (.inr (.inr (.inr ⟨l, rfl⟩))))
          · rw [if_neg k5] at h'
            cases h'

theorem byteOf_lt {k k' : Int} (h1 : 0 ≤ k) (h2 : k < 256) (h3 : 0 ≤ k') (h4 : k' < 256) : byteOf k < byteOf k' ↔ k < k' := by
  rw [UInt8.lt_iff_toNat_lt]
  have e1 := byteOf_nat k
  have e2 := byteOf_nat k'
  rw [Int.emod_eq_of_lt h1 h2] at e1
  rw [Int.emod_eq_of_lt h3 h4] at e2
  omega
theorem orElse0_neg (d : Int) : orElse0 (-1) d = -1 := rfl
theorem orElse0_pos (d : Int) : orElse0 1 d = 1 := rfl
theorem orElse0_zero (d : Int) : orElse0 0 d = d := rfl

/-- Two texts part just where the items do. -/
theorem item_cmp (rec : List It → Nat) (recC : List It → List It → Int) (x y : It) (hx : oneF rec x = 0) (hy : oneF rec y = 0) (ox : x.Ok) (oy : y.Ok)
    (ih : x.kind = 5 → y.kind = 5 → ∀ s t, cmpB (encL x.list ++ 0 :: s) (encL y.list ++ 0 :: t) = orElse0 (recC x.list y.list) (cmpB s t)) (s t : List UInt8) :
    cmpB (x.enc ++ s) (y.enc ++ t) = orElse0 (cmpOne recC x y) (cmpB s t) := by
  obtain ⟨fx, _⟩ := oneF_zero hx
  obtain ⟨fy, _⟩ := oneF_zero hy
  have kx := fits_kind fx
  have ky := fits_kind fy
  by_cases hk : x.kind = y.kind
  · unfold cmpOne
    rw [if_pos hk]
    rcases fits_cases fx with rfl | rfl | rfl | ⟨n, rfl⟩ | ⟨tx, rfl⟩ | ⟨lx, rfl⟩ <;> rcases fits_cases fy with rfl | rfl | rfl | ⟨n', rfl⟩ | ⟨ty, rfl⟩ | ⟨ly, rfl⟩ <;> simp only [It.kind] at hk <;> first | (exact absurd hk (by decide)) | skip
    · simp [It.enc_eq, It.kind, bodyOf, cmpB_same, orElse0]
    · simp [It.enc_eq, It.kind, It.num, bodyOf, cmpB_same, orElse0, sgn]
    · simp [It.enc_eq, It.kind, It.num, bodyOf, cmpB_same, orElse0, sgn]; rfl
    · simp [It.enc_eq, It.kind, It.num, bodyOf, cmpB_same, orElse0, sgn]; rfl
    · simp [It.enc_eq, It.kind, It.num, bodyOf, cmpB_same, orElse0, sgn]
    · have e := num8_cmp n n' ox.n1 ox.n2 oy.n1 oy.n2 s t
      simp only [It.enc_eq, It.kind, It.num, It.text, It.list, bodyOf, List.cons_append, cmpB_same]
      simpa using e
    · have e := encT_cmp tx.data.toList ty.data.toList s t
      simp only [It.enc_eq, It.kind, It.num, It.text, It.list, bodyOf, List.cons_append, cmpB_same]
      simpa using e
    · have e := ih rfl rfl s t
      simp only [It.list] at e
      simp only [It.enc_eq, It.kind, It.num, It.text, It.list, bodyOf, List.cons_append, cmpB_same]
      simpa using e
  · unfold cmpOne
    rw [if_neg hk, It.enc_eq, It.enc_eq, List.cons_append, List.cons_append, cmpB_cons]
    rcases Int.lt_trichotomy x.kind y.kind with h | h | h
    · rw [if_pos ((byteOf_lt (by omega) (by omega) (by omega) (by omega)).2 h), sgn_lt h]; rfl
    · exact absurd h hk
    · rw [if_neg (fun e => by have := (byteOf_lt (by omega) (by omega) (by omega) (by omega)).1 e; omega), if_pos ((byteOf_lt (by omega) (by omega) (by omega) (by omega)).2 h), sgn_gt h]; rfl

theorem enc_head (x : It) (h : fits x = true) : ∃ c q, x.enc = c :: q ∧ (0 : UInt8) < c := by
  have k := fits_kind h
  refine ⟨_, _, x.enc_eq, ?_⟩
  have := (byteOf_lt (k := 0) (k' := x.kind) (by omega) (by omega) (by omega) (by omega)).2 (by omega)
  exact this
/-- Both end, or both go on with 00. -/
def Ends (s t : List UInt8) : Prop := (s = [] ∧ t = []) ∨ ∃ s' t', s = 0 :: s' ∧ t = 0 :: t'
theorem list_cmp (f : It → Nat) (c : It → It → Int) (s t : List UInt8) (he : Ends s t) : ∀ (a b : List It), (∀ x ∈ a, fits x = true) → (∀ x ∈ b, fits x = true) →
    (∀ x ∈ a, ∀ y ∈ b, ∀ s t, cmpB (x.enc ++ s) (y.enc ++ t) = orElse0 (c x y) (cmpB s t)) → cmpB (encL a ++ s) (encL b ++ t) = orElse0 (cmpFirst c a b) (cmpB s t)
  | [], [], _, _, _ => by simp [encL, cmpFirst, sgn_eq, orElse0]
  | [], y :: b, _, hb, _ => by
    obtain ⟨c', q, e, hc⟩ := enc_head y (hb y (by simp))
    have hs : sgn (([] : List It).length : Int) ((y :: b).length : Int) = -1 := sgn_lt (by simp)
    simp only [cmpFirst, hs, orElse0_neg, encL, e, List.nil_append, List.cons_append]
    rcases he with ⟨rfl, rfl⟩ | ⟨s', t', rfl, rfl⟩
    · rfl
    · rw [cmpB_cons, if_pos hc]
  | x :: a, [], ha, _, _ => by
    obtain ⟨c', q, e, hc⟩ := enc_head x (ha x (by simp))
    have hs : sgn ((x :: a).length : Int) (([] : List It).length : Int) = 1 := sgn_gt (by simp)
    simp only [cmpFirst, hs, orElse0_pos, encL, e, List.nil_append, List.cons_append]
    rcases he with ⟨rfl, rfl⟩ | ⟨s', t', rfl, rfl⟩
    · rfl
    · rw [cmpB_cons, if_neg (by rw [UInt8.not_lt]; exact UInt8.le_of_lt hc), if_pos hc]
  | x :: a, y :: b, ha, hb, h => by
    simp only [encL, List.append_assoc]
    rw [h x (by simp) y (by simp), list_cmp f c s t he a b (fun z hz => ha z (by simp [hz])) (fun z hz => hb z (by simp [hz])) (fun p hp q hq => h p (by simp [hp]) q (by simp [hq]))]
    simp only [cmpFirst]
    by_cases h0 : c x y = 0
    · rw [h0, if_pos rfl, orElse0_zero]
    · rw [if_neg h0]; unfold orElse0; rw [if_neg h0, if_neg h0]
/-- THE ORDER: two lists that may be stand as their texts do. -/
theorem order_cmp (r : Nat) : ∀ (a b : List It), faultR r a = 0 → faultR r b = 0 → OkR r a → OkR r b → ∀ s t, Ends s t → cmpB (encL a ++ s) (encL b ++ t) = orElse0 (cmpR r a b) (cmpB s t) := by
  have len : ∀ {r : Nat} {l : List It} {n : Nat}, (if 16 < l.length then 3 else n) = 0 → n = 0 := by
    intro r l n h
    split at h
    · cases h
    · exact h
  induction r with
  | zero =>
    intro a b ha hb oa ob s t he
    have fa := firstF_zero (len (r := 0) ha)
    have fb := firstF_zero (len (r := 0) hb)
    refine list_cmp (oneF fun _ => 3) _ s t he a b (fun x hx => (oneF_zero (fa x hx)).1) (fun x hx => (oneF_zero (fb x hx)).1) ?_
    intro x hx y hy s t
    exact item_cmp (fun _ => 3) _ x y (fa x hx) (fb y hy) (oa x hx) (ob y hy) (fun hk => by have := (oneF_zero (fa x hx)).2 hk; cases this) s t
  | succ r ih =>
    intro a b ha hb oa ob s t he
    have fa := firstF_zero (len (r := 0) ha)
    have fb := firstF_zero (len (r := 0) hb)
    refine list_cmp (oneF (faultR r)) _ s t he a b (fun x hx => (oneF_zero (fa x hx)).1) (fun x hx => (oneF_zero (fb x hx)).1) ?_
    intro x hx y hy s t
    exact item_cmp (faultR r) _ x y (fa x hx) (fb y hy) (oa x hx).1 (ob y hy).1 (fun hk hk' s t => by
      have h := ih x.list y.list ((oneF_zero (fa x hx)).2 hk) ((oneF_zero (fb y hy)).2 hk') (oa x hx).2 (ob y hy).2 (0 :: s) (0 :: t) (.inr ⟨s, t, rfl, rfl⟩)
      rw [cmpB_same] at h
      exact h) s t
theorem order_texts (a b : List It) (ha : faultR 4 a = 0) (hb : faultR 4 b = 0) (oa : OkR 4 a) (ob : OkR 4 b) : cmpB (encL a) (encL b) = cmpR 4 a b := by
  have h := order_cmp 4 a b ha hb oa ob [] [] (.inl ⟨rfl, rfl⟩)
  simp only [List.append_nil] at h
  rw [h]
  unfold orElse0
  split
  · rename_i h0; rw [h0]; rfl
  · rfl

end Go.Proofs.YtddhjnfcbpookaaDoor
