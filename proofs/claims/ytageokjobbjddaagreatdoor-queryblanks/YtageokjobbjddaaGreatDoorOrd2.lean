import Derived.Test.YtageokjobbjddaaGreatDoorGRE
namespace Go.Proofs.YtageokjobbjddaaGreatDoor
open Go.RowKit

def cmpFirst (f : It → It → Int) : List It → List It → Int
  | x :: a, y :: b => if f x y = 0 then cmpFirst f a b else f x y
  | a, b => sgn a.length b.length
def cmpOne (rec : List It → List It → Int) (x y : It) : Int :=
  if x.kind = y.kind then (if x.kind = 2 ∨ x.kind = 3 then sgn x.num y.num else if x.kind = 4 then cmpB x.text.data.toList y.text.data.toList else if x.kind = 5 then rec x.list y.list else 0) else sgn x.kind y.kind
/-- The order of lists within which r lists may lie in one another. -/
def cmpR : Nat → List It → List It → Int
  | 0 => cmpFirst (cmpOne fun _ _ => 0)
  | r + 1 => cmpFirst (cmpOne (cmpR r))
def OkR : Nat → List It → Prop
  | 0, l => ∀ x ∈ l, x.Ok
  | r + 1, l => ∀ x ∈ l, x.Ok ∧ OkR r x.list
theorem ItsAt.okR (r : Nat) : ∀ {w : World} {F : Nat → Prop} {v : Value} {l : List It}, ItsAt w F v l → OkR r l := by
  induction r with
  | zero =>
    intro w F v l h
    obtain ⟨a, g, off, cap, l, vs, hlen, ha, hok, h0, h1, h2, h3, hin⟩ := h
    intro x hx
    obtain ⟨i, hi, rfl⟩ := List.getElem_of_mem hx
    exact hok i hi
  | succ r ih =>
    intro w F v l h
    obtain ⟨a, g, off, cap, l, vs, hlen, ha, hok, h0, h1, h2, h3, hin⟩ := h
    intro x hx
    obtain ⟨i, hi, rfl⟩ := List.getElem_of_mem hx
    exact ⟨hok i hi, ih (hin i hi)⟩
theorem OkR.each {r : Nat} {l : List It} (h : OkR r l) : ∀ x ∈ l, x.Ok := by
  cases r with
  | zero => exact h
  | succ r => exact fun x hx => (h x hx).1
theorem firstF_zero {f : It → Nat} : ∀ {l : List It}, firstF f l = 0 → ∀ x ∈ l, f x = 0
  | [], _, x, hx => by simp at hx
  | y :: r, h, x, hx => by
    simp only [firstF] at h
    split at h
    · rename_i h0
      rcases List.mem_cons.1 hx with rfl | hx
      · exact h0
      · exact firstF_zero h x hx
    · exact absurd h ‹_›
theorem oneF_zero {rec : List It → Nat} {x : It} (h : oneF rec x = 0) : fits x = true ∧ (x.kind = 5 → rec x.list = 0) := by
  unfold oneF at h
  split at h
  · cases h
  · rename_i hf
    refine ⟨by simpa using hf, fun hk => ?_⟩
    rw [if_pos hk] at h
    exact h
theorem fits_kind {x : It} (h : fits x = true) : 1 ≤ x.kind ∧ x.kind ≤ 5 := by
  unfold fits fitB at h
  split at h
  · omega
  · split at h
    · omega
    · split at h
      · omega
      · split at h
        · omega
        · split at h
          · omega
          · cases h
theorem text_nil {t : ByteArray} (h : (t.toList == []) = true) : t = ⟨#[]⟩ := by
  rw [beq_iff_eq, ByteArray.toList_eq] at h
  cases t
  rename_i d
  congr 1
  exact Array.toList_inj.1 h
theorem len_nil {l : List It} (h : ((l.length : Int) == 0) = true) : l = [] := by
  rw [beq_iff_eq] at h
  exact List.length_eq_zero_iff.1 (by omega)
/-- What the fields are of an item that may be so. -/
theorem fits_cases {x : It} (h : fits x = true) :
    (x = .mk 1 0 ⟨#[]⟩ []) ∨ (x = .mk 2 0 ⟨#[]⟩ []) ∨ (x = .mk 2 1 ⟨#[]⟩ []) ∨ (∃ n, x = .mk 3 n ⟨#[]⟩ []) ∨ (∃ t, x = .mk 4 0 t []) ∨ (∃ l, x = .mk 5 0 ⟨#[]⟩ l) := by
  obtain ⟨k, n, t, l⟩ := x
  have h' : (if k = 1 then (n == 0) && (t.toList == []) && ((l.length : Int) == 0) else if k = 2 then (n == 0 || n == 1) && (t.toList == []) && ((l.length : Int) == 0) else if k = 3 then (t.toList == []) && ((l.length : Int) == 0) else if k = 4 then (n == 0) && ((l.length : Int) == 0) else if k = 5 then (n == 0) && (t.toList == []) else false) = true := h
  clear h
  by_cases k1 : k = 1
  · rw [if_pos k1] at h'
    simp only [Bool.and_eq_true] at h'
    obtain ⟨⟨h1, h2⟩, h3⟩ := h'
    rw [k1, text_nil h2, len_nil h3, eq_of_beq h1]
    exact .inl rfl
  · rw [if_neg k1] at h'
    by_cases k2 : k = 2
    · rw [if_pos k2] at h'
      simp only [Bool.and_eq_true, Bool.or_eq_true] at h'
      obtain ⟨⟨h1, h2⟩, h3⟩ := h'
      rw [k2, text_nil h2, len_nil h3]
      rcases h1 with h1 | h1
      · rw [eq_of_beq h1]; exact .inr (.inl rfl)
      · rw [eq_of_beq h1]; exact .inr (.inr (.inl rfl))
    · rw [if_neg k2] at h'
      by_cases k3 : k = 3
      · rw [if_pos k3] at h'
        simp only [Bool.and_eq_true] at h'
        rw [k3, text_nil h'.1, len_nil h'.2]
        exact .inr (.inr (.inr (.inl ⟨n, rfl⟩)))
      · rw [if_neg k3] at h'
        by_cases k4 : k = 4
        · rw [if_pos k4] at h'
          simp only [Bool.and_eq_true] at h'
          rw [k4, len_nil h'.2, eq_of_beq h'.1]
          exact .inr (.inr (.inr (.inr (.inl ⟨t, rfl⟩))))
        · rw [if_neg k4] at h'
          by_cases k5 : k = 5
          · rw [if_pos k5] at h'
            simp only [Bool.and_eq_true] at h'
            rw [k5, text_nil h'.2, eq_of_beq h'.1]
            exact .inr (.inr (.inr (.inr (.inr ⟨l, rfl⟩))))
          · rw [if_neg k5] at h'
            cases h'

theorem byteOf_lt {k k' : Int} (h1 : 0 ≤ k) (h2 : k < 256) (h3 : 0 ≤ k') (h4 : k' < 256) : byteOf k < byteOf k' ↔ k < k' := by
  rw [UInt8.lt_iff_toNat_lt]
  have e1 := byteOf_nat k
  have e2 := byteOf_nat k'
  rw [Int.emod_eq_of_lt h1 h2] at e1
  rw [Int.emod_eq_of_lt h3 h4] at e2
  omega
theorem orElse0_neg (d : Int) : orElse0 (-1) d = -1 := rfl
theorem orElse0_pos (d : Int) : orElse0 1 d = 1 := rfl
theorem orElse0_zero (d : Int) : orElse0 0 d = d := rfl

/-- Two texts part just where the items do. -/
theorem item_cmp (rec : List It → Nat) (recC : List It → List It → Int) (x y : It) (hx : oneF rec x = 0) (hy : oneF rec y = 0) (ox : x.Ok) (oy : y.Ok)
    (ih : x.kind = 5 → y.kind = 5 → ∀ s t, cmpB (encL x.list ++ 0 :: s) (encL y.list ++ 0 :: t) = orElse0 (recC x.list y.list) (cmpB s t)) (s t : List UInt8) :
    cmpB (x.enc ++ s) (y.enc ++ t) = orElse0 (cmpOne recC x y) (cmpB s t) := by
  obtain ⟨fx, _⟩ := oneF_zero hx
  obtain ⟨fy, _⟩ := oneF_zero hy
  have kx := fits_kind fx
  have ky := fits_kind fy
  by_cases hk : x.kind = y.kind
  · unfold cmpOne
    rw [if_pos hk]
    rcases fits_cases fx with rfl | rfl | rfl | ⟨n, rfl⟩ | ⟨tx, rfl⟩ | ⟨lx, rfl⟩ <;> rcases fits_cases fy with rfl | rfl | rfl | ⟨n', rfl⟩ | ⟨ty, rfl⟩ | ⟨ly, rfl⟩ <;> simp only [It.kind] at hk <;> first | (exact absurd hk (by decide)) | skip
    · simp [It.enc_eq, It.kind, bodyOf, cmpB_same, orElse0]
    · simp [It.enc_eq, It.kind, It.num, bodyOf, cmpB_same, orElse0, sgn]
    · simp [It.enc_eq, It.kind, It.num, bodyOf, cmpB_same, orElse0, sgn]; rfl
    · simp [It.enc_eq, It.kind, It.num, bodyOf, cmpB_same, orElse0, sgn]; rfl
    · simp [It.enc_eq, It.kind, It.num, bodyOf, cmpB_same, orElse0, sgn]
    · have e := num8_cmp n n' ox.n1 ox.n2 oy.n1 oy.n2 s t
      simp only [It.enc_eq, It.kind, It.num, It.text, It.list, bodyOf, List.cons_append, cmpB_same]
      simpa using e
    · have e := encT_cmp tx.data.toList ty.data.toList s t
      simp only [It.enc_eq, It.kind, It.num, It.text, It.list, bodyOf, List.cons_append, cmpB_same]
      simpa using e
    · have e := ih rfl rfl s t
      simp only [It.list] at e
      simp only [It.enc_eq, It.kind, It.num, It.text, It.list, bodyOf, List.cons_append, cmpB_same]
      simpa using e
  · unfold cmpOne
    rw [if_neg hk, It.enc_eq, It.enc_eq, List.cons_append, List.cons_append, cmpB_cons]
    rcases Int.lt_trichotomy x.kind y.kind with h | h | h
    · rw [if_pos ((byteOf_lt (by omega) (by omega) (by omega) (by omega)).2 h), sgn_lt h]; rfl
    · exact absurd h hk
    · rw [if_neg (fun e => by have := (byteOf_lt (by omega) (by omega) (by omega) (by omega)).1 e; omega), if_pos ((byteOf_lt (by omega) (by omega) (by omega) (by omega)).2 h), sgn_gt h]; rfl

theorem enc_head (x : It) (h : fits x = true) : ∃ c q, x.enc = c :: q ∧ (0 : UInt8) < c := by
  have k := fits_kind h
  refine ⟨_, _, x.enc_eq, ?_⟩
  have := (byteOf_lt (k := 0) (k' := x.kind) (by omega) (by omega) (by omega) (by omega)).2 (by omega)
  exact this
/-- Both end, or both go on with 00. -/
def Ends (s t : List UInt8) : Prop := (s = [] ∧ t = []) ∨ ∃ s' t', s = 0 :: s' ∧ t = 0 :: t'
theorem list_cmp (f : It → Nat) (c : It → It → Int) (s t : List UInt8) (he : Ends s t) : ∀ (a b : List It), (∀ x ∈ a, fits x = true) → (∀ x ∈ b, fits x = true) →
    (∀ x ∈ a, ∀ y ∈ b, ∀ s t, cmpB (x.enc ++ s) (y.enc ++ t) = orElse0 (c x y) (cmpB s t)) → cmpB (encL a ++ s) (encL b ++ t) = orElse0 (cmpFirst c a b) (cmpB s t)
  | [], [], _, _, _ => by simp [encL, cmpFirst, sgn_eq, orElse0]
  | [], y :: b, _, hb, _ => by
    obtain ⟨c', q, e, hc⟩ := enc_head y (hb y (by simp))
    have hs : sgn (([] : List It).length : Int) ((y :: b).length : Int) = -1 := sgn_lt (by simp)
    simp only [cmpFirst, hs, orElse0_neg, encL, e, List.nil_append, List.cons_append]
    rcases he with ⟨rfl, rfl⟩ | ⟨s', t', rfl, rfl⟩
    · rfl
    · rw [cmpB_cons, if_pos hc]
  | x :: a, [], ha, _, _ => by
    obtain ⟨c', q, e, hc⟩ := enc_head x (ha x (by simp))
    have hs : sgn ((x :: a).length : Int) (([] : List It).length : Int) = 1 := sgn_gt (by simp)
    simp only [cmpFirst, hs, orElse0_pos, encL, e, List.nil_append, List.cons_append]
    rcases he with ⟨rfl, rfl⟩ | ⟨s', t', rfl, rfl⟩
    · rfl
    · rw [cmpB_cons, if_neg (by rw [UInt8.not_lt]; exact UInt8.le_of_lt hc), if_pos hc]
  | x :: a, y :: b, ha, hb, h => by
    simp only [encL, List.append_assoc]
    rw [h x (by simp) y (by simp), list_cmp f c s t he a b (fun z hz => ha z (by simp [hz])) (fun z hz => hb z (by simp [hz])) (fun p hp q hq => h p (by simp [hp]) q (by simp [hq]))]
    simp only [cmpFirst]
    by_cases h0 : c x y = 0
    · rw [h0, if_pos rfl, orElse0_zero]
    · rw [if_neg h0]; unfold orElse0; rw [if_neg h0, if_neg h0]
/-- THE ORDER: two lists that may be stand as their texts do. -/
theorem order_cmp (r : Nat) : ∀ (a b : List It), faultR r a = 0 → faultR r b = 0 → OkR r a → OkR r b → ∀ s t, Ends s t → cmpB (encL a ++ s) (encL b ++ t) = orElse0 (cmpR r a b) (cmpB s t) := by
  have len : ∀ {r : Nat} {l : List It} {n : Nat}, (if 16 < l.length then 3 else n) = 0 → n = 0 := by
    intro r l n h
    split at h
    · cases h
    · exact h
  induction r with
  | zero =>
    intro a b ha hb oa ob s t he
    have fa := firstF_zero (len (r := 0) ha)
    have fb := firstF_zero (len (r := 0) hb)
    refine list_cmp (oneF fun _ => 3) _ s t he a b (fun x hx => (oneF_zero (fa x hx)).1) (fun x hx => (oneF_zero (fb x hx)).1) ?_
    intro x hx y hy s t
    exact item_cmp (fun _ => 3) _ x y (fa x hx) (fb y hy) (oa x hx) (ob y hy) (fun hk => by have := (oneF_zero (fa x hx)).2 hk; cases this) s t
  | succ r ih =>
    intro a b ha hb oa ob s t he
    have fa := firstF_zero (len (r := 0) ha)
    have fb := firstF_zero (len (r := 0) hb)
    refine list_cmp (oneF (faultR r)) _ s t he a b (fun x hx => (oneF_zero (fa x hx)).1) (fun x hx => (oneF_zero (fb x hx)).1) ?_
    intro x hx y hy s t
    exact item_cmp (faultR r) _ x y (fa x hx) (fb y hy) (oa x hx).1 (ob y hy).1 (fun hk hk' s t => by
      have h := ih x.list y.list ((oneF_zero (fa x hx)).2 hk) ((oneF_zero (fb y hy)).2 hk') (oa x hx).2 (ob y hy).2 (0 :: s) (0 :: t) (.inr ⟨s, t, rfl, rfl⟩)
      rw [cmpB_same] at h
      exact h) s t
theorem order_texts (a b : List It) (ha : faultR 4 a = 0) (hb : faultR 4 b = 0) (oa : OkR 4 a) (ob : OkR 4 b) : cmpB (encL a) (encL b) = cmpR 4 a b := by
  have h := order_cmp 4 a b ha hb oa ob [] [] (.inl ⟨rfl, rfl⟩)
  simp only [List.append_nil] at h
  rw [h]
  unfold orElse0
  split
  · rename_i h0; rw [h0]; rfl
  · rfl

end Go.Proofs.YtageokjobbjddaaGreatDoor
