import Derived.Test.YtgljkgkophaefaaDoorOrd3
import Derived.Test.YtgljkgkophaefaaDoorBegins
import Derived.Test.YtgljkgkophaefaaDoorSeven
namespace Go.Proofs.YtgljkgkophaefaaDoor
open Go.RowKit

theorem beg_app : ∀ (s r : List UInt8), beg s (s ++ r) = true
  | [], _ => by simp [beg]
  | c :: s, r => by simp [beg, beg_app s r]
theorem beg_of : ∀ (s t : List UInt8), beg s t = true → ∃ r, t = s ++ r
  | [], t, _ => ⟨t, rfl⟩
  | _ :: _, [], h => by simp [beg] at h
  | a :: s, b :: t, h => by
    simp only [beg, Bool.and_eq_true, beq_iff_eq] at h
    obtain ⟨r, e⟩ := beg_of s t h.2
    exact ⟨r, by rw [h.1, e]; rfl⟩
theorem items_zero (r : Nat) (x y : It) (hx : oneF (faultR r) x = 0) (hy : oneF (faultR r) y = 0) (ox : x.Ok) (oy : y.Ok) (ix : x.kind = 5 → OkR r x.list) (iy : y.kind = 5 → OkR r y.list) :
    (∀ s t, cmpB (x.enc ++ s) (y.enc ++ t) = orElse0 (cmpOne (cmpR r) x y) (cmpB s t)) ∧ (cmpOne (cmpR r) x y = 0 → x = y) := by
  refine ⟨fun s t => item_cmp (faultR r) _ x y hx hy ox oy (fun hk hk' s t => ?_) s t, fun h => one_zero (oneF_zero hx).1 (oneF_zero hy).1 h (fun hk hk' h0 => cmpR_zero r ((oneF_zero hx).2 hk) ((oneF_zero hy).2 hk') h0)⟩
  have h := order_cmp r x.list y.list ((oneF_zero hx).2 hk) ((oneF_zero hy).2 hk') (ix hk) (iy hk') (0 :: s) (0 :: t) (.inr ⟨s, t, rfl, rfl⟩)
  rw [cmpB_same] at h
  exact h
theorem tidy_each {l : List It} (h : TidyT 4 l) : ∀ x ∈ l, oneF (faultR 3) x = 0 ∧ x.Ok ∧ (x.kind = 5 → OkR 3 x.list) := fun x hx =>
  ⟨oneF_none (h.2 x hx).fit fun hk => TidyT.fault 3 _ ((h.2 x hx).list hk), (h.2 x hx).ok, fun hk => TidyT.okR 3 _ ((h.2 x hx).list hk)⟩
theorem prefix_iff (a b : List It) (ha : TidyT 4 a) (hb : TidyT 4 b) : beg (encL a) (encL b) = true ↔ (a.length ≤ b.length ∧ a = b.take a.length) := by
  constructor
  · intro h
    obtain ⟨r, e⟩ := beg_of _ _ h
    have ea := tidy_each ha
    have eb := tidy_each hb
    -- the items of both, in one list of facts
    have key : ∀ (a' b' : List It) (r : List UInt8), (∀ x ∈ a', x ∈ a) → (∀ x ∈ b', x ∈ b) → encL b' = encL a' ++ r → a'.length ≤ b'.length ∧ b'.take a'.length = a' := by
      intro a'
      induction a' with
      | nil => intro b' r _ _ _; simp
      | cons x a' ih =>
        intro b' r hA hB h
        cases b' with
        | nil =>
          exfalso
          have := congrArg List.length h
          simp only [encL, List.length_append, List.length_nil] at this
          have h2 : 0 < x.enc.length := by rw [x.enc_eq]; simp
          omega
        | cons y b' =>
          obtain ⟨hx, ox, ix⟩ := ea x (hA x (by simp))
          obtain ⟨hy, oy, iy⟩ := eb y (hB y (by simp))
          obtain ⟨h1, h2⟩ := items_zero 3 x y hx hy ox oy ix iy
          simp only [encL, List.append_assoc] at h
          have hc := h1 (encL a' ++ r) (encL b')
          rw [← h, cmpB_self] at hc
          have c0 : cmpOne (cmpR 3) x y = 0 := by
            unfold orElse0 at hc
            split at hc
            · assumption
            · exact hc.symm
          have e := h2 c0
          subst e
          have h' : encL b' = encL a' ++ r := List.append_cancel_left h
          obtain ⟨i1, i2⟩ := ih b' r (fun z hz => hA z (by simp [hz])) (fun z hz => hB z (by simp [hz])) h'
          exact ⟨by simp; omega, by simp [i2]⟩
    obtain ⟨i1, i2⟩ := key a b r (fun _ h => h) (fun _ h => h) e
    exact ⟨i1, i2.symm⟩
  · rintro ⟨_, h⟩
    have e : encL b = encL a ++ encL (b.drop a.length) := by
      rw [← encL_append]
      congr 1
      conv => lhs; rw [← List.take_append_drop a.length b]
      rw [← h]
    rw [e]
    exact beg_app _ _
theorem tidy_both {a b : List It} (ha : TidyT 4 a) (hb : TidyT 4 b) : packF (a ++ b) = 0 := by
  have h1 : faultR 4 (a ++ b) = 0 := by
    simp only [faultR]
    rw [if_neg (by have := ha.1; have := hb.1; simp; omega)]
    exact firstF_none fun x hx => by
      rcases List.mem_append.1 hx with h | h
      · exact (tidy_each ha x h).1
      · exact (tidy_each hb x h).1
  have h2 := tidy_enc ha
  have h3 := tidy_enc hb
  unfold packF
  rw [if_pos h1, if_neg (by rw [encL_append, List.length_append]; omega)]
theorem less_cmp' : ∀ (x y : List UInt8), Op.bytesLess x y = decide (cmpB x y = -1)
  | [], [] => by simp [Op.bytesLess, cmpB, Lib.compareBytes]
  | [], _ :: _ => by simp [Op.bytesLess, cmpB, Lib.compareBytes]
  | _ :: _, [] => by simp [Op.bytesLess, cmpB, Lib.compareBytes]
  | a :: x, b :: y => by
    have ih := less_cmp' x y
    rw [cmpB_cons]
    simp only [Op.bytesLess, ih]
    by_cases h : a < b
    · simp [h]
    · by_cases h2 : b < a
      · have : (a == b) = false := by simp; intro e; rw [e] at h2; exact UInt8.lt_irrefl b h2
        simp [h, h2, this]
      · have : a = b := UInt8.le_antisymm (UInt8.not_lt.1 h2) (UInt8.not_lt.1 h)
        subst this
        simp [h]
theorem less_not {x y : List UInt8} (h : Op.bytesLess x y = true) : Op.bytesLess y x = false ∧ (y == x) = false := by
  rw [less_cmp'] at h
  have h1 : cmpB x y = -1 := of_decide_eq_true h
  refine ⟨?_, ?_⟩
  · rw [less_cmp', cmpB_neg x y, h1]; rfl
  · cases hh : (y == x)
    · rfl
    · have := eq_of_beq hh
      rw [this, cmpB_self] at h1
      cases h1
/-- A text of a list has nothing above it only where there is no item. -/
theorem no_up {l : List It} (h : ∀ x ∈ l, fits x = true) (hc : cutN ⟨(encL l).toArray⟩ = 0) : encL l = [] := by
  have hall := cut_none _ hc
  cases l with
  | nil => rfl
  | cons x r =>
    exfalso
    have k := fits_kind (h x (by simp))
    have h1 := hall (byteOf x.kind) (by simp only [encL, It.enc_eq]; simp)
    have h2 := byteOf_nat x.kind
    rw [h1, Int.emod_eq_of_lt (by omega) (by omega)] at h2
    have : ((255 : UInt8).toNat : Int) = 255 := rfl
    omega

end Go.Proofs.YtgljkgkophaefaaDoor
