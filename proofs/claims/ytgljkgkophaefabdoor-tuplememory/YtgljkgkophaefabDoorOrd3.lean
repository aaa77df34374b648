import Derived.Test.YtgljkgkophaefabDoorOrd2
namespace Go.Proofs.YtgljkgkophaefabDoor
open Go.RowKit

theorem cmpB_neg : ∀ (x y : List UInt8), cmpB y x = -cmpB x y
  | [], [] => rfl
  | [], _ :: _ => rfl
  | _ :: _, [] => rfl
  | a :: x, b :: y => by
    rw [cmpB_cons, cmpB_cons, cmpB_neg x y]
    by_cases h : a < b
    · have h2 : ¬ b < a := fun e => UInt8.lt_irrefl a (UInt8.lt_trans h e)
      rw [if_pos h, if_neg h2, if_pos h]; rfl
    · rw [if_neg h]
      by_cases h2 : b < a
      · rw [if_pos h2, if_pos h2, if_neg h]
      · rw [if_neg h2, if_neg h2, if_neg h]
theorem one_zero {recC : List It → List It → Int} {x y : It} (fx : fits x = true) (fy : fits y = true) (h : cmpOne recC x y = 0) (ih : x.kind = 5 → y.kind = 5 → recC x.list y.list = 0 → x.list = y.list) : x = y := by
  unfold cmpOne at h
  by_cases hk : x.kind = y.kind
  · rw [if_pos hk] at h
    rcases fits_cases fx with rfl | rfl | rfl | ⟨n, rfl⟩ | ⟨tx, rfl⟩ | ⟨lx, rfl⟩ <;> rcases fits_cases fy with rfl | rfl | rfl | ⟨n', rfl⟩ | ⟨ty, rfl⟩ | ⟨ly, rfl⟩ <;> simp only [It.kind] at hk <;> first | (exact absurd hk (by decide)) | rfl | skip
    · simp [It.kind, It.num, sgn] at h
    · simp [It.kind, It.num, sgn] at h
    · have := sgn_zero (by simpa [It.kind, It.num] using h)
      rw [this]
    · have := cmpB_zero _ _ (by simpa [It.kind, It.text] using h)
      have e : tx = ty := by cases tx; cases ty; congr 1; exact Array.toList_inj.1 this
      rw [e]
    · have := ih rfl rfl (by simpa [It.kind, It.list] using h)
      simp only [It.list] at this
      rw [this]
  · rw [if_neg hk] at h
    exact absurd (sgn_zero h) hk
theorem first_zero {f : It → It → Int} : ∀ {a b : List It}, cmpFirst f a b = 0 → (∀ x ∈ a, ∀ y ∈ b, f x y = 0 → x = y) → a = b
  | [], [], _, _ => rfl
  | [], y :: b, h, _ => by
    have := sgn_zero (a := (([] : List It).length : Int)) (b := ((y :: b).length : Int)) h
    simp at this
    omega
  | x :: a, [], h, _ => by
    have := sgn_zero (a := ((x :: a).length : Int)) (b := (([] : List It).length : Int)) h
    simp at this
    omega
  | x :: a, y :: b, h, e => by
    simp only [cmpFirst] at h
    split at h
    · rename_i h0
      rw [e x (by simp) y (by simp) h0, first_zero h (fun p hp q hq => e p (by simp [hp]) q (by simp [hq]))]
    · exact absurd h ‹_›
theorem fault_each' {l : List It} {rec : List It → Nat} (h : (if 16 < l.length then 3 else firstF (oneF rec) l) = 0) : ∀ x ∈ l, oneF rec x = 0 := by
  split at h
  · cases h
  · exact firstF_zero h
theorem cmpR_zero (r : Nat) : ∀ {a b : List It}, faultR r a = 0 → faultR r b = 0 → cmpR r a b = 0 → a = b := by
  induction r with
  | zero =>
    intro a b ha hb h
    refine first_zero h fun x hx y hy e => one_zero (oneF_zero (fault_each' ha x hx)).1 (oneF_zero (fault_each' hb y hy)).1 e (fun hk => ?_)
    have := (oneF_zero (fault_each' ha x hx)).2 hk
    cases this
  | succ r ih =>
    intro a b ha hb h
    exact first_zero h fun x hx y hy e => one_zero (oneF_zero (fault_each' ha x hx)).1 (oneF_zero (fault_each' hb y hy)).1 e (fun hk hk' h0 =>
      ih ((oneF_zero (fault_each' ha x hx)).2 hk) ((oneF_zero (fault_each' hb y hy)).2 hk') h0)
theorem enc_inj (a b : List It) (ha : faultR 4 a = 0) (hb : faultR 4 b = 0) (oa : OkR 4 a) (ob : OkR 4 b) : cmpB (encL a) (encL b) = 0 ↔ a = b := by
  constructor
  · intro h
    rw [order_texts a b ha hb oa ob] at h
    exact cmpR_zero 4 ha hb h
  · rintro rfl; exact cmpB_self _

end Go.Proofs.YtgljkgkophaefabDoor
