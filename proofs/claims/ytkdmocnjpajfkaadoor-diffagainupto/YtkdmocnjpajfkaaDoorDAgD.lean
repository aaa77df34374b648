import Derived.Test.YtkdmocnjpajfkaaDoorDLaw2
namespace Go.Proofs.YtkdmocnjpajfkaaDoor
open Go.RowKit

theorem patch_okl {a : List Pr} {l : List Ch} {m : List Pr} (ha : KR a) (hl : KR l) (h1 : OkL a) (h2 : OkC l) (h : patchD a l = some m) : OkL m := by
  intro p hp
  have h3 := lk_of_mem m p.1 p.2 (patch_kr ha hl h) hp
  rw [patch_lk ha hl h] at h3
  cases hc : lk l p.1 with
  | none =>
    rw [hc] at h3
    have h4 : lk a p.1 = some p.2 := by cases hx : lk a p.1 <;> rw [hx] at h3 <;> simp [both, madeV] at h3; rw [h3]
    exact h1 _ (lk_mem _ _ _ h4)
  | some c =>
    rw [hc] at h3
    have h5 := h2 _ (lk_mem _ _ _ hc)
    have h4 : (if c.has then some c.new else none) = some p.2 := by cases hx : lk a p.1 <;> rw [hx] at h3 <;> exact h3
    split at h4
    · have h6 : c.new = p.2 := Option.some.inj h4
      rw [← h6]
      exact ⟨h5.1, h5.2.2⟩
    · cases h4
theorem patch_len {a : List Pr} {l : List Ch} {m : List Pr} (h : patchD a l = some m) : m.length ≤ a.length + l.length := by
  unfold patchD at h
  split at h
  · cases h; exact Nat.le_trans (fm_len _ _) (side_len a l)
  · cases h
/-- The patch without what is idle. -/
def wantD (l : List Ch) : List Ch := fm (fun c => actV (normV c)) l
theorem fm_app {γ δ : Type} (f : γ → Option δ) (l m : KL γ) : fm f (l ++ m) = fm f l ++ fm f m := by unfold fm; rw [List.filterMap_append]
theorem want_take (l : List Ch) (q : Nat) (h : q < l.length) (k : ByteArray) (x : ChV) (hk : l[q] = (k, x)) : wantD (l.take (q + 1)) = wantD (l.take q) ++ actL k (normV x) := by
  unfold wantD
  rw [List.take_succ_eq_append_getElem h, hk, fm_app]
  congr 1
  have := fm_act normV k x []
  rw [this]
  simp [fm_nil]
theorem want_len (l : List Ch) : (wantD l).length ≤ l.length := fm_len _ _
/-- What Patch answers, told in one. -/
theorem patch_told {a : List Pr} {l : List Ch} (ha : Sd a) (h2 : OkC l) (hl : l.length ≤ 1048576) (va v : Value) (V : World) (hA : PrR V va a) (h : ChR V v l) (pO pL : Addr) (hO : V.cell? ⟨0, 0, none⟩ = some (.iface 105 (.pointer (some pO)))) (hL : V.cell? ⟨1, 0, none⟩ = some (.iface 105 (.pointer (some pL)))) :
    Calls Tryd.prog 15 #[va, v] V fun e w' => ∃ x n k ev, e = .returned (.tuple #[.slice x n k, ev]) ∧ ((n = 0 ∧ (ev = .iface 105 (.pointer (some pO)) ∨ ev = .iface 105 (.pointer (some pL)))) ∨ (ev = .nilIface ∧ KR l ∧ ∃ m, patchD a l = some m ∧ n = m.length ∧ PrR w' (.slice x n k) m)) ∧ Below V.heap.size V w' := by
  refine (patch_any va v a l V hA h ha.ok h2 (by have := ha.len; omega) pO pL hO hL).mono ?_
  rintro e w' ⟨hbl, ⟨h, rfl⟩ | ⟨_, h, rfl⟩ | ⟨hr, v, m, h, rfl, hown⟩⟩
  · exact ⟨_, _, _, _, rfl, .inl ⟨rfl, .inl rfl⟩, hbl⟩
  · exact ⟨_, _, _, _, rfl, .inl ⟨rfl, .inr rfl⟩, hbl⟩
  · obtain ⟨x, k, rfl⟩ := hown.form
    simp only [Bool.and_eq_true] at hr
    exact ⟨x, _, k, _, rfl, .inr ⟨rfl, (riseB_iff _).1 hr.2, m, h, rfl, hown.at⟩, hbl⟩
end Go.Proofs.YtkdmocnjpajfkaaDoor
