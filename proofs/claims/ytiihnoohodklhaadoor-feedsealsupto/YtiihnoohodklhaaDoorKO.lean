import Derived.Test.YtiihnoohodklhaaDoorSR
import Derived.Test.YtiihnoohodklhaaDoorPS
import Derived.Deep.RegionHeld3
import Derived.Test.YtiihnoohodklhaaDoorRT
namespace Go.Proofs.YtiihnoohodklhaaDoor
open Go.RowKit
attribute [local go_sem ↓] Go.wp_at_zero Go.wp_at_succ

theorem PrR.take' {w : World} {a : Option Addr} {n m cap : Nat} {l : List Pr} (h : PrR w (.slice a n cap) l) (hm : m ≤ n) : PrR w (.slice a m cap) (l.take m) := by
  obtain ⟨a', cap', he, hle, hn, hc⟩ := h
  cases he
  refine ⟨a, cap, by rw [List.length_take, Nat.min_eq_left hm], by rw [List.length_take]; omega, hn, fun j hj => ?_⟩
  rw [List.length_take] at hj
  obtain ⟨g, o, ha, h1⟩ := hc j (by omega)
  exact ⟨g, o, ha, by rw [List.getElem_take]; exact h1⟩
end Go.Proofs.YtiihnoohodklhaaDoor

namespace Go.Proofs.YtiihnoohodklhaaDoor
open Go.RowKit
attribute [local go_sem ↓] Go.wp_at_zero Go.wp_at_succ

def zP (p : Pr) : Pr := (p.1, p.2 ++ ⟨#[122]⟩)
/-- The list when every second pair ahead of q is another one. -/
def othA (l : List Pr) (q : Nat) : List Pr := l.mapIdx fun j p => if j % 2 = 0 ∧ j < q then zP p else p
theorem othA_len (l : List Pr) (q : Nat) : (othA l q).length = l.length := by simp [othA]
theorem othA_zero (l : List Pr) : othA l 0 = l := by
  refine List.ext_getElem (othA_len l 0) (fun j h1 h2 => ?_)
  simp [othA]
theorem othA_get (l : List Pr) (q : Nat) (h : q < l.length) : (othA l q)[q]'(by rw [othA_len]; exact h) = l[q] := by simp [othA]
theorem othA_set (l r : List Pr) (q : Nat) (he : q % 2 = 0) (h : q < l.length) : (othA l q ++ r).set q (zP l[q]) = othA l (q + 2) ++ r := by
  rw [List.set_append_left _ _ (by rw [othA_len]; exact h)]
  congr 1
  refine List.ext_getElem (by simp [othA]) (fun j h1 h2 => ?_)
  rw [List.getElem_set]
  by_cases hj : q = j
  · subst hj
    simp [othA, he]
  · simp only [othA, List.getElem_mapIdx, hj, if_false]
    by_cases h3 : j % 2 = 0
    · have : (j < q) ↔ (j < q + 2) := by omega
      simp [h3, this]
    · simp [h3]
theorem othA_end (l : List Pr) (q : Nat) (h : l.length ≤ q) : othA l q = othA l l.length := by
  refine List.ext_getElem (by simp [othA]) (fun j h1 h2 => ?_)
  have hj : j < l.length := by simpa [othA] using h1
  have h4 : j < q := by omega
  simp [othA, hj, h4]
theorem prs_set2 (y : ByteArray) : ∀ (l : List Pr) (k : Nat) (h : k < l.length), (prs l).set (k * 2 + 1) (.string y) = prs (l.set k (l[k].1, y))
  | [], k, h => by simp at h
  | q :: l, 0, _ => by
    rw [List.set_cons_zero, prs_cons, prs_cons]
    rfl
  | q :: l, k + 1, h => by
    rw [List.set_cons_succ, prs_cons, prs_cons, List.getElem_cons_succ, ← prs_set2 y l k (by simpa using h), show (k + 1) * 2 + 1 = (k * 2 + 1) + 1 + 1 by omega]
    simp only [List.set_cons_succ]
end Go.Proofs.YtiihnoohodklhaaDoor

namespace Go.Proofs.YtiihnoohodklhaaDoor
open Go.RowKit
attribute [local go_sem ↓] Go.wp_at_zero Go.wp_at_succ

abbrev bhC : Ch := (behindB, ⟨false, true, ⟨#[]⟩, behindB⟩)
end Go.Proofs.YtiihnoohodklhaaDoor

namespace Go.Proofs.YtiihnoohodklhaaDoor
open Go.RowKit
attribute [local go_sem ↓] Go.wp_at_zero Go.wp_at_succ

def zC (c : Ch) : Ch := (c.1, if c.2.has then ⟨c.2.had, c.2.has, c.2.old, c.2.new ++ ⟨#[122]⟩⟩ else c.2)
/-- The list when every second pair ahead of q is another one. -/
def othC (l : List Ch) (q : Nat) : List Ch := l.mapIdx fun j p => if j % 2 = 0 ∧ j < q then zC p else p
theorem othC_len (l : List Ch) (q : Nat) : (othC l q).length = l.length := by simp [othC]
theorem othC_zero (l : List Ch) : othC l 0 = l := by
  refine List.ext_getElem (othC_len l 0) (fun j h1 h2 => ?_)
  simp [othC]
theorem othC_get (l : List Ch) (q : Nat) (h : q < l.length) : (othC l q)[q]'(by rw [othC_len]; exact h) = l[q] := by simp [othC]
theorem othC_set (l r : List Ch) (q : Nat) (he : q % 2 = 0) (h : q < l.length) : (othC l q ++ r).set q (zC l[q]) = othC l (q + 2) ++ r := by
  rw [List.set_append_left _ _ (by rw [othC_len]; exact h)]
  congr 1
  refine List.ext_getElem (by simp [othC]) (fun j h1 h2 => ?_)
  rw [List.getElem_set]
  by_cases hj : q = j
  · subst hj
    simp [othC, he]
  · simp only [othC, List.getElem_mapIdx, hj, if_false]
    by_cases h3 : j % 2 = 0
    · have : (j < q) ↔ (j < q + 2) := by omega
      simp [h3, this]
    · simp [h3]
theorem othC_end (l : List Ch) (q : Nat) (h : l.length ≤ q) : othC l q = othC l l.length := by
  refine List.ext_getElem (by simp [othC]) (fun j h1 h2 => ?_)
  have hj : j < l.length := by simpa [othC] using h1
  have h4 : j < q := by omega
  simp [othC, hj, h4]
theorem chs_set4 (y : ByteArray) : ∀ (l : List Ch) (k : Nat) (h : k < l.length), (chs l).set (k * 5 + 4) (.string y) = chs (l.set k (l[k].1, ⟨l[k].2.had, l[k].2.has, l[k].2.old, y⟩))
  | [], k, h => by simp at h
  | q :: l, 0, _ => by
    rw [List.set_cons_zero, chs_cons, chs_cons]
    rfl
  | q :: l, k + 1, h => by
    rw [List.set_cons_succ, chs_cons, chs_cons, List.getElem_cons_succ, ← chs_set4 y l k (by simpa using h), show (k + 1) * 5 + 4 = (k * 5 + 4) + 1 + 1 + 1 + 1 + 1 by omega]
    simp only [chC, List.cons_append, List.nil_append, List.set_cons_succ]
theorem ChO.wrote4 {w : World} {base g n cap : Nat} {l : List Ch} (h : ChO w base (.slice (some ⟨g, 0, none⟩) n cap) l) (k : Nat) (hk : k < l.length) (y : ByteArray) :
    ChO (w.setCell ⟨g, k * 5 + 4, none⟩ (.string y)) base (.slice (some ⟨g, 0, none⟩) n cap) (l.set k (l[k].1, ⟨l[k].2.had, l[k].2.has, l[k].2.old, y⟩)) := by
  obtain ⟨a', c', he⟩ := h.form
  obtain rfl : n = l.length := by simp only [Value.slice.injEq] at he; exact he.2.1
  unfold ChO at h
  have := (World.ownsRow.stored h (k * 5 + 4) (.string y)).1
  rw [chs_set4 y l k hk] at this
  unfold ChO; rw [List.length_set]; exact this
theorem othC_skip (l r : List Ch) (q : Nat) (he : q % 2 = 0) (h : q < l.length) (hh : l[q].2.has = false) : othC l q ++ r = othC l (q + 2) ++ r := by
  rw [← othC_set l r q he h]
  have e : zC l[q] = (othC l q ++ r)[q]'(by rw [List.length_append, othC_len]; omega) := by
    rw [List.getElem_append_left (by rw [othC_len]; exact h), othC_get l q h]
    show (_, if l[q].2.has = true then _ else _) = _
    rw [hh]; rfl
  rw [e, List.set_getElem_self]
end Go.Proofs.YtiihnoohodklhaaDoor
