import Derived.Test.YtkdmocnjpajfkaaDoorDBeg
namespace Go.Proofs.YtkdmocnjpajfkaaDoor
open Go.RowKit

theorem lists_okc {a b : List Pr} (ha : KR a) (hb : KR b) (h1 : OkL a) (h2 : OkL b) : OkC (listsD a b) := by
  intro c hc
  obtain ⟨e1, e2⟩ := lists_mem ha hb hc
  have f : ∀ (l : List Pr), OkL l → ((lk l c.1).getD nilB).size ≤ 140737488355328 ∧ (lk l c.1 ≠ none → c.1.size ≤ 140737488355328) := by
    intro l hl
    cases h : lk l c.1 with
    | none => exact ⟨by decide, fun h => absurd rfl h⟩
    | some y => have := hl _ (lk_mem _ _ _ h); exact ⟨this.2, fun _ => this.1⟩
  have fa := f a h1
  have fb := f b h2
  refine ⟨?_, by rw [e1]; exact fa.1, by rw [e1]; exact fb.1⟩
  by_cases ha' : lk a c.1 = none
  · exact fb.2 (fun hb' => e2 (ha'.trans hb'.symm))
  · exact fa.2 ha'
/-- A state: it rises, its texts are a machine's, it is not too long. -/
structure Sd (a : List Pr) : Prop where
  kr : KR a
  ok : OkL a
  len : a.length ≤ 1048576
theorem Sd.st {l : List Pr} (h : OkL l) (hl : l.length ≤ 1048576) : Sd (stD l) := ⟨st_kr l, st_okl h, Nat.le_trans (st_len l) hl⟩
theorem Sd.lists {a b : List Pr} (ha : Sd a) (hb : Sd b) : (listsD a b).length ≤ 2097152 := Nat.le_trans (lists_len a b) (by have := ha.len; have := hb.len; omega)
theorem lists_st {a b : List Pr} (ha : Sd a) (hb : Sd b) (va vb : Value) (V : World) (hA : PrR V va a) (hB : PrR V vb b) (pO : Addr) (hO : V.cell? ⟨0, 0, none⟩ = some (.iface 105 (.pointer (some pO)))) :
    Calls Tryd.prog 11 #[va, vb] V fun e w' => ∃ x c, e = .returned (.tuple #[.slice x (listsD a b).length c, .nilIface]) ∧ ChR w' (.slice x (listsD a b).length c) (listsD a b) ∧ Below V.heap.size V w' := by
  refine (lists_any va vb a b V hA hB ha.ok hb.ok (by have := ha.len; have := hb.len; omega) pO hO).mono ?_
  rintro e w' ⟨hbl, ⟨h, _⟩ | ⟨_, v, rfl, hown⟩⟩
  · rw [(riseB_iff a).2 ha.kr, (riseB_iff b).2 hb.kr] at h; cases h
  · obtain ⟨x, c, rfl⟩ := hown.form
    exact ⟨x, c, rfl, hown.at, hbl⟩
theorem compose_st {a b c : List Pr} (ha : Sd a) (hb : Sd b) (hc : Sd c) (v1 v2 : Value) (V : World) (h1 : ChR V v1 (listsD a b)) (h2 : ChR V v2 (listsD b c)) (pO pL : Addr) (hO : V.cell? ⟨0, 0, none⟩ = some (.iface 105 (.pointer (some pO)))) (hL : V.cell? ⟨1, 0, none⟩ = some (.iface 105 (.pointer (some pL)))) :
    Calls Tryd.prog 12 #[v1, v2] V fun e w' => ∃ x k, e = .returned (.tuple #[.slice x (listsD a c).length k, .nilIface]) ∧ ChR w' (.slice x (listsD a c).length k) (listsD a c) ∧ Below V.heap.size V w' := by
  refine (compose_any v1 v2 (listsD a b) (listsD b c) V h1 h2 (lists_okc ha.kr hb.kr ha.ok hb.ok) (lists_okc hb.kr hc.kr hb.ok hc.ok) (by have := ha.lists hb; have := hb.lists hc; omega) pO pL hO hL).mono ?_
  rintro e w' ⟨hbl, ⟨h, _⟩ | ⟨_, h, _⟩ | ⟨_, v, l, h, rfl, hown⟩⟩
  · rw [(riseB_iff _).2 (lists_kr ha.kr hb.kr), (riseB_iff _).2 (lists_kr hb.kr hc.kr)] at h; cases h
  · rw [compose_lists ha.kr hb.kr hc.kr] at h; cases h
  · rw [compose_lists ha.kr hb.kr hc.kr] at h; cases h
    obtain ⟨x, k, rfl⟩ := hown.form
    exact ⟨x, k, rfl, hown.at, hbl⟩
theorem invert_st {a b : List Pr} (ha : Sd a) (hb : Sd b) (v : Value) (V : World) (h : ChR V v (listsD a b)) :
    Calls Tryd.prog 14 #[v] V fun e w' => ∃ x k, e = .returned (.slice x (listsD b a).length k) ∧ ChR w' (.slice x (listsD b a).length k) (listsD b a) ∧ Below V.heap.size V w' := by
  refine (invert_any v (listsD a b) V h (lists_okc ha.kr hb.kr ha.ok hb.ok) (by have := ha.lists hb; omega)).mono ?_
  rintro e w' ⟨v', rfl, hown, hbl⟩
  rw [inv_lists ha.kr hb.kr] at hown
  obtain ⟨x, k, rfl⟩ := hown.form
  exact ⟨x, k, rfl, hown.at, hbl⟩
theorem patch_st {a b : List Pr} (ha : Sd a) (hb : Sd b) (va v : Value) (V : World) (hA : PrR V va a) (h : ChR V v (listsD a b)) (pO pL : Addr) (hO : V.cell? ⟨0, 0, none⟩ = some (.iface 105 (.pointer (some pO)))) (hL : V.cell? ⟨1, 0, none⟩ = some (.iface 105 (.pointer (some pL)))) :
    Calls Tryd.prog 15 #[va, v] V fun e w' => ∃ x k, e = .returned (.tuple #[.slice x b.length k, .nilIface]) ∧ PrR w' (.slice x b.length k) b ∧ Below V.heap.size V w' := by
  refine (patch_any va v a (listsD a b) V hA h ha.ok (lists_okc ha.kr hb.kr ha.ok hb.ok) (by have := ha.lists hb; have := ha.len; omega) pO pL hO hL).mono ?_
  rintro e w' ⟨hbl, ⟨h, _⟩ | ⟨_, h, _⟩ | ⟨_, v, l, h, rfl, hown⟩⟩
  · rw [(riseB_iff _).2 ha.kr, (riseB_iff _).2 (lists_kr ha.kr hb.kr)] at h; cases h
  · rw [patch_lists ha.kr hb.kr] at h; cases h
  · rw [patch_lists ha.kr hb.kr] at h; cases h
    obtain ⟨x, k, rfl⟩ := hown.form
    exact ⟨x, k, rfl, hown.at, hbl⟩
theorem state_st {l : List Pr} (_h : OkL l) (hl : l.length ≤ 1048576) (v : Value) (V : World) (hR : PrR V v l) :
    Calls Tryd.prog 10 #[v] V fun e w' => ∃ x k, e = .returned (.slice x (stD l).length k) ∧ PrR w' (.slice x (stD l).length k) (stD l) ∧ Below V.heap.size V w' := by
  refine (state_any v l V (by omega) hR).mono ?_
  rintro e w' ⟨v', rfl, hown, hbl⟩
  obtain ⟨x, k, rfl⟩ := hown.form
  exact ⟨x, k, rfl, hown.at, hbl⟩
end Go.Proofs.YtkdmocnjpajfkaaDoor
