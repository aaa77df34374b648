import Derived.Test.YtgljkgkophaefabDoorAnew
import Derived.Test.YtgljkgkophaefabDoorUnpT
namespace Go.Proofs.YtgljkgkophaefabDoor
open Go.RowKit

theorem cellsOf'_app : ∀ (l : List It) (us : List Value) (m : List It) (vs : List Value), us.length = l.length → cellsOf' (l ++ m) (us ++ vs) = cellsOf' l us ++ cellsOf' m vs
  | [], [], _, _, _ => rfl
  | [], _ :: _, _, _, h => by simp at h
  | _ :: _, [], _, _, h => by simp at h
  | y :: r, v :: us, m, vs, h => by
    simp only [cellsOf', List.cons_append, cellsOf'_app r us m vs (by simpa using h)]
theorem push_two {w4 w5 : World} {base H : Nat} {v : Value} {l : List It} {us : List Value} {m : List It} {vs : List Value} {g cap n : Nat} (hus : us.length = l.length) (hvs : vs.length = m.length) (hok : ∀ i (h : i < l.length), l[i].Ok) (hokm : ∀ i (h : i < m.length), m[i].Ok)
    (hin : ∀ i (h : i < l.length) (h' : i < us.length), ItsAt w4 (fun g => base ≤ g ∧ some g ≠ v.ownBlock ∧ g < w4.heap.size) us[i] l[i].list)
    (hinm : ∀ i (h : i < m.length) (h' : i < vs.length), ItsAt w4 (fun g => base ≤ g ∧ some g ≠ v.ownBlock ∧ g < w4.heap.size) vs[i] m[i].list)
    (hn : n = l.length + m.length) (hown : w5.ownsRow base 43 4 (.slice (some ⟨g, 0, none⟩) n cap) n (cellsOf' l us ++ cellsOf' m vs))
    (hgrow : w4.grownBy w5 v.ownBlock) (hat : v.ownBlock = some g ∨ g = H) (hH : w4.heap.size = H) : ItsOwn w5 base (.slice (some ⟨g, 0, none⟩) n cap) (l ++ m) := by
  subst hn
  have hbut : But w4 w5 v.ownBlock := ⟨hgrow.size, hgrow.block⟩
  have lift : ∀ (u' : Value) (l' : List It), ItsAt w4 (fun g => base ≤ g ∧ some g ≠ v.ownBlock ∧ g < w4.heap.size) u' l' → ItsAt w5 (fun k => base ≤ k ∧ some k ≠ (Value.slice (some ⟨g, 0, none⟩) (l.length + m.length) cap).ownBlock ∧ k < w5.heap.size) u' l' := fun u' l' h =>
    (h.but hbut (fun g hg => hg.2.1)).imp fun k hk => ⟨hk.1, by
      simp only [Value.ownBlock]
      rcases hat with e | e
      · rw [← e]; exact hk.2.1
      · intro e'; have := Option.some.inj e'; have := hk.2.2; omega, Nat.lt_of_lt_of_le hk.2.2 hgrow.size⟩
  refine ⟨us ++ vs, by simp [hus, hvs], ?_, ?_, ?_⟩
  · rw [cellsOf'_app l us m vs hus, List.length_append]
    exact hown
  · intro i h
    rcases Nat.lt_or_ge i l.length with h1 | h1
    · rw [List.getElem_append_left h1]; exact hok i h1
    · rw [List.getElem_append_right h1]; exact hokm _ _
  · intro i h h'
    rcases Nat.lt_or_ge i l.length with h1 | h1
    · rw [List.getElem_append_left h1, List.getElem_append_left (by omega)]
      exact lift _ _ (hin i h1 (by omega))
    · rw [List.getElem_append_right h1, List.getElem_append_right (by omega)]
      simp only [hus]
      exact lift _ _ (hinm _ _ _)

def nullI : It := .mk 1 0 ⟨#[]⟩ []
def nullC : Array Value := #[.int .i64 1, .int .i64 0, .string ⟨#[]⟩, .slice none 0 0]
def twoC (u : Value) : Array Value := #[.int .i64 1, .int .i64 0, .string ⟨#[]⟩, .slice none 0 0, .int .i64 5, .int .i64 0, .string ⟨#[]⟩, u]
def bothC (u u' : Value) : Array Value := #[.int .i64 5, .int .i64 0, .string ⟨#[]⟩, u, .int .i64 5, .int .i64 0, .string ⟨#[]⟩, u']
theorem its_null {w : World} {F : Nat → Prop} {g : Nat} (h : w.heap[g]? = some (.cells nullC 43 (0, 0))) (hF : F g) : ItsAt w F (.slice (some ⟨g, 0, none⟩) 1 1) [nullI] := by
  have cl : ∀ i, w.cell? ⟨g, i, none⟩ = nullC[i]? := fun i => cell_of_row w g i nullC 43 (0, 0) h
  refine .mk _ g 0 1 [nullI] (fun _ => .slice none 0 0) (by simp) (fun _ => ⟨rfl, hF⟩) (fun i hi => ?_) (fun i hi => ?_) (fun i hi => ?_) (fun i hi => ?_) (fun i hi => ?_) (fun i hi => ?_) <;>
    (obtain rfl : i = 0 := by simpa using hi)
  · exact itNull_ok
  · exact cl 0
  · exact cl 1
  · exact cl 2
  · exact cl 3
  · exact its_nil _ _ _ _
theorem its_two {w : World} {F : Nat → Prop} {g : Nat} {u : Value} {l : List It} (h : w.heap[g]? = some (.cells (twoC u) 43 (0, 0))) (hF : F g) (hu : ItsAt w F u l) : ItsAt w F (.slice (some ⟨g, 0, none⟩) 2 2) [nullI, .mk 5 0 ⟨#[]⟩ l] := by
  have cl : ∀ i, w.cell? ⟨g, i, none⟩ = (twoC u)[i]? := fun i => cell_of_row w g i (twoC u) 43 (0, 0) h
  refine .mk _ g 0 2 [nullI, .mk 5 0 ⟨#[]⟩ l] (fun i => if i = 0 then .slice none 0 0 else u) (by simp) (fun _ => ⟨rfl, hF⟩) (fun i hi => ?_) (fun i hi => ?_) (fun i hi => ?_) (fun i hi => ?_) (fun i hi => ?_) (fun i hi => ?_) <;>
    (have hi2 : i = 0 ∨ i = 1 := by (simp at hi; omega)) <;> rcases hi2 with rfl | rfl
  · exact itNull_ok
  · exact itList_ok _
  · exact cl 0
  · exact cl 4
  · exact cl 1
  · exact cl 5
  · exact cl 2
  · exact cl 6
  · exact cl 3
  · exact cl 7
  · exact its_nil _ _ _ _
  · exact hu
/-- The world with the literals of the head. -/
def litW (w : World) (H : Nat) : World := (((w.alloc (.cells nullC 43)).alloc (.cells (twoC (.slice (some ⟨H, 0, none⟩) 1 1)) 43)).alloc (.cells nullC 43)).alloc (.cells (bothC (.slice (some ⟨H + 1, 0, none⟩) 2 2) (.slice (some ⟨H + 1 + 1, 0, none⟩) 1 1)) 43)
theorem litW_facts (w : World) (F : Nat → Prop) (hF : ∀ g, w.heap.size ≤ g → g < w.heap.size + 4 → F g) : Below w.heap.size w (litW w w.heap.size) ∧ (litW w w.heap.size).heap.size = w.heap.size + 4 ∧
    (litW w w.heap.size).heap[w.heap.size + 1 + 1 + 1]? = some (.cells (bothC (.slice (some ⟨w.heap.size + 1, 0, none⟩) 2 2) (.slice (some ⟨w.heap.size + 1 + 1, 0, none⟩) 1 1)) 43 (0, 0)) ∧
    ItsAt (litW w w.heap.size) F (.slice (some ⟨w.heap.size + 1, 0, none⟩) 2 2) itA.list ∧ ItsAt (litW w w.heap.size) F (.slice (some ⟨w.heap.size + 1 + 1, 0, none⟩) 1 1) itB.list := by
  have b1 := below_new w (.cells nullC 43)
  have b2 := below_new (w.alloc (.cells nullC 43)) (.cells (twoC (.slice (some ⟨w.heap.size, 0, none⟩) 1 1)) 43)
  have b3 := below_new ((w.alloc (.cells nullC 43)).alloc (.cells (twoC (.slice (some ⟨w.heap.size, 0, none⟩) 1 1)) 43)) (.cells nullC 43)
  have b4 := below_new (((w.alloc (.cells nullC 43)).alloc (.cells (twoC (.slice (some ⟨w.heap.size, 0, none⟩) 1 1)) 43)).alloc (.cells nullC 43)) (.cells (bothC (.slice (some ⟨w.heap.size + 1, 0, none⟩) 2 2) (.slice (some ⟨w.heap.size + 1 + 1, 0, none⟩) 1 1)) 43)
  have n1 := heap_alloc_new w (.cells nullC 43)
  have n2 := heap_alloc_new (w.alloc (.cells nullC 43)) (.cells (twoC (.slice (some ⟨w.heap.size, 0, none⟩) 1 1)) 43)
  have n3 := heap_alloc_new ((w.alloc (.cells nullC 43)).alloc (.cells (twoC (.slice (some ⟨w.heap.size, 0, none⟩) 1 1)) 43)) (.cells nullC 43)
  have n4 := heap_alloc_new (((w.alloc (.cells nullC 43)).alloc (.cells (twoC (.slice (some ⟨w.heap.size, 0, none⟩) 1 1)) 43)).alloc (.cells nullC 43)) (.cells (bothC (.slice (some ⟨w.heap.size + 1, 0, none⟩) 2 2) (.slice (some ⟨w.heap.size + 1 + 1, 0, none⟩) 1 1)) 43)
  simp only [World.size_alloc] at b2 b3 b4 n2 n3 n4
  have h1 : (litW w w.heap.size).heap[w.heap.size]? = some (.cells nullC 43 (0, 0)) := by
    unfold litW
    rw [b4.block _ (by omega), b3.block _ (by omega), b2.block _ (by omega)]; exact n1
  have h2 : (litW w w.heap.size).heap[w.heap.size + 1]? = some (.cells (twoC (.slice (some ⟨w.heap.size, 0, none⟩) 1 1)) 43 (0, 0)) := by
    unfold litW
    rw [b4.block _ (by omega), b3.block _ (by omega)]; exact n2
  have h3 : (litW w w.heap.size).heap[w.heap.size + 1 + 1]? = some (.cells nullC 43 (0, 0)) := by
    unfold litW
    rw [b4.block _ (by omega)]; exact n3
  refine ⟨?_, ?_, n4, ?_, ?_⟩
  · exact Below.next (Below.next (Below.next b1 (by simpa using b2)) (by simpa using b3)) (by simpa [litW] using b4)
  · simp [litW]
  · exact its_two h2 (hF _ (by omega) (by omega)) (its_null h1 (hF _ (by omega) (by omega)))
  · exact its_null h3 (hF _ (by omega) (by omega))
end Go.Proofs.YtgljkgkophaefabDoor
