import Derived.Test.YtgljkgkophaefabDoorRdrT5
import Derived.Test.YtgljkgkophaefabDoorUnp
namespace Go.Proofs.YtgljkgkophaefabDoor
open Go.RowKit

def UnpackRT (aT : Addr) (s : ByteArray) (w : World) (e : Ending) (w' : World) : Prop :=
  (∃ l v base, s.data.toList = encL l ∧ VL 4 l ∧ s.size ≤ 65536 ∧ e = .returned (.tuple #[v, .nilIface]) ∧ w.heap.size ≤ base ∧ TrN w' base v l ∧ Below w.heap.size w w') ∨
  ((s.size ≤ 65536 → ∀ l, VL 4 l → s.data.toList ≠ encL l) ∧ e = .returned (.tuple #[.slice none 0 0, .iface 76 (.pointer (some aT))]) ∧ Below w.heap.size w w')

set_option maxHeartbeats 1000000 in
theorem unpackT_in (aT : Addr) (s : ByteArray) (w : World) (ht : TextAt aT w) (hs : s.size ≤ 65536) :
    Calls Tryd.prog 9 #[.string s] w (UnpackRT aT s w) := by
  have c0 : w.cell? ⟨1, 0, none⟩ = some (.iface 76 (.pointer (some aT))) := ht
  have hmf : ∀ (fn : Fn) (first cap : Array Value) (w : World), (Instr.makeFunc fn first cap).run Tryd.prog w = .ok (.func fn first cap) w := fun _ _ _ _ => rfl
  have g1 : ¬ (65536 : Int) < (s.size : Int) := by omega
  have hgt : 1 < w.heap.size := World.block_lt_of_cell? w _ c0
  have b1 := below_new w (.cells #[.slice none 0 0] 22)
  have b2 := below_new (w.alloc (.cells #[.slice none 0 0] 22)) (.cells #[.nilIface] 25)
  have b3 := below_new ((w.alloc (.cells #[.slice none 0 0] 22)).alloc (.cells #[.nilIface] 25)) (.cells #[.string s] 55)
  have hB := Below.next (Below.next b1 b2) b3
  have hRd : RdAt (((w.alloc (.cells #[.slice none 0 0] 22)).alloc (.cells #[.nilIface] 25)).alloc (.cells #[.string s] 55)) (w.heap.size + 1 + 1) s := by
    have := heap_alloc_new ((w.alloc (.cells #[.slice none 0 0] 22)).alloc (.cells #[.nilIface] 25)) (.cells #[.string s] 55)
    simpa [RdAt] using this
  have hX : (((w.alloc (.cells #[.slice none 0 0] 22)).alloc (.cells #[.nilIface] 25)).alloc (.cells #[.string s] 55)).heap[w.heap.size]? = some (.cells #[.slice none 0 0] 22 (0, 0)) := by
    rw [b3.block _ (by simp; omega), b2.block _ (by simp)]
    exact heap_alloc_new w _
  have hY : (((w.alloc (.cells #[.slice none 0 0] 22)).alloc (.cells #[.nilIface] 25)).alloc (.cells #[.string s] 55)).heap[w.heap.size + 1]? = some (.cells #[.nilIface] 25 (0, 0)) := by
    rw [b3.block _ (by simp)]
    simpa using heap_alloc_new (w.alloc (.cells #[.slice none 0 0] 22)) (.cells #[.nilIface] 25)
  have hSz : (((w.alloc (.cells #[.slice none 0 0] 22)).alloc (.cells #[.nilIface] 25)).alloc (.cells #[.string s] 55)).heap.size = w.heap.size + 3 := by simp
  have HT0 := cell_below hB c0
  have I := itemsT_any aT (w.heap.size + 1 + 1) (by omega) 4 0 rfl s.data.toList (((w.alloc (.cells #[.slice none 0 0] 22)).alloc (.cells #[.nilIface] 25)).alloc (.cells #[.string s] 55)) HT0 (by rw [S_data]; exact hRd) (by simpa using hs)
  have HH : Hid (∃ W0, W0 = (((w.alloc (.cells #[.slice none 0 0] 22)).alloc (.cells #[.nilIface] 25)).alloc (.cells #[.string s] 55)) ∧ Below w.heap.size w W0 ∧ W0.heap[w.heap.size]? = some (.cells #[.slice none 0 0] 22 (0, 0)) ∧ W0.heap[w.heap.size + 1]? = some (.cells #[.nilIface] 25 (0, 0)) ∧ W0.heap.size = w.heap.size + 3 ∧ W0.cell? ⟨1, 0, none⟩ = some (.iface 76 (.pointer (some aT)))) := ⟨_, rfl, hB, hX, hY, hSz, HT0⟩
  clear ht b1 b2 b3 hB hRd hX hY hSz HT0 c0
  go_enter_defers Tryd.func9, Tryd.ntmps9
  go_wp2_with fail
  refine I.mono ?_
  obtain ⟨W0, hW0, hB, hX, hY, hSz, hT0⟩ := HH.out
  rw [← hW0]
  clear I HH hW0
  rintro e w3 (⟨l, v, b, hl, hvl, rfl, hown, hR⟩ | ⟨rfl, hS, hno⟩)
  · have hX3 : w3.heap[w.heap.size]? = some (.cells #[.slice none 0 0] 22 (0, 0)) := by rw [hR.sole.block _ (by omega) (by omega)]; exact hX
    have hY3 : w3.heap[w.heap.size + 1]? = some (.cells #[.nilIface] 25 (0, 0)) := by rw [hR.sole.block _ (by omega) (by omega)]; exact hY
    have x0 : w3.cell? ⟨w.heap.size, 0, none⟩ = some (.slice none 0 0) := by rw [cell_of_row w3 _ 0 _ _ _ hX3]; rfl
    have y0 : w3.cell? ⟨w.heap.size + 1, 0, none⟩ = some .nilIface := by rw [cell_of_row w3 _ 0 _ _ _ hY3]; rfl
    have zx := frozen_of_row w3 w.heap.size 0 _ _ hX3
    have zy := frozen_of_row w3 (w.heap.size + 1) 0 _ _ hY3
    obtain ⟨av, cv, rfl⟩ := hown.form
    go_wp2_with fail
    refine leaves_cons (f := 27) (args := #[.pointer (some ⟨w.heap.size, 0, none⟩), .pointer (some ⟨w.heap.size + 1, 0, none⟩)]) (by simp) (by simp [go_sem]) ?_
    refine (unp_idle _ _ _).mono ?_
    rintro e u' w'' ⟨rfl, rfl, rfl⟩
    simp [Leaves, settle, results, Tryd.results9, go_sem, x0, y0]
    rw [hSz] at hown
    have q1 : TrN (w3.setCell ⟨w.heap.size, 0, none⟩ (.slice av l.length cv)) (w.heap.size + 3) (.slice av l.length cv) l := hown.sole (Sole.set w.heap.size 0 w3 _) (by omega)
    have q2 := q1.sole (Sole.set (w.heap.size + 1) 0 _ .nilIface) (by omega)
    refine .inl ⟨l, _, _, by simpa [fin] using hl, hvl, hs, rfl, Nat.le_add_right _ 3, q2, ?_⟩
    exact ((hR.sole.below hB (by omega)).setCell (Nat.le_refl _) _).setCell (Nat.le_succ _) _
  · have hX3 : w3.heap[w.heap.size]? = some (.cells #[.slice none 0 0] 22 (0, 0)) := by rw [hS.block _ (by omega) (by omega)]; exact hX
    have hY3 : w3.heap[w.heap.size + 1]? = some (.cells #[.nilIface] 25 (0, 0)) := by rw [hS.block _ (by omega) (by omega)]; exact hY
    have x0 : w3.cell? ⟨w.heap.size, 0, none⟩ = some (.slice none 0 0) := by rw [cell_of_row w3 _ 0 _ _ _ hX3]; rfl
    have y0 : w3.cell? ⟨w.heap.size + 1, 0, none⟩ = some .nilIface := by rw [cell_of_row w3 _ 0 _ _ _ hY3]; rfl
    have zx := frozen_of_row w3 w.heap.size 0 _ _ hX3
    have zy := frozen_of_row w3 (w.heap.size + 1) 0 _ _ hY3
    show bodyPostD _ _ _ _ _ _
    refine leaves_cons (f := 27) (args := #[.pointer (some ⟨w.heap.size, 0, none⟩), .pointer (some ⟨w.heap.size + 1, 0, none⟩)]) (by simp) (by simp [go_sem]) ?_
    refine (unp_catch aT w.heap.size (w.heap.size + 1) _ _ [] w3 (hS.cell hT0 (by show 1 ≠ _; omega)) x0 y0 zx zy (by omega)).mono ?_
    rintro e u' w'' ⟨rfl, rfl, rfl⟩
    simp [Leaves, settle, results, Tryd.results9, go_sem, x0, y0]
    refine .inr ⟨fun _ l hl e => hno l [] hl (by simpa [fin] using e), rfl, ?_⟩
    exact ((hS.below hB (by omega)).setCell (Nat.le_refl _) _).setCell (Nat.le_succ _) _

theorem unpackT_any (aT : Addr) (s : ByteArray) (w : World) (ht : TextAt aT w) : Calls Tryd.prog 9 #[.string s] w (UnpackRT aT s w) := by
  by_cases hs : s.size ≤ 65536
  · exact unpackT_in aT s w ht hs
  · refine (unpack_over aT s w ht (by omega)).mono ?_
    rintro e w' ⟨rfl, hb⟩
    exact .inr ⟨fun h => absurd h hs, rfl, hb⟩
end Go.Proofs.YtgljkgkophaefabDoor
