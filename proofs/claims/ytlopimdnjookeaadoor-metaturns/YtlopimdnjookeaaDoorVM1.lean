import Derived.Test.YtlopimdnjookeaaDoorVDAt
import Derived.Deep.QuietTactic
import Derived.BigQuiet
namespace Go.Proofs.YtlopimdnjookeaaDoor.V
open Go.RowKit Go.Maps

theorem clamp_mm (n : Int) : min (max n 0) 8388615 = clampN n 0 8388615 := by unfold clampN; split <;> (try split) <;> omega

theorem newD_nil : NewD (.map []) [] := fun i => ⟨rfl, fun k h => by simp [lastIx] at h⟩
theorem new_dev (w : World) (n s : Int) (hs : clampN n 0 8388615 = s) : ∃ b F, Ending.returned (Value.pointer (some ⟨w.heap.size + 1 + 1, 0, none⟩)) = .returned (.pointer (some ⟨b, 0, none⟩)) ∧
    DevAt (((w.alloc (.map #[] 0)).alloc (.map #[] 0)).alloc (.cells #[.int .i64 s, .map (some w.heap.size), .slice none 0 0, .map (some (w.heap.size + 1)), .slice none 0 0, .bool false, .int .i64 0, .int .i64 0, .int .i64 0] 66)) b F (newDev n) ∧
    Below w.heap.size w (((w.alloc (.map #[] 0)).alloc (.map #[] 0)).alloc (.cells #[.int .i64 s, .map (some w.heap.size), .slice none 0 0, .map (some (w.heap.size + 1)), .slice none 0 0, .bool false, .int .i64 0, .int .i64 0, .int .i64 0] 66)) ∧ ∀ k, F k → w.heap.size ≤ k := by
  have hm1 := World.ownsMap_made (H := Unit) w Tryd.prog 3 secR
  have hm2 := World.ownsMap_made (H := Unit) (w.alloc (.map #[] 0)) Tryd.prog 3 (plainElem Tryd.prog 3)
  refine ⟨w.heap.size + 1 + 1, fun k => w.heap.size ≤ k ∧ k < w.heap.size + 3, rfl, ⟨w.heap.size, w.heap.size + 1, .slice none 0 0, .slice none 0 0, .map [], ?_, ?_, ?_, ?_, by omega, ?_, ?_, newD_nil, World.ownsRow_nil _ _ _ _, fun g hg => by simp [Value.ownBlock] at hg, .inl ⟨rfl, rfl⟩, newDev_ok n, ?_⟩, ?_, fun k hk => hk.1⟩
  · have h := heap_alloc_new ((w.alloc (.map #[] 0)).alloc (.map #[] 0)) (.cells #[.int .i64 s, .map (some w.heap.size), .slice none 0 0, .map (some (w.heap.size + 1)), .slice none 0 0, .bool false, .int .i64 0, .int .i64 0, .int .i64 0] 66)
    simp only [World.size_alloc] at h
    rw [h]
    simp only [devCells, newDev, hs]
  · omega
  · omega
  · omega
  · exact ((hm1.alloc _).alloc _)
  · have := hm2.alloc (.cells #[.int .i64 s, .map (some w.heap.size), .slice none 0 0, .map (some (w.heap.size + 1)), .slice none 0 0, .bool false, .int .i64 0, .int .i64 0, .int .i64 0] 66)
    simp only [World.size_alloc] at this
    exact this
  · intro i hi; simp; omega
  · exact (((below_new w _).alloc (by simp) _).alloc (by simp; omega) _)

set_option maxHeartbeats 400000 in
theorem new_any (n : Int) (w : World) : Calls Tryd.prog 10 #[.int .i64 n] w fun e w' => ∃ b F, e = .returned (.pointer (some ⟨b, 0, none⟩)) ∧ DevAt w' b F (newDev n) ∧ Below w.heap.size w w' ∧ ∀ k, F k → w.heap.size ≤ k := by
  have hmm := @run_makeMap Tryd.prog
  go_enter Tryd.func10, Tryd.ntmps10
  go_wp2_with fail
  · go_ret
    obtain ⟨b, F, h1, h2⟩ := new_dev w n 0 (by unfold clampN; rw [if_pos (by omega)])
    exact ⟨b, h1, F, h2⟩
  · go_ret
    obtain ⟨b, F, h1, h2⟩ := new_dev w n 8388615 (by unfold clampN; rw [if_neg (by omega), if_pos (by omega)])
    exact ⟨b, h1, F, h2⟩
  · go_ret
    obtain ⟨b, F, h1, h2⟩ := new_dev w n n (by unfold clampN; rw [if_neg (by omega), if_neg (by omega)])
    exact ⟨b, h1, F, h2⟩

set_option maxHeartbeats 400000 in
theorem size_any (b : Nat) (F : Nat → Prop) (d : Dev) (w : World) (h : DevAt w b F d) : Calls Tryd.prog 45 #[.pointer (some ⟨b, 0, none⟩)] w fun e w' => e = .returned (.int .i64 d.size) ∧ w = w' := by
  obtain ⟨mb, nb, pv, av, Dn, h⟩ := h
  have c0 : w.cell? ⟨b, 0, none⟩ = some (.int .i64 d.size) := h.cell 0
  clear h
  go_enter Tryd.func45, Tryd.ntmps45
  go_wp2
  go_ret
  exact ⟨rfl, rfl⟩
/-- One of a device's own cells is turned. -/
theorem DevBody.set {w : World} {b : Nat} {F : Nat → Prop} {d d' : Dev} {mb nb : Nat} {pv av : Value} {Dn : DataW Unit} (h : DevBody w b F d mb nb pv av Dn) (j : Nat) (u : Value) (hc : (devCells d mb nb pv av).setIfInBounds j u = devCells d' mb nb pv av)
    (hd : d'.dur = d.dur) (hp : d'.pend = d.pend) (ha : d'.arms = d.arms) (ho : d'.Ok) : DevBody (w.setCell ⟨b, j, none⟩ u) b F d' mb nb pv av Dn ∧ Step F F w (w.setCell ⟨b, j, none⟩ u) := by
  have hst : Step F F w (w.setCell ⟨b, j, none⟩ u) := ⟨rfl, rfl, rfl, by simp [World.setCell], fun k _ hn => Below.heap_setCell w ⟨b, j, none⟩ u k (fun e => hn (by rw [e]; exact h.fb)), fun _ h => .inl h⟩
  have hne : ∀ k, k ≠ b → (w.setCell ⟨b, j, none⟩ u).heap[k]? = w.heap[k]? := fun k hk => Below.heap_setCell w ⟨b, j, none⟩ u k hk
  have hty : ∀ k cur e, w.heap[k]? = some (.cells cur e (0, 0)) → e ≠ 66 → k ≠ b := fun k cur e hk he hb => by
    rw [hb, h.blk] at hk
    simp only [Option.some.injEq, Obj.cells.injEq] at hk
    exact he hk.2.1.symm
  refine ⟨⟨?_, h.fb, h.fm, h.fn, h.ne, ?_, ?_, by rw [hp]; exact h.new, ?_, h.pf, ?_, ho, fun i hi => by simpa [World.setCell] using h.lt i hi⟩, hst⟩
  · unfold World.setCell
    simp only [Array.getElem?_modify, if_true]
    rw [h.blk]
    simp only [Option.map_some, Option.some.injEq]
    rw [← hc]
    rfl
  · rw [hd]; exact ownsMap_block h.mapD (hne mb (map_ne_cells h.mapD h.blk).symm)
  · rw [hp]; exact ownsMap_block h.mapN (hne nb (map_ne_cells h.mapN h.blk).symm)
  · rw [hp]; exact owns_block h.pend fun g hg => by
      obtain ⟨_, _, cur, hcur⟩ := owns_blk h.pend g hg
      exact hne g (hty g cur _ hcur (by decide))
  · rw [ha]; exact h.arms.block fun k cur hk _ => by
      rcases hk with hk | hk
      · exact hne k (hty k cur _ hk (by decide))
      · exact hne k (hty k cur _ hk (by decide))
set_option maxHeartbeats 400000 in
theorem revive_any (b : Nat) (F : Nat → Prop) (d : Dev) (w : World) (h : DevAt w b F d) : Calls Tryd.prog 17 #[.pointer (some ⟨b, 0, none⟩)] w fun e w' => e = .returned (.tuple #[]) ∧ DevAt w' b F d.revive ∧ Step F F w w' := by
  obtain ⟨mb, nb, pv, av, Dn, h⟩ := h
  have c5 : w.cell? ⟨b, 5, none⟩ = some (.bool d.dead) := h.cell 5
  have f5 := h.frozen 5
  obtain ⟨h2, hs⟩ := h.set (d' := d.revive) 5 (.bool false) rfl rfl rfl rfl h.ok.revive
  have HH : Hid (DevBody (w.setCell ⟨b, 5, none⟩ (.bool false)) b F d.revive mb nb pv av Dn ∧ Step F F w (w.setCell ⟨b, 5, none⟩ (.bool false))) := ⟨h2, hs⟩
  clear h h2 hs
  go_enter Tryd.func17, Tryd.ntmps17
  go_wp2
  go_end0
  exact ⟨rfl, ⟨_, _, _, _, _, HH.out.1⟩, HH.out.2⟩
set_option maxHeartbeats 400000 in
theorem holds_any (b : Nat) (F : Nat → Prop) (d : Dev) (s n : Int) (w : World) (h : DevAt w b F d) (hn : n < 9223372036854775808) : Calls Tryd.prog 48 #[.pointer (some ⟨b, 0, none⟩), .int .i64 s, .int .i64 n] w fun e w' => e = .returned (.bool (d.fits s n)) ∧ w = w' := by
  obtain ⟨mb, nb, pv, av, Dn, h⟩ := h
  have c0 : w.cell? ⟨b, 0, none⟩ = some (.int .i64 d.size) := h.cell 0
  have s0 := h.ok.s0
  have s1 := h.ok.s1
  obtain ⟨sz, hsz⟩ : ∃ sz, sz = d.size := ⟨_, rfl⟩
  rw [← hsz] at c0 s0 s1
  have HF : Hid (d.fits s n = decide (0 ≤ s ∧ 0 ≤ n ∧ s ≤ sz - n)) := (by rw [hsz]; rfl : d.fits s n = _)
  clear h hsz
  go_enter Tryd.func48, Tryd.ntmps48
  by_cases g1 : 0 ≤ s
  · by_cases g2 : 0 ≤ n
    · have hd1 : decide (0 ≤ s) = true := decide_eq_true g1
      have hd2 : decide (0 ≤ n) = true := decide_eq_true g2
      go_wp2
      go_ret
      refine ⟨?_, rfl⟩
      rw [HF.out]
      simp [g1, g2]
    · have hd1 : decide (0 ≤ s) = true := decide_eq_true g1
      have hd2 : decide (0 ≤ n) = false := decide_eq_false g2
      go_wp2
      go_ret
      refine ⟨?_, rfl⟩
      rw [HF.out, decide_eq_false (by omega)]
      rfl
  · have hd1 : decide (0 ≤ s) = false := decide_eq_false g1
    go_wp2
    go_ret
    refine ⟨?_, rfl⟩
    rw [HF.out, decide_eq_false (by omega)]
    rfl

end Go.Proofs.YtlopimdnjookeaaDoor.V
