import Derived.Test.YtlopimdnjookeabGreatDoorA1
import Derived.Deep.QuietTactic
import Derived.BigQuiet
import Derived.Deep.RegionHeld3
namespace Go.Proofs.YtlopimdnjookeabGreatDoor.V
open Go.RowKit Go.Maps

theorem clamp_mm (n : Int) : min (max n 0) 8388615 = clampN n 0 8388615 := by unfold clampN; split <;> (try split) <;> omega

theorem newD_nil : NewD (.map []) [] := fun i => ⟨rfl, fun k h => by simp [lastIx] at h⟩
theorem new_dev (w : World) (n s : Int) (hs : clampN n 0 8388615 = s) : ∃ b F, Ending.returned (Value.pointer (some ⟨w.heap.size + 1 + 1, 0, none⟩)) = .returned (.pointer (some ⟨b, 0, none⟩)) ∧
    DevAt (((w.alloc (.map #[] 0)).alloc (.map #[] 0)).alloc (.cells #[.int .i64 s, .map (some w.heap.size), .slice none 0 0, .map (some (w.heap.size + 1)), .slice none 0 0, .bool false, .int .i64 0, .int .i64 0, .int .i64 0] 47)) b F (newDev n) ∧
    Below w.heap.size w (((w.alloc (.map #[] 0)).alloc (.map #[] 0)).alloc (.cells #[.int .i64 s, .map (some w.heap.size), .slice none 0 0, .map (some (w.heap.size + 1)), .slice none 0 0, .bool false, .int .i64 0, .int .i64 0, .int .i64 0] 47)) ∧ ∀ k, F k → w.heap.size ≤ k := by
  have hm1 := World.ownsMap_made (H := Unit) w Tryz.prog 3 secR
  have hm2 := World.ownsMap_made (H := Unit) (w.alloc (.map #[] 0)) Tryz.prog 3 (plainElem Tryz.prog 3)
  refine ⟨w.heap.size + 1 + 1, fun k => w.heap.size ≤ k ∧ k < w.heap.size + 3, rfl, ⟨w.heap.size, w.heap.size + 1, .slice none 0 0, .slice none 0 0, .map [], ?_, ?_, ?_, ?_, by omega, ?_, ?_, newD_nil, World.ownsRow_nil _ _ _ _, fun g hg => by simp [Value.ownBlock] at hg, .inl ⟨rfl, rfl⟩, newDev_ok n, ?_⟩, ?_, fun k hk => hk.1⟩
  · have h := heap_alloc_new ((w.alloc (.map #[] 0)).alloc (.map #[] 0)) (.cells #[.int .i64 s, .map (some w.heap.size), .slice none 0 0, .map (some (w.heap.size + 1)), .slice none 0 0, .bool false, .int .i64 0, .int .i64 0, .int .i64 0] 47)
    simp only [World.size_alloc] at h
    rw [h]
    simp only [devCells, newDev, hs]
  · omega
  · omega
  · omega
  · exact ((hm1.alloc _).alloc _)
  · have := hm2.alloc (.cells #[.int .i64 s, .map (some w.heap.size), .slice none 0 0, .map (some (w.heap.size + 1)), .slice none 0 0, .bool false, .int .i64 0, .int .i64 0, .int .i64 0] 47)
    simp only [World.size_alloc] at this
    exact this
  · intro i hi; simp; omega
  · exact (((below_new w _).alloc (by simp) _).alloc (by simp; omega) _)

set_option maxHeartbeats 400000 in
theorem new_any (n : Int) (w : World) : Calls Tryz.prog 4 #[.int .i64 n] w fun e w' => ∃ b F, e = .returned (.pointer (some ⟨b, 0, none⟩)) ∧ DevAt w' b F (newDev n) ∧ Below w.heap.size w w' ∧ ∀ k, F k → w.heap.size ≤ k := by
  have hmm := @run_makeMap Tryz.prog
  go_enter Tryz.func4, Tryz.ntmps4
  go_wp2_with fail
  · go_ret
    obtain ⟨b, F, h1, h2⟩ := new_dev w n 0 (by unfold clampN; rw [if_pos (by omega)])
    exact ⟨b, h1, F, h2⟩
  · go_ret
    obtain ⟨b, F, h1, h2⟩ := new_dev w n 8388615 (by unfold clampN; rw [if_neg (by omega), if_pos (by omega)])
    exact ⟨b, h1, F, h2⟩
  · go_ret
    obtain ⟨b, F, h1, h2⟩ := new_dev w n n (by unfold clampN; rw [if_neg (by omega), if_neg (by omega)])
    exact ⟨b, h1, F, h2⟩

set_option maxHeartbeats 400000 in
theorem size_any (b : Nat) (F : Nat → Prop) (d : Dev) (w : World) (h : DevAt w b F d) : Calls Tryz.prog 62 #[.pointer (some ⟨b, 0, none⟩)] w fun e w' => e = .returned (.int .i64 d.size) ∧ w = w' := by
  obtain ⟨mb, nb, pv, av, Dn, h⟩ := h
  have c0 : w.cell? ⟨b, 0, none⟩ = some (.int .i64 d.size) := h.cell 0
  clear h
  go_enter Tryz.func62, Tryz.ntmps62
  go_wp2
  go_ret
  exact ⟨rfl, rfl⟩
/-- One of a device's own cells is turned. -/
theorem DevBody.set {w : World} {b : Nat} {F : Nat → Prop} {d d' : Dev} {mb nb : Nat} {pv av : Value} {Dn : DataW Unit} (h : DevBody w b F d mb nb pv av Dn) (j : Nat) (u : Value) (hc : (devCells d mb nb pv av).setIfInBounds j u = devCells d' mb nb pv av)
    (hd : d'.dur = d.dur) (hp : d'.pend = d.pend) (ha : d'.arms = d.arms) (ho : d'.Ok) : DevBody (w.setCell ⟨b, j, none⟩ u) b F d' mb nb pv av Dn ∧ Step F F w (w.setCell ⟨b, j, none⟩ u) := by
  have hst : Step F F w (w.setCell ⟨b, j, none⟩ u) := ⟨rfl, rfl, rfl, by simp [World.setCell], fun k _ hn => Below.heap_setCell w ⟨b, j, none⟩ u k (fun e => hn (by rw [e]; exact h.fb)), fun _ h => .inl h⟩
  have hne : ∀ k, k ≠ b → (w.setCell ⟨b, j, none⟩ u).heap[k]? = w.heap[k]? := fun k hk => Below.heap_setCell w ⟨b, j, none⟩ u k hk
  have hty : ∀ k cur e, w.heap[k]? = some (.cells cur e (0, 0)) → e ≠ 47 → k ≠ b := fun k cur e hk he hb => by
    rw [hb, h.blk] at hk
    simp only [Option.some.injEq, Obj.cells.injEq] at hk
    exact he hk.2.1.symm
  refine ⟨⟨?_, h.fb, h.fm, h.fn, h.ne, ?_, ?_, by rw [hp]; exact h.new, ?_, h.pf, ?_, ho, fun i hi => by simpa [World.setCell] using h.lt i hi⟩, hst⟩
  · unfold World.setCell
    simp only [Array.getElem?_modify, if_true]
    rw [h.blk]
    simp only [Option.map_some, Option.some.injEq]
    rw [← hc]
    rfl
  · rw [hd]; exact ownsMap_block h.mapD (hne mb (map_ne_cells h.mapD h.blk).symm)
  · rw [hp]; exact ownsMap_block h.mapN (hne nb (map_ne_cells h.mapN h.blk).symm)
  · rw [hp]; exact owns_block h.pend fun g hg => by
      obtain ⟨_, _, cur, hcur⟩ := owns_blk h.pend g hg
      exact hne g (hty g cur _ hcur (by decide))
  · rw [ha]; exact h.arms.block fun k cur hk _ => by
      rcases hk with hk | hk
      · exact hne k (hty k cur _ hk (by decide))
      · exact hne k (hty k cur _ hk (by decide))
set_option maxHeartbeats 400000 in
theorem revive_any (b : Nat) (F : Nat → Prop) (d : Dev) (w : World) (h : DevAt w b F d) : Calls Tryz.prog 26 #[.pointer (some ⟨b, 0, none⟩)] w fun e w' => e = .returned (.tuple #[]) ∧ DevAt w' b F d.revive ∧ Step F F w w' := by
  obtain ⟨mb, nb, pv, av, Dn, h⟩ := h
  have c5 : w.cell? ⟨b, 5, none⟩ = some (.bool d.dead) := h.cell 5
  have f5 := h.frozen 5
  obtain ⟨h2, hs⟩ := h.set (d' := d.revive) 5 (.bool false) rfl rfl rfl rfl h.ok.revive
  have HH : Hid (DevBody (w.setCell ⟨b, 5, none⟩ (.bool false)) b F d.revive mb nb pv av Dn ∧ Step F F w (w.setCell ⟨b, 5, none⟩ (.bool false))) := ⟨h2, hs⟩
  clear h h2 hs
  go_enter Tryz.func26, Tryz.ntmps26
  go_wp2
  go_end0
  exact ⟨rfl, ⟨_, _, _, _, _, HH.out.1⟩, HH.out.2⟩
set_option maxHeartbeats 400000 in
theorem holds_any (b : Nat) (F : Nat → Prop) (d : Dev) (s n : Int) (w : World) (h : DevAt w b F d) (hn : n < 9223372036854775808) : Calls Tryz.prog 59 #[.pointer (some ⟨b, 0, none⟩), .int .i64 s, .int .i64 n] w fun e w' => e = .returned (.bool (d.fits s n)) ∧ w = w' := by
  obtain ⟨mb, nb, pv, av, Dn, h⟩ := h
  have c0 : w.cell? ⟨b, 0, none⟩ = some (.int .i64 d.size) := h.cell 0
  have s0 := h.ok.s0
  have s1 := h.ok.s1
  obtain ⟨sz, hsz⟩ : ∃ sz, sz = d.size := ⟨_, rfl⟩
  rw [← hsz] at c0 s0 s1
  have HF : Hid (d.fits s n = decide (0 ≤ s ∧ 0 ≤ n ∧ s ≤ sz - n)) := (by rw [hsz]; rfl : d.fits s n = _)
  clear h hsz
  go_enter Tryz.func59, Tryz.ntmps59
  by_cases g1 : 0 ≤ s
  · by_cases g2 : 0 ≤ n
    · have hd1 : decide (0 ≤ s) = true := decide_eq_true g1
      have hd2 : decide (0 ≤ n) = true := decide_eq_true g2
      go_wp2
      go_ret
      refine ⟨?_, rfl⟩
      rw [HF.out]
      simp [g1, g2]
    · have hd1 : decide (0 ≤ s) = true := decide_eq_true g1
      have hd2 : decide (0 ≤ n) = false := decide_eq_false g2
      go_wp2
      go_ret
      refine ⟨?_, rfl⟩
      rw [HF.out, decide_eq_false (by omega)]
      rfl
  · have hd1 : decide (0 ≤ s) = false := decide_eq_false g1
    go_wp2
    go_ret
    refine ⟨?_, rfl⟩
    rw [HF.out, decide_eq_false (by omega)]
    rfl

end Go.Proofs.YtlopimdnjookeabGreatDoor.V

namespace Go.Proofs.YtlopimdnjookeabGreatDoor.V
open Go.RowKit Go.Maps

theorem bl_ext (t : ByteArray) (a b : Nat) : bl (t.extract a b) = ((bl t).drop a).take (b - a) := by simp [bl, ByteArray.data_extract]
theorem bl_head (t : ByteArray) (n : Nat) : bl (t.extract 0 n) = (bl t).take n := by rw [bl_ext]; simp
theorem bl_cat (s t : ByteArray) : bl (s ++ t) = bl s ++ bl t := by simp [bl, ByteArray.data_append]

/-- A device behind a text that was made durable. -/
theorem DevBody.dured {w w' : World} {b : Nat} {F : Nat → Prop} {d : Dev} {mb nb n : Nat} {pv av : Value} {Dn : DataW Unit} (h : DevBody w b F d mb nb pv av Dn) {l : List Sec} (hm : w'.ownsMap Tryz.prog 3 secR mb n (durD l)) (hg : w.grownBy w' (some mb)) (ho : { d with dur := l }.Ok) :
    DevBody w' b F { d with dur := l } mb nb pv av Dn ∧ Step F F w w' := by
  have hne : ∀ k, k < w.heap.size → k ≠ mb → w'.heap[k]? = w.heap[k]? := fun k hk hn => hg.block k hk (fun e => hn (Option.some.inj e))
  have hc : ∀ k (cur : Array Value) (e : TypeId), w.heap[k]? = some (Obj.cells cur e (0, 0)) → w'.heap[k]? = w.heap[k]? := fun k cur e hk => hne k (Array.getElem?_eq_some_iff.1 hk).1 (map_ne_cells h.mapD hk)
  refine ⟨⟨(hc b _ _ h.blk).trans h.blk, h.fb, h.fm, h.fn, h.ne, ?_, ownsMap_block h.mapN (hne nb h.mapN.lt h.ne.symm), h.new, owns_block h.pend fun g hg => ?_, h.pf, h.arms.block fun k cur hk _ => ?_, ho, fun i hi => Nat.lt_of_lt_of_le (h.lt i hi) hg.size⟩, Step.of_grown hg fun j hj => .inl (by rw [← Option.some.inj hj]; exact h.fm)⟩
  · have := ownsMap_tight hm
    rwa [durD_size] at this
  · obtain ⟨_, _, cur, hcur⟩ := owns_blk h.pend g hg
    exact hc g cur _ hcur
  · rcases hk with hk | hk
    · exact hc k cur _ hk
    · exact hc k cur _ hk
theorem grown_cell {w w' : World} {m : Nat} {a : Addr} {v : Value} (hg : w.grownBy w' (some m)) (hc : w.cell? a = some v) (hn : a.block ≠ m) : w'.cell? a = some v :=
  (World.cell?_of_block (a := a) (hg.block a.block (World.block_lt_of_cell? w a hc) (fun e => hn (Option.some.inj e)))).trans hc
theorem grown_of_below {w w' : World} {r : Option Nat} (h : Below w.heap.size w w') : w.grownBy w' r := ⟨h.os, h.tape, h.output, h.size, fun k hk _ => h.block k hk⟩
theorem DevBody.step {w w' : World} {b : Nat} {F : Nat → Prop} {d : Dev} {mb nb : Nat} {pv av : Value} {Dn : DataW Unit} (h : DevBody w b F d mb nb pv av Dn) (hg : w.grownBy w' (some mb)) : Step F F w w' :=
  Step.of_grown hg fun j hj => .inl (by rw [← Option.some.inj hj]; exact h.fm)
theorem maked_body {w : World} {b : Nat} {F : Nat → Prop} {d : Dev} {mb nb : Nat} {pv av : Value} {Dn : DataW Unit} (h : DevBody w b F d mb nb pv av Dn) (i : Int) (t : ByteArray) (ht : t.size ≤ 512) (h0 : 0 ≤ i) (h1 : i < d.size) :
    Calls Tryz.prog 51 #[.pointer (some ⟨b, 0, none⟩), .int .i64 i, .string t] w fun e w' => e = .returned (.tuple #[]) ∧ DevBody w' b F { d with dur := setD d.dur i (pad t) } mb nb pv av Dn ∧ w.grownBy w' (some mb) := by
  have hs := h.ok.s1
  have hl := h.ok.dur_len
  obtain ⟨k1, k2⟩ := setD_ok h.ok.dur h.ok.rise (i := i) (t := pad t) ⟨h0, h1, pad_size t ht⟩
  refine (maked_any b mb d.dur.length i t d.dur w (h.cell 1) h.mapD ht h0 (by omega) (by unfold maxLen; omega)).mono ?_
  rintro e w' ⟨rfl, hm, hg⟩
  exact ⟨rfl, (h.dured hm hg ⟨h.ok.s0, h.ok.s1, k1, k2, h.ok.pend, h.ok.arms⟩).1, hg⟩

theorem drop_body {w : World} {b : Nat} {F : Nat → Prop} {d : Dev} {mb nb : Nat} {pv av : Value} {Dn : DataW Unit} (h : DevBody w b F d mb nb pv av Dn) :
    DevAt (((w.setCell ⟨b, 2, none⟩ (.slice none 0 0)).setCell ⟨b, 3, none⟩ (.map (some w.heap.size))).alloc (.map #[] 0)) b (fun k => F k ∨ k = w.heap.size) { d with pend := [] } ∧
    Step F (fun k => F k ∨ k = w.heap.size) w (((w.setCell ⟨b, 2, none⟩ (.slice none 0 0)).setCell ⟨b, 3, none⟩ (.map (some w.heap.size))).alloc (.map #[] 0)) := by
  have hlt := (Array.getElem?_eq_some_iff.1 h.blk).1
  have hsz : ((w.setCell ⟨b, 2, none⟩ (.slice none 0 0)).setCell ⟨b, 3, none⟩ (.map (some w.heap.size))).heap.size = w.heap.size := by simp [World.setCell]
  have hal : ∀ k, k < w.heap.size → (((w.setCell ⟨b, 2, none⟩ (.slice none 0 0)).setCell ⟨b, 3, none⟩ (.map (some w.heap.size))).alloc (.map #[] 0)).heap[k]? = ((w.setCell ⟨b, 2, none⟩ (.slice none 0 0)).setCell ⟨b, 3, none⟩ (.map (some w.heap.size))).heap[k]? := fun k hk =>
    (below_new _ _).block k (by rw [hsz]; exact hk)
  have hne : ∀ k, k < w.heap.size → k ≠ b → (((w.setCell ⟨b, 2, none⟩ (.slice none 0 0)).setCell ⟨b, 3, none⟩ (.map (some w.heap.size))).alloc (.map #[] 0)).heap[k]? = w.heap[k]? := fun k hk hn => by
    rw [hal k hk, Below.heap_setCell _ ⟨b, 3, none⟩ _ k hn, Below.heap_setCell _ ⟨b, 2, none⟩ _ k hn]
  have hty : ∀ k (cur : Array Value) (e : TypeId), w.heap[k]? = some (Obj.cells cur e (0, 0)) → e ≠ 47 → (((w.setCell ⟨b, 2, none⟩ (.slice none 0 0)).setCell ⟨b, 3, none⟩ (.map (some w.heap.size))).alloc (.map #[] 0)).heap[k]? = w.heap[k]? := fun k cur e hk he => hne k (Array.getElem?_eq_some_iff.1 hk).1 fun hb => by
    rw [hb, h.blk] at hk
    simp only [Option.some.injEq, Obj.cells.injEq] at hk
    exact he hk.2.1.symm
  have hnew := World.ownsMap_made (H := Unit) ((w.setCell ⟨b, 2, none⟩ (.slice none 0 0)).setCell ⟨b, 3, none⟩ (.map (some w.heap.size))) Tryz.prog 3 (plainElem Tryz.prog 3)
  rw [hsz] at hnew
  refine ⟨⟨mb, w.heap.size, .slice none 0 0, av, .map [], ?_, .inl h.fb, .inl h.fm, .inr rfl, ?_, ownsMap_block h.mapD (hne mb h.mapD.lt (map_ne_cells h.mapD h.blk).symm), hnew, newD_nil, World.ownsRow_nil _ _ _ _, fun g hg => by simp [Value.ownBlock] at hg, ?_, ?_, ?_⟩, ?_⟩
  · rw [hal b hlt]
    unfold World.setCell
    simp only [Array.getElem?_modify, if_true]
    rw [h.blk]
    rfl
  · have := h.mapD.lt; omega
  · exact (h.arms.block fun k cur hk _ => by
      rcases hk with hk | hk
      · exact hty k cur _ hk (by decide)
      · exact hty k cur _ hk (by decide)).imp fun k hk => .inl hk
  · exact ⟨h.ok.s0, h.ok.s1, h.ok.dur, h.ok.rise, by simp, h.ok.arms⟩
  · intro i hi
    simp only [World.size_alloc, hsz]
    rcases hi with hi | hi
    · have := h.lt i hi; omega
    · omega
  · exact ⟨rfl, rfl, rfl, by simp only [World.size_alloc, hsz]; omega, fun k hk hn => hne k hk fun e => hn (by rw [e]; exact h.fb), fun k hk => hk.elim .inl (fun e => .inr (by omega))⟩

set_option maxHeartbeats 400000 in
theorem drop_any (b : Nat) (F : Nat → Prop) (d : Dev) (w : World) (h : DevAt w b F d) : Calls Tryz.prog 52 #[.pointer (some ⟨b, 0, none⟩)] w fun e w' => e = .returned (.tuple #[]) ∧ DevAt w' b (fun k => F k ∨ k = w.heap.size) { d with pend := [] } ∧ Step F (fun k => F k ∨ k = w.heap.size) w w' := by
  obtain ⟨mb, nb, pv, av, Dn, h⟩ := h
  have c2 : w.cell? ⟨b, 2, none⟩ = some pv := h.cell 2
  have c3 : w.cell? ⟨b, 3, none⟩ = some (.map (some nb)) := h.cell 3
  have f2 := h.frozen 2
  have f3 := h.frozen 3
  have hmm := @run_makeMap Tryz.prog
  have hbw : b < w.heap.size := (Array.getElem?_eq_some_iff.1 h.blk).1
  have hb2 : (w.setCell ⟨b, 2, none⟩ (.slice none 0 0)).heap[b]? = some (.cells ((devCells d mb nb pv av).setIfInBounds 2 (.slice none 0 0)) 47 (0, 0)) := by
    unfold World.setCell
    simp only [Array.getElem?_modify, if_true]
    rw [h.blk]
    rfl
  have hb3 : ((w.setCell ⟨b, 2, none⟩ (.slice none 0 0)).alloc (.map #[] 0)).heap[b]? = some (.cells ((devCells d mb nb pv av).setIfInBounds 2 (.slice none 0 0)) 47 (0, 0)) :=
    ((below_new _ _).block b (by simpa [World.setCell] using hbw)).trans hb2
  have d3 : ((w.setCell ⟨b, 2, none⟩ (.slice none 0 0)).alloc (.map #[] 0)).cell? ⟨b, 3, none⟩ = some (.map (some nb)) := by rw [cell_of_row _ _ _ _ _ _ hb3]; rfl
  have g3 : ((w.setCell ⟨b, 2, none⟩ (.slice none 0 0)).alloc (.map #[] 0)).frozen? ⟨b, 3, none⟩ = false := by
    unfold World.frozen?
    rw [show ((w.setCell ⟨b, 2, none⟩ (.slice none 0 0)).alloc (.map #[] 0)).heap[(⟨b, 3, none⟩ : Addr).block]? = _ from hb3]
    simp
  clear hb2 hb3 c3 f3
  have HH : Hid _ := drop_body h
  clear h
  go_enter Tryz.func52, Tryz.ntmps52
  go_wp2
  go_end0
  exact ⟨rfl, HH.out⟩

theorem ext_take (t : ByteArray) (n : Nat) : t.extract 0 n = mkb ((bl t).take n) := bl_inj (by rw [bl_head, bl_mkb])
theorem take_all (t : ByteArray) (n : Nat) (h : t.size ≤ n) : t = mkb ((bl t).take n) := bl_inj (by rw [bl_mkb, List.take_of_length_le (by rw [bl_len]; exact h)])
theorem ret_str {s t : ByteArray} (h : s = t) : Ending.returned (.string s) = .returned (.string t) := by rw [h]
set_option maxHeartbeats 400000 in
theorem head_any (t : ByteArray) (n : Nat) (w : World) (hn : n ≤ 512) : Calls Tryz.prog 79 #[.string t, .int .i64 (n : Int)] w fun e w' => e = .returned (.string (mkb ((bl t).take n))) ∧ w = w' := by
  obtain ⟨r, hr⟩ : ∃ r, r = mkb ((bl t).take n) := ⟨_, rfl⟩
  rw [← hr]
  have HR : Hid (r = mkb ((bl t).take n)) := hr
  clear hr
  go_enter Tryz.func79, Tryz.ntmps79
  rcases Nat.lt_or_ge t.size n with h | h
  · have i1 : (t.size : Int) < (n : Int) := by omega
    go_wp2_with fail
    go_ret
    exact ⟨ret_str (by rw [HR.out]; exact take_all t n (by omega)), rfl⟩
  · have i1 : (n : Int) ≤ (t.size : Int) := by omega
    have i2 : (0 : Int) ≤ (n : Int) := by omega
    go_wp2_with fail
    all_goals go_ret
    all_goals exact ⟨ret_str (by rw [HR.out]; first | exact ext_take t n | exact take_all t n (by omega)), rfl⟩

end Go.Proofs.YtlopimdnjookeabGreatDoor.V

namespace Go.Proofs.YtlopimdnjookeabGreatDoor.V
open Go.RowKit Go.Maps

def tornS (d : ByteArray) (f : Fate) : ByteArray := mkb ((bl d).take (cutOf f.cut) ++ (bl f.junk).take (512 - cutOf f.cut))
theorem tornS_size (d : ByteArray) (f : Fate) : (tornS d f).size ≤ 512 := by
  have := cutOf_le f.cut
  rw [tornS, mkb_size, List.length_append, List.length_take, List.length_take]
  omega
theorem join_take (A J : List UInt8) (c n : Nat) (hA : A.length = c) (hc : c ≤ n) : A ++ J.take (n - c) ++ zeros (n - (A ++ J.take (n - c)).length) = (A ++ J ++ zeros n).take n := by
  have h1 : (A ++ J ++ zeros n).take n = A ++ (J ++ zeros n).take (n - c) := by
    rw [List.append_assoc, List.take_append, hA, List.take_of_length_le (by omega)]
  rw [h1, List.append_assoc, List.take_append, List.length_append, List.length_take, hA]
  congr 2
  unfold zeros
  rw [List.take_replicate]
  congr 1
  omega
theorem pad_tornS (d : ByteArray) (f : Fate) (hd : d.size = 512) : pad (tornS d f) = tornB d f := by
  have hc := cutOf_le f.cut
  unfold pad tornS tornB
  rw [bl_mkb, mkb_size]
  exact congrArg mkb (join_take _ _ (cutOf f.cut) 512 (by rw [List.length_take, bl_len]; omega) hc)
theorem undrew {n : Nat} {w w' : World} (h : Below n w.drew w') : Below n w w' := ⟨h.os, h.tape, h.output, h.size, h.block⟩
theorem cell_below {w w' : World} {a : Addr} {v : Value} (hb : Below w.heap.size w w') (hc : w.cell? a = some v) : w'.cell? a = some v := (hb.cell (p := a) (World.block_lt_of_cell? w a hc)).trans hc

theorem wrap_i64 (n : Int) (h1 : -9223372036854775808 ≤ n) (h2 : n ≤ 9223372036854775807) : IntKind.i64.wrap n = n := by
  simp [IntKind.wrap, IntKind.bits, IntKind.signed]
  omega
theorem torn_join (D J : ByteArray) (c : Nat) : mkb ((bl D).take c) ++ mkb ((bl J).take (512 - c)) = mkb ((bl D).take c ++ (bl J).take (512 - c)) := bl_inj (by rw [bl_cat, bl_mkb, bl_mkb, bl_mkb])
set_option maxHeartbeats 400000 in
theorem torn_any (D : ByteArray) (f : Fate) (w : World) (hD : D.size = 512) : Calls Tryz.prog 98 #[.string D, .agg #[.int .i64 f.ix, .int .i64 f.kind, .int .i64 f.cut, .string f.junk]] w fun e w' => e = .returned (.string (tornS D f)) ∧ Below w.heap.size w w' := by
  obtain ⟨fi, fk, fc, J⟩ := f
  have hle := cutOf_le fc
  have HH : Hid (∀ w', Calls Tryz.prog 79 #[.string J, .int .i64 ((512 - cutOf fc : Nat) : Int)] w' fun e w'' => e = .returned (.string (mkb ((bl J).take (512 - cutOf fc)))) ∧ w' = w'') := fun w' => head_any J (512 - cutOf fc) w' (by omega)
  have HC : Hid (cutOf fc = (clampN fc 0 512).toNat) := (rfl : cutOf fc = _)
  have HT : Hid (tornS D ⟨fi, fk, fc, J⟩ = mkb ((bl D).take (cutOf fc)) ++ mkb ((bl J).take (512 - cutOf fc))) := (torn_join D J (cutOf fc)).symm
  have HE : Hid (∀ n, D.extract 0 n = mkb ((bl D).take n)) := fun n => ext_take D n
  have HA : Hid (D = mkb ((bl D).take 512)) := take_all D 512 (by omega)
  generalize hcc : cutOf fc = c at *
  clear hcc
  obtain ⟨q, hq⟩ : ∃ q, q = mkb ((bl J).take (512 - c)) := ⟨_, rfl⟩
  have hqs : q.size ≤ 512 := by rw [hq, mkb_size, List.length_take]; omega
  have hex : (D.extract 0 c).size = c := by rw [← bl_len, bl_head, List.length_take, bl_len]; omega
  have HR : Hid (∀ r q : ByteArray, r = mkb ((bl D).take c) → q = mkb ((bl J).take (512 - c)) → Ending.returned (.string (r ++ q)) = .returned (.string (tornS D ⟨fi, fk, fc, J⟩))) := fun r q h1 h2 => by rw [HT.out, h1, h2]
  have hw0 : IntKind.i64.wrap 512 = 512 := by decide
  have hw1 : IntKind.i64.wrap (512 - (c : Int)) = 512 - (c : Int) := wrap_i64 _ (by omega) (by omega)
  have hb := below_new w (.cells #[.int .i64 fi, .int .i64 fk, .int .i64 fc, .string J] 114)
  go_enter Tryz.func98, Tryz.ntmps98
  rcases (show fc < 0 ∨ 0 ≤ fc by omega) with h | h
  · have e0 : c = 0 := by rw [HC.out]; unfold clampN; rw [if_pos h]; rfl
    subst e0
    have H0 : Hid (∀ w', Calls Tryz.prog 79 #[.string J, .int .i64 512] w' fun e w'' => e = .returned (.string q) ∧ w' = w'') := by rw [hq]; exact HH.out
    have HQ : Hid (q = mkb ((bl J).take (512 - 0))) := hq
    clear HH HC HT hq
    go_wp2_with fail
    go_quiet ((go_at_call 79; refine Calls.quiet_of_same ((H0.out _).mono fun e w' h => ⟨h.1, h.2.symm⟩)))
    go_wp2_with fail
    go_ret
    have hr := HR.out (mkb []) q rfl HQ.out
    rw [show mkb [] ++ q = q from bl_inj (by rw [bl_cat, bl_mkb, List.nil_append])] at hr
    exact ⟨hr, below_drewN hb _⟩
  · rcases (show 512 < fc ∨ fc ≤ 512 by omega) with h' | h'
    · have e0 : c = 512 := by rw [HC.out]; unfold clampN; rw [if_neg (by omega), if_pos h']; rfl
      subst e0
      have H0 : Hid (∀ w', Calls Tryz.prog 79 #[.string J, .int .i64 0] w' fun e w'' => e = .returned (.string q) ∧ w' = w'') := by rw [hq]; exact HH.out
      have i1 : (512 : Int) ≤ (D.size : Int) := by omega
      have HQ : Hid (q = mkb ((bl J).take (512 - 512))) := hq
      clear HH HC HT hq
      go_wp2_with fail
      go_quiet ((go_at_call 79; refine Calls.quiet_of_same ((H0.out _).mono fun e w' h => ⟨h.1, h.2.symm⟩)))
      go_wp2_with fail
      go_ret
      exact ⟨HR.out _ _ (by first | exact HA.out | rw [HE.out]) HQ.out, below_drewN hb _⟩
    · have e0 : fc = (c : Int) := by rw [HC.out]; unfold clampN; rw [if_neg (by omega), if_neg (by omega)]; omega
      subst e0
      have H0 : Hid (∀ w', Calls Tryz.prog 79 #[.string J, .int .i64 (512 - (c : Int))] w' fun e w'' => e = .returned (.string q) ∧ w' = w'') := fun w' => by
        have := HH.out w'
        rw [← hq] at this
        rwa [show ((512 - c : Nat) : Int) = 512 - (c : Int) by omega] at this
      have i1 : (c : Int) ≤ (D.size : Int) := by omega
      have i2 : (0 : Int) ≤ (c : Int) := by omega
      have HQ : Hid (q = mkb ((bl J).take (512 - c))) := hq
      clear HH HC HT hq
      go_wp2_with fail
      all_goals go_quiet ((go_at_call 79; refine Calls.quiet_of_same ((H0.out _).mono fun e w' h => ⟨h.1, h.2.symm⟩)))
      all_goals go_wp2_with fail
      all_goals go_ret
      all_goals exact ⟨HR.out _ _ (by first | rw [HE.out] | exact HA.out) HQ.out, below_drewN hb _⟩

/-- What a fate makes of a pending write. -/
def meetX (dur : List Sec) (x : Sec) (f : Fate) : List Sec := if f.kind = 2 then setD dur x.ix x.dat else if f.kind = 3 then setD dur x.ix (tornB x.dat f) else dur
theorem DevBody.same {w : World} {b : Nat} {F : Nat → Prop} {d : Dev} {mb nb : Nat} {pv av : Value} {Dn : DataW Unit} (h : DevBody w b F d mb nb pv av Dn) {w' : World} (hk : ∀ k, F k → w'.heap[k]? = w.heap[k]?) (hs : w.heap.size ≤ w'.heap.size) : DevBody w' b F d mb nb pv av Dn :=
  ⟨(hk b h.fb).trans h.blk, h.fb, h.fm, h.fn, h.ne, ownsMap_block h.mapD (hk mb h.fm), ownsMap_block h.mapN (hk nb h.fn), h.new, owns_block h.pend (fun g hg => hk g (h.pf g hg)), h.pf,
    h.arms.block (fun k _ _ hf => hk k hf), h.ok, fun i hi => Nat.lt_of_lt_of_le (h.lt i hi) hs⟩
theorem DevBody.alloc {w : World} {b : Nat} {F : Nat → Prop} {d : Dev} {mb nb : Nat} {pv av : Value} {Dn : DataW Unit} (h : DevBody w b F d mb nb pv av Dn) {w' : World} (hb : Below w.heap.size w w') : DevBody w' b F d mb nb pv av Dn := by
  have hk : ∀ k, F k → w'.heap[k]? = w.heap[k]? := fun k hk => hb.block k (h.lt k hk)
  exact ⟨(hk b h.fb).trans h.blk, h.fb, h.fm, h.fn, h.ne, ownsMap_block h.mapD (hk mb h.fm), ownsMap_block h.mapN (hk nb h.fn), h.new, owns_block h.pend (fun g hg => hk g (h.pf g hg)), h.pf,
    h.arms.block (fun k _ _ hf => hk k hf), h.ok, fun i hi => Nat.lt_of_lt_of_le (h.lt i hi) hb.size⟩

set_option maxHeartbeats 800000 in
theorem meet_body {w : World} {b : Nat} {F : Nat → Prop} {d : Dev} {mb nb : Nat} {pv av : Value} {Dn : DataW Unit} (h : DevBody w b F d mb nb pv av Dn) (x : Sec) (f : Fate) (hx : SecOk d.size x) :
    Calls Tryz.prog 73 #[.pointer (some ⟨b, 0, none⟩), .agg #[.int .i64 x.ix, .string x.dat], .agg #[.int .i64 f.ix, .int .i64 f.kind, .int .i64 f.cut, .string f.junk]] w fun e w' => e = .returned (.tuple #[]) ∧ DevBody w' b F { d with dur := meetX d.dur x f } mb nb pv av Dn ∧ w.grownBy w' (some mb) := by
  obtain ⟨xi, xd⟩ := x
  obtain ⟨fi, fk, fc, fj⟩ := f
  obtain ⟨w2, hw2⟩ : ∃ w2, w2 = (w.alloc (.cells #[.int .i64 xi, .string xd] 72)).alloc (.cells #[.int .i64 fi, .int .i64 fk, .int .i64 fc, .string fj] 114) := ⟨_, rfl⟩
  have hb2 : Below w.heap.size w w2 := by rw [hw2]; exact (below_new w _).alloc (by simp) _
  have h2 := h.alloc hb2
  have s2 : w.grownBy w2 (some mb) := grown_of_below hb2
  have hlen := hx.len
  have M := maked_body h2 xi xd (by rw [show xd.size = 512 from hx.len]; omega) hx.lo hx.hi
  rw [pad_full xd hx.len] at M
  have HM : Hid (Calls Tryz.prog 51 #[.pointer (some ⟨b, 0, none⟩), .int .i64 xi, .string xd] w2 fun e w' => e = .returned (.tuple #[]) ∧ DevBody w' b F { d with dur := setD d.dur xi xd } mb nb pv av Dn ∧ w2.grownBy w' (some mb)) := M
  have HX : Hid (meetX d.dur ⟨xi, xd⟩ ⟨fi, fk, fc, fj⟩ = if fk = 2 then setD d.dur xi xd else if fk = 3 then setD d.dur xi (tornB xd ⟨fi, fk, fc, fj⟩) else d.dur) := (rfl : meetX _ _ _ = _)
  have HT : Hid (Calls Tryz.prog 98 #[.string xd, .agg #[.int .i64 fi, .int .i64 fk, .int .i64 fc, .string fj]] w2.drew fun e w' => e = .returned (.string (tornS xd ⟨fi, fk, fc, fj⟩)) ∧ Below w2.heap.size w2.drew w') := torn_any xd ⟨fi, fk, fc, fj⟩ w2.drew hx.len
  have HM2 : Hid (∀ w3, Below w2.heap.size w2 w3 → Calls Tryz.prog 51 #[.pointer (some ⟨b, 0, none⟩), .int .i64 xi, .string (tornS xd ⟨fi, fk, fc, fj⟩)] w3 fun e w' => e = .returned (.tuple #[]) ∧ DevBody w' b F { d with dur := setD d.dur xi (tornB xd ⟨fi, fk, fc, fj⟩) } mb nb pv av Dn ∧ w3.grownBy w' (some mb)) := fun w3 hb3 => by
    have := maked_body (h2.alloc hb3) xi (tornS xd ⟨fi, fk, fc, fj⟩) (tornS_size _ _) hx.lo hx.hi
    rwa [pad_tornS xd _ hx.len] at this
  generalize tornS xd ⟨fi, fk, fc, fj⟩ = T at *
  have c0 : w2.cell? ⟨w.heap.size, 0, none⟩ = some (.int .i64 xi) := by rw [hw2]; simp
  have c1 : w2.cell? ⟨w.heap.size, 1, none⟩ = some (.string xd) := by rw [hw2]; simp
  have d0 : w2.cell? ⟨w.heap.size + 1, 0, none⟩ = some (.int .i64 fi) := by rw [hw2]; simp
  have d1 : w2.cell? ⟨w.heap.size + 1, 1, none⟩ = some (.int .i64 fk) := by rw [hw2]; simp
  have d2 : w2.cell? ⟨w.heap.size + 1, 2, none⟩ = some (.int .i64 fc) := by rw [hw2]; simp
  have d3 : w2.cell? ⟨w.heap.size + 1, 3, none⟩ = some (.string fj) := by rw [hw2]; simp
  have hn0 : w.heap.size ≠ mb := by have := h.mapD.lt; omega
  have hn1 : w.heap.size + 1 ≠ mb := by have := h.mapD.lt; omega
  clear h hx M
  go_enter Tryz.func73, Tryz.ntmps73
  by_cases k2 : fk = 2
  · have e2 : (fk == 2) = true := by simp [k2]
    have K2 : Hid (fk = 2) := k2
    clear k2
    go_wp2_with fail
    rw [← hw2]
    clear hw2
    refine HM.out.mono ?_
    rintro e w3 ⟨rfl, h3, s3⟩
    clear HM HM2 HT c0 c1 d0 d1 d2 d3
    go_wp2_with fail
    go_end0
    rw [HX.out, if_pos K2.out]
    exact ⟨rfl, h3, s2.trans s3⟩
  · have e2 : (fk == 2) = false := by simp [k2]
    have K2 : Hid (¬ fk = 2) := k2
    clear k2
    by_cases k3 : fk = 3
    · have e3 : (fk == 3) = true := by simp [k3]
      have K3 : Hid (fk = 3) := k3
      clear k3
      clear HM
      go_wp2_with fail
      rw [← hw2]
      clear hw2
      go_region_held3 (fun w' => (w'.cell? ⟨w.heap.size, 0, none⟩ = some (.int .i64 xi) ∧ w'.cell? ⟨w.heap.size, 1, none⟩ = some (.string xd)) ∧ w'.cell? ⟨w.heap.size + 1, 0, none⟩ = some (.int .i64 fi) ∧ w'.cell? ⟨w.heap.size + 1, 1, none⟩ = some (.int .i64 fk) ∧ w'.cell? ⟨w.heap.size + 1, 2, none⟩ = some (.int .i64 fc) ∧ w'.cell? ⟨w.heap.size + 1, 3, none⟩ = some (.string fj)) (go_keep)
        (first
          | (go_at_call 51; refine (HM2.out w3 hb3).mono ?_; rintro e w4 ⟨rfl, h4, s4⟩; have z0 := grown_cell s4 a0 hn0; have z1 := grown_cell s4 a1 hn0; have y0 := grown_cell s4 b0 hn1; have y1 := grown_cell s4 b1 hn1; have y2 := grown_cell s4 b2 hn1; have y3 := grown_cell s4 b3 hn1)
          | (go_at_call 98; refine HT.out.mono ?_; rintro e w3 ⟨rfl, hbd⟩; have hb3 := undrew hbd; clear hbd; have a0 := cell_below hb3 c0; have a1 := cell_below hb3 c1; have b0 := cell_below hb3 d0; have b1 := cell_below hb3 d1; have b2 := cell_below hb3 d2; have b3 := cell_below hb3 d3))
      go_wp2_with fail
      go_end0
      rw [HX.out, if_neg K2.out, if_pos K3.out]
      exact ⟨rfl, h4, s2.trans ((grown_of_below hb3).trans s4)⟩
    · have e3 : (fk == 3) = false := by simp [k3]
      have K3 : Hid (¬ fk = 3) := k3
      clear k3
      clear HM HM2 HT
      go_wp2_with fail
      rw [← hw2]
      clear hw2
      go_end0
      rw [HX.out, if_neg K2.out, if_neg K3.out]
      exact ⟨rfl, h2, s2⟩

end Go.Proofs.YtlopimdnjookeabGreatDoor.V
