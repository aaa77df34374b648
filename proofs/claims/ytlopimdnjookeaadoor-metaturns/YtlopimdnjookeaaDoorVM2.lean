import Derived.Test.YtlopimdnjookeaaDoorVM1
import Derived.Deep.RegionHeld3
namespace Go.Proofs.YtlopimdnjookeaaDoor.V
open Go.RowKit Go.Maps

theorem bl_ext (t : ByteArray) (a b : Nat) : bl (t.extract a b) = ((bl t).drop a).take (b - a) := by simp [bl, ByteArray.data_extract]
theorem bl_head (t : ByteArray) (n : Nat) : bl (t.extract 0 n) = (bl t).take n := by rw [bl_ext]; simp
theorem bl_cat (s t : ByteArray) : bl (s ++ t) = bl s ++ bl t := by simp [bl, ByteArray.data_append]

/-- A device behind a text that was made durable. -/
theorem DevBody.dured {w w' : World} {b : Nat} {F : Nat → Prop} {d : Dev} {mb nb n : Nat} {pv av : Value} {Dn : DataW Unit} (h : DevBody w b F d mb nb pv av Dn) {l : List Sec} (hm : w'.ownsMap Tryd.prog 3 secR mb n (durD l)) (hg : w.grownBy w' (some mb)) (ho : { d with dur := l }.Ok) :
    DevBody w' b F { d with dur := l } mb nb pv av Dn ∧ Step F F w w' := by
  have hne : ∀ k, k < w.heap.size → k ≠ mb → w'.heap[k]? = w.heap[k]? := fun k hk hn => hg.block k hk (fun e => hn (Option.some.inj e))
  have hc : ∀ k (cur : Array Value) (e : TypeId), w.heap[k]? = some (Obj.cells cur e (0, 0)) → w'.heap[k]? = w.heap[k]? := fun k cur e hk => hne k (Array.getElem?_eq_some_iff.1 hk).1 (map_ne_cells h.mapD hk)
  refine ⟨⟨(hc b _ _ h.blk).trans h.blk, h.fb, h.fm, h.fn, h.ne, ?_, ownsMap_block h.mapN (hne nb h.mapN.lt h.ne.symm), h.new, owns_block h.pend fun g hg => ?_, h.pf, h.arms.block fun k cur hk _ => ?_, ho, fun i hi => Nat.lt_of_lt_of_le (h.lt i hi) hg.size⟩, Step.of_grown hg fun j hj => .inl (by rw [← Option.some.inj hj]; exact h.fm)⟩
  · have := ownsMap_tight hm
    rwa [durD_size] at this
  · obtain ⟨_, _, cur, hcur⟩ := owns_blk h.pend g hg
    exact hc g cur _ hcur
  · rcases hk with hk | hk
    · exact hc k cur _ hk
    · exact hc k cur _ hk
theorem grown_cell {w w' : World} {m : Nat} {a : Addr} {v : Value} (hg : w.grownBy w' (some m)) (hc : w.cell? a = some v) (hn : a.block ≠ m) : w'.cell? a = some v :=
  (World.cell?_of_block (a := a) (hg.block a.block (World.block_lt_of_cell? w a hc) (fun e => hn (Option.some.inj e)))).trans hc
theorem grown_of_below {w w' : World} {r : Option Nat} (h : Below w.heap.size w w') : w.grownBy w' r := ⟨h.os, h.tape, h.output, h.size, fun k hk _ => h.block k hk⟩
theorem DevBody.step {w w' : World} {b : Nat} {F : Nat → Prop} {d : Dev} {mb nb : Nat} {pv av : Value} {Dn : DataW Unit} (h : DevBody w b F d mb nb pv av Dn) (hg : w.grownBy w' (some mb)) : Step F F w w' :=
  Step.of_grown hg fun j hj => .inl (by rw [← Option.some.inj hj]; exact h.fm)
theorem maked_body {w : World} {b : Nat} {F : Nat → Prop} {d : Dev} {mb nb : Nat} {pv av : Value} {Dn : DataW Unit} (h : DevBody w b F d mb nb pv av Dn) (i : Int) (t : ByteArray) (ht : t.size ≤ 512) (h0 : 0 ≤ i) (h1 : i < d.size) :
    Calls Tryd.prog 32 #[.pointer (some ⟨b, 0, none⟩), .int .i64 i, .string t] w fun e w' => e = .returned (.tuple #[]) ∧ DevBody w' b F { d with dur := setD d.dur i (pad t) } mb nb pv av Dn ∧ w.grownBy w' (some mb) := by
  have hs := h.ok.s1
  have hl := h.ok.dur_len
  obtain ⟨k1, k2⟩ := setD_ok h.ok.dur h.ok.rise (i := i) (t := pad t) ⟨h0, h1, pad_size t ht⟩
  refine (maked_any b mb d.dur.length i t d.dur w (h.cell 1) h.mapD ht h0 (by omega) (by unfold maxLen; omega)).mono ?_
  rintro e w' ⟨rfl, hm, hg⟩
  exact ⟨rfl, (h.dured hm hg ⟨h.ok.s0, h.ok.s1, k1, k2, h.ok.pend, h.ok.arms⟩).1, hg⟩

theorem drop_body {w : World} {b : Nat} {F : Nat → Prop} {d : Dev} {mb nb : Nat} {pv av : Value} {Dn : DataW Unit} (h : DevBody w b F d mb nb pv av Dn) :
    DevAt (((w.setCell ⟨b, 2, none⟩ (.slice none 0 0)).setCell ⟨b, 3, none⟩ (.map (some w.heap.size))).alloc (.map #[] 0)) b (fun k => F k ∨ k = w.heap.size) { d with pend := [] } ∧
    Step F (fun k => F k ∨ k = w.heap.size) w (((w.setCell ⟨b, 2, none⟩ (.slice none 0 0)).setCell ⟨b, 3, none⟩ (.map (some w.heap.size))).alloc (.map #[] 0)) := by
  have hlt := (Array.getElem?_eq_some_iff.1 h.blk).1
  have hsz : ((w.setCell ⟨b, 2, none⟩ (.slice none 0 0)).setCell ⟨b, 3, none⟩ (.map (some w.heap.size))).heap.size = w.heap.size := by simp [World.setCell]
  have hal : ∀ k, k < w.heap.size → (((w.setCell ⟨b, 2, none⟩ (.slice none 0 0)).setCell ⟨b, 3, none⟩ (.map (some w.heap.size))).alloc (.map #[] 0)).heap[k]? = ((w.setCell ⟨b, 2, none⟩ (.slice none 0 0)).setCell ⟨b, 3, none⟩ (.map (some w.heap.size))).heap[k]? := fun k hk =>
    (below_new _ _).block k (by rw [hsz]; exact hk)
  have hne : ∀ k, k < w.heap.size → k ≠ b → (((w.setCell ⟨b, 2, none⟩ (.slice none 0 0)).setCell ⟨b, 3, none⟩ (.map (some w.heap.size))).alloc (.map #[] 0)).heap[k]? = w.heap[k]? := fun k hk hn => by
    rw [hal k hk, Below.heap_setCell _ ⟨b, 3, none⟩ _ k hn, Below.heap_setCell _ ⟨b, 2, none⟩ _ k hn]
  have hty : ∀ k (cur : Array Value) (e : TypeId), w.heap[k]? = some (Obj.cells cur e (0, 0)) → e ≠ 66 → (((w.setCell ⟨b, 2, none⟩ (.slice none 0 0)).setCell ⟨b, 3, none⟩ (.map (some w.heap.size))).alloc (.map #[] 0)).heap[k]? = w.heap[k]? := fun k cur e hk he => hne k (Array.getElem?_eq_some_iff.1 hk).1 fun hb => by
    rw [hb, h.blk] at hk
    simp only [Option.some.injEq, Obj.cells.injEq] at hk
    exact he hk.2.1.symm
  have hnew := World.ownsMap_made (H := Unit) ((w.setCell ⟨b, 2, none⟩ (.slice none 0 0)).setCell ⟨b, 3, none⟩ (.map (some w.heap.size))) Tryd.prog 3 (plainElem Tryd.prog 3)
  rw [hsz] at hnew
  refine ⟨⟨mb, w.heap.size, .slice none 0 0, av, .map [], ?_, .inl h.fb, .inl h.fm, .inr rfl, ?_, ownsMap_block h.mapD (hne mb h.mapD.lt (map_ne_cells h.mapD h.blk).symm), hnew, newD_nil, World.ownsRow_nil _ _ _ _, fun g hg => by simp [Value.ownBlock] at hg, ?_, ?_, ?_⟩, ?_⟩
  · rw [hal b hlt]
    unfold World.setCell
    simp only [Array.getElem?_modify, if_true]
    rw [h.blk]
    rfl
  · have := h.mapD.lt; omega
  · exact (h.arms.block fun k cur hk _ => by
      rcases hk with hk | hk
      · exact hty k cur _ hk (by decide)
      · exact hty k cur _ hk (by decide)).imp fun k hk => .inl hk
  · exact ⟨h.ok.s0, h.ok.s1, h.ok.dur, h.ok.rise, by simp, h.ok.arms⟩
  · intro i hi
    simp only [World.size_alloc, hsz]
    rcases hi with hi | hi
    · have := h.lt i hi; omega
    · omega
  · exact ⟨rfl, rfl, rfl, by simp only [World.size_alloc, hsz]; omega, fun k hk hn => hne k hk fun e => hn (by rw [e]; exact h.fb), fun k hk => hk.elim .inl (fun e => .inr (by omega))⟩

set_option maxHeartbeats 400000 in
theorem drop_any (b : Nat) (F : Nat → Prop) (d : Dev) (w : World) (h : DevAt w b F d) : Calls Tryd.prog 33 #[.pointer (some ⟨b, 0, none⟩)] w fun e w' => e = .returned (.tuple #[]) ∧ DevAt w' b (fun k => F k ∨ k = w.heap.size) { d with pend := [] } ∧ Step F (fun k => F k ∨ k = w.heap.size) w w' := by
  obtain ⟨mb, nb, pv, av, Dn, h⟩ := h
  have c2 : w.cell? ⟨b, 2, none⟩ = some pv := h.cell 2
  have c3 : w.cell? ⟨b, 3, none⟩ = some (.map (some nb)) := h.cell 3
  have f2 := h.frozen 2
  have f3 := h.frozen 3
  have hmm := @run_makeMap Tryd.prog
  have hbw : b < w.heap.size := (Array.getElem?_eq_some_iff.1 h.blk).1
  have hb2 : (w.setCell ⟨b, 2, none⟩ (.slice none 0 0)).heap[b]? = some (.cells ((devCells d mb nb pv av).setIfInBounds 2 (.slice none 0 0)) 66 (0, 0)) := by
    unfold World.setCell
    simp only [Array.getElem?_modify, if_true]
    rw [h.blk]
    rfl
  have hb3 : ((w.setCell ⟨b, 2, none⟩ (.slice none 0 0)).alloc (.map #[] 0)).heap[b]? = some (.cells ((devCells d mb nb pv av).setIfInBounds 2 (.slice none 0 0)) 66 (0, 0)) :=
    ((below_new _ _).block b (by simpa [World.setCell] using hbw)).trans hb2
  have d3 : ((w.setCell ⟨b, 2, none⟩ (.slice none 0 0)).alloc (.map #[] 0)).cell? ⟨b, 3, none⟩ = some (.map (some nb)) := by rw [cell_of_row _ _ _ _ _ _ hb3]; rfl
  have g3 : ((w.setCell ⟨b, 2, none⟩ (.slice none 0 0)).alloc (.map #[] 0)).frozen? ⟨b, 3, none⟩ = false := by
    unfold World.frozen?
    rw [show ((w.setCell ⟨b, 2, none⟩ (.slice none 0 0)).alloc (.map #[] 0)).heap[(⟨b, 3, none⟩ : Addr).block]? = _ from hb3]
    simp
  clear hb2 hb3 c3 f3
  have HH : Hid _ := drop_body h
  clear h
  go_enter Tryd.func33, Tryd.ntmps33
  go_wp2
  go_end0
  exact ⟨rfl, HH.out⟩

theorem ext_take (t : ByteArray) (n : Nat) : t.extract 0 n = mkb ((bl t).take n) := bl_inj (by rw [bl_head, bl_mkb])
theorem take_all (t : ByteArray) (n : Nat) (h : t.size ≤ n) : t = mkb ((bl t).take n) := bl_inj (by rw [bl_mkb, List.take_of_length_le (by rw [bl_len]; exact h)])
theorem ret_str {s t : ByteArray} (h : s = t) : Ending.returned (.string s) = .returned (.string t) := by rw [h]
set_option maxHeartbeats 400000 in
theorem head_any (t : ByteArray) (n : Nat) (w : World) (hn : n ≤ 512) : Calls Tryd.prog 61 #[.string t, .int .i64 (n : Int)] w fun e w' => e = .returned (.string (mkb ((bl t).take n))) ∧ w = w' := by
  obtain ⟨r, hr⟩ : ∃ r, r = mkb ((bl t).take n) := ⟨_, rfl⟩
  rw [← hr]
  have HR : Hid (r = mkb ((bl t).take n)) := hr
  clear hr
  go_enter Tryd.func61, Tryd.ntmps61
  rcases Nat.lt_or_ge t.size n with h | h
  · have i1 : (t.size : Int) < (n : Int) := by omega
    go_wp2_with fail
    go_ret
    exact ⟨ret_str (by rw [HR.out]; exact take_all t n (by omega)), rfl⟩
  · have i1 : (n : Int) ≤ (t.size : Int) := by omega
    have i2 : (0 : Int) ≤ (n : Int) := by omega
    go_wp2_with fail
    all_goals go_ret
    all_goals exact ⟨ret_str (by rw [HR.out]; first | exact ext_take t n | exact take_all t n (by omega)), rfl⟩

end Go.Proofs.YtlopimdnjookeaaDoor.V
