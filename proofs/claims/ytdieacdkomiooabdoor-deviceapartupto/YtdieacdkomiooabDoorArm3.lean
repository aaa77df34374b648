import Derived.Test.YtdieacdkomiooabDoorArm2
import Derived.Deep.AppendSrc
namespace Go.Proofs.YtdieacdkomiooabDoor
open Go.RowKit Go.Maps

theorem Tryd.info130 : (Tryd.prog.info? 130).map (fun i => (i.zero, i.size, i.bytes)) = some (some (.agg #[.int .i64 0, .slice none 0 0]), 2, 32) := by kernel_rfl

/-- What an append to the arms leaves. -/
structure ArmStep (w w' : World) (F : Nat → Prop) (g : Nat) : Prop where
  os : w'.os = w.os
  tape : w'.tape = w.tape
  output : w'.output = w.output
  size : w.heap.size ≤ w'.heap.size
  block : ∀ k, k < w.heap.size → k ≠ g → w'.heap[k]? = w.heap[k]?
  at' : (g < w.heap.size → F g ∧ ∃ cur, w.heap[g]? = some (.cells cur 130 (0, 0)))
  lt : g < w'.heap.size

theorem pair_get {cs : List Value} {u0 u1 : Value} {n : Nat} (h : cs.length = n * 2) : (cs ++ [u0, u1])[n * 2]? = some u0 ∧ (cs ++ [u0, u1])[n * 2 + 1]? = some u1 := by
  constructor
  · rw [List.getElem?_append_right (by omega), h, Nat.sub_self]; rfl
  · rw [List.getElem?_append_right (by omega), h, show n * 2 + 1 - n * 2 = 1 by omega]; rfl

/-- The cells of arms, with where their fates lie. -/
def armCells (l : List Armed) (fv : List Value) : List Value := (l.zip fv).flatMap fun x => [.int .i64 x.1.after, x.2]
theorem armCells_len : ∀ (l : List Armed) (fv : List Value), fv.length = l.length → (armCells l fv).length = l.length * 2
  | [], _, _ => by simp [armCells]
  | a :: l, [], h => by simp at h
  | a :: l, f :: fv, h => by
    have := armCells_len l fv (by simpa using h)
    simp only [armCells, List.zip_cons_cons, List.flatMap_cons, List.length_append, List.length_cons, List.length_nil] at this ⊢
    omega
theorem armCells_get : ∀ (l : List Armed) (fv : List Value) (i : Nat) (h : i < l.length) (h' : i < fv.length), (armCells l fv)[i * 2]? = some (.int .i64 l[i].after) ∧ (armCells l fv)[i * 2 + 1]? = some fv[i]
  | [], _, _, h, _ => absurd h (by simp)
  | _ :: _, [], _, _, h' => absurd h' (by simp)
  | a :: l, f :: fv, 0, _, _ => ⟨rfl, rfl⟩
  | a :: l, f :: fv, i + 1, h, h' => by
    have := armCells_get l fv i (by simpa using h) (by simpa using h')
    simp only [List.getElem_cons_succ]
    rw [show (i + 1) * 2 = i * 2 + 2 by omega]
    exact this
theorem armCells_one : ∀ (l : List Armed) (fv : List Value) (i : Nat) (v : Value), (armCells l fv)[i]? = some v → ∃ k, i = k * 2 ∧ k < l.length ∧ k < fv.length ∨ i = k * 2 + 1 ∧ k < l.length ∧ k < fv.length
  | [], _, _, _, h => by simp [armCells] at h
  | _ :: _, [], _, _, h => by simp [armCells] at h
  | a :: l, f :: fv, 0, _, _ => ⟨0, .inl (by simp)⟩
  | a :: l, f :: fv, 1, _, _ => ⟨0, .inr (by simp)⟩
  | a :: l, f :: fv, i + 2, v, h => by
    obtain ⟨k, hk⟩ := armCells_one l fv i v h
    exact ⟨k + 1, by simp only [List.length_cons]; omega⟩

theorem add_mid' (b o j : Nat) : (⟨b, o, none⟩ : Addr).add j = ⟨b, o + j, none⟩ := by unfold Addr.add; split <;> simp_all

/-- One arm more. -/
theorem arm_append (ty : TypeId) (w : World) (v : Value) (l : List Armed) (F : Nat → Prop) (h : ArmsAt w F v l) (B n0 : Nat) (u0 : Int) (fs : List Fate) (u1 : Value) (hB : w.heap[B]? = some (.cells #[.int .i64 u0, u1] 130 (0, 0)))
    (hf : w.ownsRow n0 92 4 u1 fs.length (fateCells fs)) (h0 : n0 ≤ w.heap.size) (hn : (l.length + 1) * 32 ≤ 140737488355328) :
    ∃ g off cap w', (Builtin.append_ #[95, 95] ty #[v, .slice (some ⟨B, 0, none⟩) 1 1]).run Tryd.prog w = .ok (.slice (some ⟨g, off, none⟩) (l.length + 1) cap) w' ∧
      ArmsAt w' (fun k => F k ∨ (n0 ≤ k ∧ k < w'.heap.size)) (.slice (some ⟨g, off, none⟩) (l.length + 1) cap) (l ++ [⟨u0, fs⟩]) ∧ ArmStep w w' F g := by
  obtain ⟨i0, hi, hz0, hz1, hz2⟩ := info_parts Tryd.info130
  have hun : Tryd.prog.underlying 95 = some (.slice 130) := Tryd.underlying95
  obtain ⟨fa, fc, rfl, -⟩ := owns_form hf
  have hs : ∀ W : World, W.heap[B]? = some (.cells #[Value.int .i64 u0, Value.slice fa fs.length fc] 130 (0, 0)) → Src Tryd.prog i0.size 95 (.slice (some ⟨B, 0, none⟩) 1 1) 1 [Value.int .i64 u0, Value.slice fa fs.length fc] W := fun W hW => Src.ofSlice W hun ⟨B, 0, none⟩ 1 1 _ (by rw [hz1]; rfl) (World.news_of_block hW) (by intro u hu; simp at hu; rcases hu with rfl | rfl <;> rfl)
  have hblk : ∀ k cur e, w.heap[k]? = some (Obj.cells cur e (0, 0)) → k < w.heap.size := fun k cur e hk => (Array.getElem?_eq_some_iff.1 hk).1
  -- what a new row gives
  have grow : ∀ (bs : Option Addr) (sc : Nat) (fv : List Value), v = .slice bs l.length sc → sc < l.length + 1 → fv.length = l.length →
      (∀ i (h : i < l.length) (h' : i < fv.length), w.ownsRow 0 92 4 fv[i] l[i].fates.length (fateCells l[i].fates) ∧ ∀ k, fv[i].ownBlock = some k → F k) →
      (Builtin.firstCells i0.size l.length (.slice bs l.length sc)).run Tryd.prog w.drew = .ok (armCells l fv).toArray w.drew →
      ∃ g off cap w', (Builtin.append_ #[95, 95] ty #[v, .slice (some ⟨B, 0, none⟩) 1 1]).run Tryd.prog w = .ok (.slice (some ⟨g, off, none⟩) (l.length + 1) cap) w' ∧
      ArmsAt w' (fun k => F k ∨ (n0 ≤ k ∧ k < w'.heap.size)) (.slice (some ⟨g, off, none⟩) (l.length + 1) cap) (l ++ [⟨u0, fs⟩]) ∧ ArmStep w w' F g := by
    rintro bs sc fv rfl hsc hfl hfr hold
    have hrun := run_append_grow_src (P := Tryd.prog) w 95 95 ty 130 i0 (.agg #[.int .i64 0, .slice none 0 0]) hun hi hz0 bs l.length sc (armCells l fv) hold (.slice (some ⟨B, 0, none⟩) 1 1) 1 _ (hs w hB) hsc (by omega) (growslice_fits hsc (by rw [hz2]; exact hn))
    have hge := grownCap_ge w (l.length + 1) sc 130
    have hcm := grownCap_le_maxLen w (l.length + 1) sc 130 (by unfold maxLen; omega)
    refine ⟨w.heap.size, 0, _, _, hrun, ?_, ⟨rfl, rfl, rfl, by simp, fun k hk _ => Below.heap_alloc w.drew _ k hk, fun h => absurd h (Nat.lt_irrefl _), by simp⟩⟩
    have hal := armCells_len l fv hfl
    have hnew : (w.drew.alloc (.cells ((armCells l fv ++ [Value.int .i64 u0, Value.slice fa fs.length fc]).toArray ++ Builtin.zeroCells (Value.agg #[.int .i64 0, .slice none 0 0]).cells (grownCap w (l.length + 1) sc 130 - (l.length + 1))) 130)).heap[w.heap.size]? = some (.cells ((armCells l fv ++ [Value.int .i64 u0, Value.slice fa fs.length fc]).toArray ++ Builtin.zeroCells (Value.agg #[.int .i64 0, .slice none 0 0]).cells (grownCap w (l.length + 1) sc 130 - (l.length + 1))) 130 (0, 0)) := heap_alloc_new w.drew _
    have hold2 : ∀ k, k < w.heap.size → (w.drew.alloc (.cells ((armCells l fv ++ [Value.int .i64 u0, Value.slice fa fs.length fc]).toArray ++ Builtin.zeroCells (Value.agg #[.int .i64 0, .slice none 0 0]).cells (grownCap w (l.length + 1) sc 130 - (l.length + 1))) 130)).heap[k]? = w.heap[k]? := fun k hk => Below.heap_alloc w.drew _ k hk
    generalize hW : w.drew.alloc (.cells ((armCells l fv ++ [Value.int .i64 u0, Value.slice fa fs.length fc]).toArray ++ Builtin.zeroCells (Value.agg #[.int .i64 0, .slice none 0 0]).cells (grownCap w (l.length + 1) sc 130 - (l.length + 1))) 130) = W' at hnew hold2 ⊢
    have hsz : w.heap.size < W'.heap.size := (Array.getElem?_eq_some_iff.1 hnew).1
    refine .inr ⟨w.heap.size, 0, _, _, fv ++ [.slice fa fs.length fc], by simp, .inr ⟨h0, hsz⟩, hnew, by simpa using hge, hcm, ?_, by simp [hfl], fun i hi1 hi2 => ?_⟩
    · rw [Array.size_append, List.size_toArray, List.length_append, hal, size_zeroCells]
      simp [Value.cells]
      omega
    · have hcell : ∀ j u, (armCells l fv ++ [Value.int .i64 u0, Value.slice fa fs.length fc])[j]? = some u → ((armCells l fv ++ [Value.int .i64 u0, Value.slice fa fs.length fc]).toArray ++ Builtin.zeroCells (Value.agg #[.int .i64 0, .slice none 0 0]).cells (grownCap w (l.length + 1) sc 130 - (l.length + 1)))[j]? = some u := fun j u hj => by
        rw [Array.getElem?_append_left (by rw [List.size_toArray]; exact (List.getElem?_eq_some_iff.1 hj).1), List.getElem?_toArray]
        exact hj
      rw [Nat.zero_add, List.length_append, List.length_singleton] at *
      by_cases hil : i < l.length
      · obtain ⟨q0, q1⟩ := armCells_get l fv i hil (by omega)
        obtain ⟨q2, q3⟩ := hfr i hil (by omega)
        rw [List.getElem_append_left hil, List.getElem_append_left (by omega)]
        refine ⟨hcell _ _ (by rw [List.getElem?_append_left (by omega)]; exact q0), hcell _ _ (by rw [List.getElem?_append_left (by omega)]; exact q1), owns_block q2 fun k hk => ?_, fun k hk => .inl (q3 k hk)⟩
        obtain ⟨_, hlt, _⟩ := owns_blk q2 k hk
        exact hold2 k hlt
      · obtain rfl : i = l.length := by (try simp at hi1); omega
        rw [List.getElem_append_right (by omega), List.getElem_append_right (by omega)]
        simp only [Nat.sub_self, hfl, List.getElem_singleton]
        obtain ⟨p0, p1⟩ := pair_get (u0 := .int .i64 u0) (u1 := .slice fa fs.length fc) hal
        refine ⟨hcell _ _ p0, hcell _ _ p1, ?_, fun k hk => ?_⟩
        · have := owns_block hf (w' := W') fun k hk => hold2 k (owns_blk hf k hk).2.1
          exact ⟨this.1, this.2.imp id fun ⟨g, cap, cur, r1, _, r3⟩ => ⟨g, cap, cur, r1, Nat.zero_le _, r3⟩⟩
        · obtain ⟨r1, r2, _⟩ := owns_blk hf k hk
          exact .inr ⟨r1, by omega⟩
  rcases h with ⟨rfl, rfl⟩ | ⟨g, off, cap, cur, fv, rfl, hFg, hg, hl, hc, hsz, hfv, hall⟩
  · exact grow none 0 [] rfl (by simp) rfl (fun i h => absurd h (by simp)) (by simpa [armCells] using run_firstCells_none w.drew i0.size 0 0 0)
  · by_cases hroom : l.length + 1 ≤ cap
    · have hgl := hblk g cur _ hg
      have hrun := run_append_room_src (P := Tryd.prog) w 95 95 ty 130 i0 hun hi g off l.length cap (.slice (some ⟨B, 0, none⟩) 1 1) 1 _ (hs w hB) hroom
        (fun j hj => by
          rw [hz1, cell_of_row w g _ _ _ _ hg, Array.getElem?_eq_getElem (by simp at hj; omega)]; rfl)
        (fun j _ => frozen_cells hg)
      rw [hz1] at hrun
      have hg2 : (w.setCells g (off + l.length * 2) [Value.int .i64 u0, Value.slice fa fs.length fc]).heap[g]? = some (.cells ((cur.setIfInBounds (off + l.length * 2) (.int .i64 u0)).setIfInBounds (off + l.length * 2 + 1) (.slice fa fs.length fc)) 130 (0, 0)) := set_cells (set_cells hg)
      have hk2 : ∀ k, k ≠ g → (w.setCells g (off + l.length * 2) [Value.int .i64 u0, Value.slice fa fs.length fc]).heap[k]? = w.heap[k]? := fun k hk => (set_other hk).trans (set_other hk)
      have hz2' : (w.setCells g (off + l.length * 2) [Value.int .i64 u0, Value.slice fa fs.length fc]).heap.size = w.heap.size := set_size.trans set_size
      refine ⟨g, off, cap, _, hrun, ?_, ⟨rfl, rfl, rfl, by omega, fun k _ hk => hk2 k hk, fun _ => ⟨hFg, cur, hg⟩, by omega⟩⟩
      generalize w.setCells g (off + l.length * 2) [Value.int .i64 u0, Value.slice fa fs.length fc] = W' at hg2 hk2 hz2' ⊢
      refine .inr ⟨g, off, cap, _, fv ++ [.slice fa fs.length fc], by simp, .inl hFg, hg2, by simpa using hroom, hc, by simpa using hsz, by simp [hfv], fun i hi1 hi2 => ?_⟩
      have hrow : ∀ {b' v' n xs}, w.ownsRow b' 92 4 v' n xs → W'.ownsRow 0 92 4 v' n xs := fun {b' v' n xs} q2 => by
        have := owns_block q2 (w' := W') fun k hk => by
          obtain ⟨_, _, c, hc'⟩ := owns_blk q2 k hk
          exact hk2 k (fun e => by rw [e, hg] at hc'; simp at hc')
        exact ⟨this.1, this.2.imp id fun ⟨g, cap, cur, r1, _, r3⟩ => ⟨g, cap, cur, r1, Nat.zero_le _, r3⟩⟩
      by_cases hil : i < l.length
      · obtain ⟨q0, q1, q2, q3⟩ := hall i hil (by omega)
        rw [List.getElem_append_left hil, List.getElem_append_left (by omega)]
        refine ⟨?_, ?_, hrow q2, fun k hk => .inl (q3 k hk)⟩
        · rw [Array.getElem?_setIfInBounds_ne (by omega), Array.getElem?_setIfInBounds_ne (by omega)]; exact q0
        · rw [Array.getElem?_setIfInBounds_ne (by omega), Array.getElem?_setIfInBounds_ne (by omega)]; exact q1
      · obtain rfl : i = l.length := by (try simp at hi1); omega
        rw [List.getElem_append_right (by omega), List.getElem_append_right (by omega)]
        simp only [Nat.sub_self, hfv, List.getElem_singleton]
        refine ⟨?_, ?_, hrow hf, fun k hk => ?_⟩
        · rw [Array.getElem?_setIfInBounds_ne (by omega), Array.getElem?_setIfInBounds_self_of_lt (by omega)]
        · rw [Array.getElem?_setIfInBounds_self_of_lt (by simp; omega)]
        · obtain ⟨r1, r2, _⟩ := owns_blk hf k hk
          exact .inr ⟨r1, by omega⟩
    · refine grow (some ⟨g, off, none⟩) cap fv rfl (by omega) hfv (fun i h h' => ⟨(hall i h h').2.2.1, (hall i h h').2.2.2⟩) ?_
      refine run_firstCells_some w.drew i0.size l.length ⟨g, off, none⟩ l.length cap (armCells l fv) (by rw [armCells_len l fv hfv, hz1]) fun j u hj => ?_
      rw [add_mid']
      have : w.drew.cell? ⟨g, off + j, none⟩ = cur[off + j]? := cell_of_row w.drew g _ _ _ _ hg
      rw [this]
      rcases armCells_one l fv j u hj with ⟨k, ⟨rfl, k1, k2⟩ | ⟨rfl, k1, k2⟩⟩
      · rw [(armCells_get l fv k k1 k2).1] at hj
        rw [← hj]; exact (hall k k1 k2).1
      · rw [(armCells_get l fv k k1 k2).2] at hj
        rw [← hj]; exact (hall k k1 k2).2.1

end Go.Proofs.YtdieacdkomiooabDoor
