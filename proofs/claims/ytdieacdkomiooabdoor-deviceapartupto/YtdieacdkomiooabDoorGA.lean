import Derived.Test.YtdieacdkomiooabDoorGD
import Derived.Deep.QuietTactic
import Derived.BigQuiet
import Derived.Deep.AppendSrc
import Derived.Deep.RegionLaw
import Derived.Lib.AppendStr
namespace Go.Proofs.YtdieacdkomiooabDoor
open Go.RowKit Go.Maps

/-- The arms, in a row that may begin behind some that are gone. -/
def RArmsAt (w : World) (F : Nat → Prop) (v : Value) (l : List Armed) : Prop :=
  (l = [] ∧ v = .slice none 0 0) ∨ ∃ g off cap cur, ∃ fv : List Value, v = .slice (some ⟨g, off, none⟩) l.length cap ∧ F g ∧ w.heap[g]? = some (.cells cur 138 (0, 0)) ∧ l.length ≤ cap ∧ cap ≤ maxLen ∧ off + cap * 2 ≤ cur.size ∧ fv.length = l.length ∧
    ∀ i (h : i < l.length) (h' : i < fv.length), cur[off + i * 2]? = some (.int .i64 l[i].after) ∧ cur[off + i * 2 + 1]? = some fv[i] ∧ w.ownsRow 0 92 4 fv[i] l[i].fates.length (fateCells l[i].fates) ∧ ∀ k, fv[i].ownBlock = some k → F k
theorem RArmsAt.block {w w' : World} {F : Nat → Prop} {v : Value} {l : List Armed} (h : RArmsAt w F v l) (hb : ∀ k cur, w.heap[k]? = some (.cells cur 138 (0, 0)) ∨ w.heap[k]? = some (.cells cur 92 (0, 0)) → F k → w'.heap[k]? = w.heap[k]?) : RArmsAt w' F v l := by
  rcases h with h | ⟨g, off, cap, cur, fv, h1, h2, h3, h4, h5, h6, h7, h8⟩
  · exact .inl h
  · refine .inr ⟨g, off, cap, cur, fv, h1, h2, (hb g cur (.inl h3) h2).trans h3, h4, h5, h6, h7, fun i h h' => ?_⟩
    obtain ⟨k1, k2, k3, k4⟩ := h8 i h h'
    refine ⟨k1, k2, owns_block k3 fun k hk => ?_, k4⟩
    obtain ⟨_, _, c, hc⟩ := owns_blk k3 k hk
    exact hb k c (.inr hc) (k4 k hk)
theorem RArmsAt.imp {w : World} {F G : Nat → Prop} {v : Value} {l : List Armed} (h : RArmsAt w F v l) (hf : ∀ k, F k → G k) : RArmsAt w G v l := by
  rcases h with h | ⟨g, off, cap, cur, fv, h1, h2, h3, h4, h5, h6, h7, h8⟩
  · exact .inl h
  · exact .inr ⟨g, off, cap, cur, fv, h1, hf g h2, h3, h4, h5, h6, h7, fun i h h' => ⟨(h8 i h h').1, (h8 i h h').2.1, (h8 i h h').2.2.1, fun k hk => hf k ((h8 i h h').2.2.2 k hk)⟩⟩
theorem Tryd.info138 : (Tryd.prog.info? 138).map (fun i => (i.zero, i.size, i.bytes)) = some (some (.agg #[.int .i64 0, .slice none 0 0]), 2, 32) := by kernel_rfl

/-- What an append to the arms leaves. -/
structure RArmStep (w w' : World) (F : Nat → Prop) (g : Nat) : Prop where
  os : w'.os = w.os
  tape : w'.tape = w.tape
  output : w'.output = w.output
  size : w.heap.size ≤ w'.heap.size
  block : ∀ k, k < w.heap.size → k ≠ g → w'.heap[k]? = w.heap[k]?
  at' : (g < w.heap.size → F g ∧ ∃ cur, w.heap[g]? = some (.cells cur 138 (0, 0)))
  lt : g < w'.heap.size

/-- One arm more. -/
theorem rarm_append (ty : TypeId) (w : World) (v : Value) (l : List Armed) (F : Nat → Prop) (h : RArmsAt w F v l) (B n0 : Nat) (u0 : Int) (fs : List Fate) (u1 : Value) (hB : w.heap[B]? = some (.cells #[.int .i64 u0, u1] 138 (0, 0)))
    (hf : w.ownsRow n0 92 4 u1 fs.length (fateCells fs)) (h0 : n0 ≤ w.heap.size) (hn : (l.length + 1) * 32 ≤ 140737488355328) :
    ∃ g off cap w', (Builtin.append_ #[110, 110] ty #[v, .slice (some ⟨B, 0, none⟩) 1 1]).run Tryd.prog w = .ok (.slice (some ⟨g, off, none⟩) (l.length + 1) cap) w' ∧
      RArmsAt w' (fun k => F k ∨ (n0 ≤ k ∧ k < w'.heap.size)) (.slice (some ⟨g, off, none⟩) (l.length + 1) cap) (l ++ [⟨u0, fs⟩]) ∧ RArmStep w w' F g := by
  obtain ⟨i0, hi, hz0, hz1, hz2⟩ := info_parts Tryd.info138
  have hun : Tryd.prog.underlying 110 = some (.slice 138) := Tryd.underlying110
  obtain ⟨fa, fc, rfl, -⟩ := owns_form hf
  have hs : ∀ W : World, W.heap[B]? = some (.cells #[Value.int .i64 u0, Value.slice fa fs.length fc] 138 (0, 0)) → Src Tryd.prog i0.size 110 (.slice (some ⟨B, 0, none⟩) 1 1) 1 [Value.int .i64 u0, Value.slice fa fs.length fc] W := fun W hW => Src.ofSlice W hun ⟨B, 0, none⟩ 1 1 _ (by rw [hz1]; rfl) (World.news_of_block hW) (by intro u hu; simp at hu; rcases hu with rfl | rfl <;> rfl)
  have hblk : ∀ k cur e, w.heap[k]? = some (Obj.cells cur e (0, 0)) → k < w.heap.size := fun k cur e hk => (Array.getElem?_eq_some_iff.1 hk).1
  -- what a new row gives
  have grow : ∀ (bs : Option Addr) (sc : Nat) (fv : List Value), v = .slice bs l.length sc → sc < l.length + 1 → fv.length = l.length →
      (∀ i (h : i < l.length) (h' : i < fv.length), w.ownsRow 0 92 4 fv[i] l[i].fates.length (fateCells l[i].fates) ∧ ∀ k, fv[i].ownBlock = some k → F k) →
      (Builtin.firstCells i0.size l.length (.slice bs l.length sc)).run Tryd.prog w.drew = .ok (armCells l fv).toArray w.drew →
      ∃ g off cap w', (Builtin.append_ #[110, 110] ty #[v, .slice (some ⟨B, 0, none⟩) 1 1]).run Tryd.prog w = .ok (.slice (some ⟨g, off, none⟩) (l.length + 1) cap) w' ∧
      RArmsAt w' (fun k => F k ∨ (n0 ≤ k ∧ k < w'.heap.size)) (.slice (some ⟨g, off, none⟩) (l.length + 1) cap) (l ++ [⟨u0, fs⟩]) ∧ RArmStep w w' F g := by
    rintro bs sc fv rfl hsc hfl hfr hold
    have hrun := run_append_grow_src (P := Tryd.prog) w 110 110 ty 138 i0 (.agg #[.int .i64 0, .slice none 0 0]) hun hi hz0 bs l.length sc (armCells l fv) hold (.slice (some ⟨B, 0, none⟩) 1 1) 1 _ (hs w hB) hsc (by omega) (growslice_fits hsc (by rw [hz2]; exact hn))
    have hge := grownCap_ge w (l.length + 1) sc 138
    have hcm := grownCap_le_maxLen w (l.length + 1) sc 138 (by unfold maxLen; omega)
    refine ⟨w.heap.size, 0, _, _, hrun, ?_, ⟨rfl, rfl, rfl, by simp, fun k hk _ => Below.heap_alloc w.drew _ k hk, fun h => absurd h (Nat.lt_irrefl _), by simp⟩⟩
    have hal := armCells_len l fv hfl
    have hnew : (w.drew.alloc (.cells ((armCells l fv ++ [Value.int .i64 u0, Value.slice fa fs.length fc]).toArray ++ Builtin.zeroCells (Value.agg #[.int .i64 0, .slice none 0 0]).cells (grownCap w (l.length + 1) sc 138 - (l.length + 1))) 138)).heap[w.heap.size]? = some (.cells ((armCells l fv ++ [Value.int .i64 u0, Value.slice fa fs.length fc]).toArray ++ Builtin.zeroCells (Value.agg #[.int .i64 0, .slice none 0 0]).cells (grownCap w (l.length + 1) sc 138 - (l.length + 1))) 138 (0, 0)) := heap_alloc_new w.drew _
    have hold2 : ∀ k, k < w.heap.size → (w.drew.alloc (.cells ((armCells l fv ++ [Value.int .i64 u0, Value.slice fa fs.length fc]).toArray ++ Builtin.zeroCells (Value.agg #[.int .i64 0, .slice none 0 0]).cells (grownCap w (l.length + 1) sc 138 - (l.length + 1))) 138)).heap[k]? = w.heap[k]? := fun k hk => Below.heap_alloc w.drew _ k hk
    generalize hW : w.drew.alloc (.cells ((armCells l fv ++ [Value.int .i64 u0, Value.slice fa fs.length fc]).toArray ++ Builtin.zeroCells (Value.agg #[.int .i64 0, .slice none 0 0]).cells (grownCap w (l.length + 1) sc 138 - (l.length + 1))) 138) = W' at hnew hold2 ⊢
    have hsz : w.heap.size < W'.heap.size := (Array.getElem?_eq_some_iff.1 hnew).1
    refine .inr ⟨w.heap.size, 0, _, _, fv ++ [.slice fa fs.length fc], by simp, .inr ⟨h0, hsz⟩, hnew, by simpa using hge, hcm, ?_, by simp [hfl], fun i hi1 hi2 => ?_⟩
    · rw [Array.size_append, List.size_toArray, List.length_append, hal, size_zeroCells]
      simp [Value.cells]
      omega
    · have hcell : ∀ j u, (armCells l fv ++ [Value.int .i64 u0, Value.slice fa fs.length fc])[j]? = some u → ((armCells l fv ++ [Value.int .i64 u0, Value.slice fa fs.length fc]).toArray ++ Builtin.zeroCells (Value.agg #[.int .i64 0, .slice none 0 0]).cells (grownCap w (l.length + 1) sc 138 - (l.length + 1)))[j]? = some u := fun j u hj => by
        rw [Array.getElem?_append_left (by rw [List.size_toArray]; exact (List.getElem?_eq_some_iff.1 hj).1), List.getElem?_toArray]
        exact hj
      rw [Nat.zero_add, List.length_append, List.length_singleton] at *
      by_cases hil : i < l.length
      · obtain ⟨q0, q1⟩ := armCells_get l fv i hil (by omega)
        obtain ⟨q2, q3⟩ := hfr i hil (by omega)
        rw [List.getElem_append_left hil, List.getElem_append_left (by omega)]
        refine ⟨hcell _ _ (by rw [List.getElem?_append_left (by omega)]; exact q0), hcell _ _ (by rw [List.getElem?_append_left (by omega)]; exact q1), owns_block q2 fun k hk => ?_, fun k hk => .inl (q3 k hk)⟩
        obtain ⟨_, hlt, _⟩ := owns_blk q2 k hk
        exact hold2 k hlt
      · obtain rfl : i = l.length := by (try simp at hi1); omega
        rw [List.getElem_append_right (by omega), List.getElem_append_right (by omega)]
        simp only [Nat.sub_self, hfl, List.getElem_singleton]
        obtain ⟨p0, p1⟩ := pair_get (u0 := .int .i64 u0) (u1 := .slice fa fs.length fc) hal
        refine ⟨hcell _ _ p0, hcell _ _ p1, ?_, fun k hk => ?_⟩
        · have := owns_block hf (w' := W') fun k hk => hold2 k (owns_blk hf k hk).2.1
          exact ⟨this.1, this.2.imp id fun ⟨g, cap, cur, r1, _, r3⟩ => ⟨g, cap, cur, r1, Nat.zero_le _, r3⟩⟩
        · obtain ⟨r1, r2, _⟩ := owns_blk hf k hk
          exact .inr ⟨r1, by omega⟩
  rcases h with ⟨rfl, rfl⟩ | ⟨g, off, cap, cur, fv, rfl, hFg, hg, hl, hc, hsz, hfv, hall⟩
  · exact grow none 0 [] rfl (by simp) rfl (fun i h => absurd h (by simp)) (by simpa [armCells] using run_firstCells_none w.drew i0.size 0 0 0)
  · by_cases hroom : l.length + 1 ≤ cap
    · have hgl := hblk g cur _ hg
      have hrun := run_append_room_src (P := Tryd.prog) w 110 110 ty 138 i0 hun hi g off l.length cap (.slice (some ⟨B, 0, none⟩) 1 1) 1 _ (hs w hB) hroom
        (fun j hj => by
          rw [hz1, cell_of_row w g _ _ _ _ hg, Array.getElem?_eq_getElem (by simp at hj; omega)]; rfl)
        (fun j _ => frozen_cells hg)
      rw [hz1] at hrun
      have hg2 : (w.setCells g (off + l.length * 2) [Value.int .i64 u0, Value.slice fa fs.length fc]).heap[g]? = some (.cells ((cur.setIfInBounds (off + l.length * 2) (.int .i64 u0)).setIfInBounds (off + l.length * 2 + 1) (.slice fa fs.length fc)) 138 (0, 0)) := set_cells (set_cells hg)
      have hk2 : ∀ k, k ≠ g → (w.setCells g (off + l.length * 2) [Value.int .i64 u0, Value.slice fa fs.length fc]).heap[k]? = w.heap[k]? := fun k hk => (set_other hk).trans (set_other hk)
      have hz2' : (w.setCells g (off + l.length * 2) [Value.int .i64 u0, Value.slice fa fs.length fc]).heap.size = w.heap.size := set_size.trans set_size
      refine ⟨g, off, cap, _, hrun, ?_, ⟨rfl, rfl, rfl, by omega, fun k _ hk => hk2 k hk, fun _ => ⟨hFg, cur, hg⟩, by omega⟩⟩
      generalize w.setCells g (off + l.length * 2) [Value.int .i64 u0, Value.slice fa fs.length fc] = W' at hg2 hk2 hz2' ⊢
      refine .inr ⟨g, off, cap, _, fv ++ [.slice fa fs.length fc], by simp, .inl hFg, hg2, by simpa using hroom, hc, by simpa using hsz, by simp [hfv], fun i hi1 hi2 => ?_⟩
      have hrow : ∀ {b' v' n xs}, w.ownsRow b' 92 4 v' n xs → W'.ownsRow 0 92 4 v' n xs := fun {b' v' n xs} q2 => by
        have := owns_block q2 (w' := W') fun k hk => by
          obtain ⟨_, _, c, hc'⟩ := owns_blk q2 k hk
          exact hk2 k (fun e => by rw [e, hg] at hc'; simp at hc')
        exact ⟨this.1, this.2.imp id fun ⟨g, cap, cur, r1, _, r3⟩ => ⟨g, cap, cur, r1, Nat.zero_le _, r3⟩⟩
      by_cases hil : i < l.length
      · obtain ⟨q0, q1, q2, q3⟩ := hall i hil (by omega)
        rw [List.getElem_append_left hil, List.getElem_append_left (by omega)]
        refine ⟨?_, ?_, hrow q2, fun k hk => .inl (q3 k hk)⟩
        · rw [Array.getElem?_setIfInBounds_ne (by omega), Array.getElem?_setIfInBounds_ne (by omega)]; exact q0
        · rw [Array.getElem?_setIfInBounds_ne (by omega), Array.getElem?_setIfInBounds_ne (by omega)]; exact q1
      · obtain rfl : i = l.length := by (try simp at hi1); omega
        rw [List.getElem_append_right (by omega), List.getElem_append_right (by omega)]
        simp only [Nat.sub_self, hfv, List.getElem_singleton]
        refine ⟨?_, ?_, hrow hf, fun k hk => ?_⟩
        · rw [Array.getElem?_setIfInBounds_ne (by omega), Array.getElem?_setIfInBounds_self_of_lt (by omega)]
        · rw [Array.getElem?_setIfInBounds_self_of_lt (by simp; omega)]
        · obtain ⟨r1, r2, _⟩ := owns_blk hf k hk
          exact .inr ⟨r1, by omega⟩
    · refine grow (some ⟨g, off, none⟩) cap fv rfl (by omega) hfv (fun i h h' => ⟨(hall i h h').2.2.1, (hall i h h').2.2.2⟩) ?_
      refine run_firstCells_some w.drew i0.size l.length ⟨g, off, none⟩ l.length cap (armCells l fv) (by rw [armCells_len l fv hfv, hz1]) fun j u hj => ?_
      rw [add_mid']
      have : w.drew.cell? ⟨g, off + j, none⟩ = cur[off + j]? := cell_of_row w.drew g _ _ _ _ hg
      rw [this]
      rcases armCells_one l fv j u hj with ⟨k, ⟨rfl, k1, k2⟩ | ⟨rfl, k1, k2⟩⟩
      · rw [(armCells_get l fv k k1 k2).1] at hj
        rw [← hj]; exact (hall k k1 k2).1
      · rw [(armCells_get l fv k k1 k2).2] at hj
        rw [← hj]; exact (hall k k1 k2).2.1


theorem step_append_rarm {ops : Array Oper} {o : Oper} {a : Act} {K : Act → World → Prop} {Q : Exit → Act → World → Prop} {E : Prop} (w : World) (hgd : o.guard = none) (s x : Operand)
    (ho : o.op = .call { callee := .builtin .append, args := #[s, x], argTypes := #[110, 110] })
    (v : Value) (l : List Armed) (F : Nat → Prop) (hs : a.eval s = v) (h : RArmsAt w F v l) (B n0 : Nat) (u0 : Int) (fs : List Fate) (u1 : Value) (hx : a.eval x = .slice (some ⟨B, 0, none⟩) 1 1) (hB : w.heap[B]? = some (.cells #[.int .i64 u0, u1] 138 (0, 0)))
    (hf : w.ownsRow n0 92 4 u1 fs.length (fateCells fs)) (h0 : n0 ≤ w.heap.size) (hn : (l.length + 1) * 32 ≤ 140737488355328)
    (hK : ∀ g off cap w', RArmsAt w' (fun k => F k ∨ (n0 ≤ k ∧ k < w'.heap.size)) (.slice (some ⟨g, off, none⟩) (l.length + 1) cap) (l ++ [⟨u0, fs⟩]) → RArmStep w w' F g → K (a.put o.dst (.slice (some ⟨g, off, none⟩) (l.length + 1) cap)) w') :
    if Region.wanted o (yielded ops a.tmps) = true then Oper.wp Tryd.prog o a w K Q else E := by
  have hw : Region.wanted o (yielded ops a.tmps) = true := by simp [Region.wanted, hgd]
  rw [if_pos hw]
  obtain ⟨g, off, cap, w', hr, h2, h3⟩ := rarm_append o.type w v l F h B n0 u0 fs u1 hB hf h0 hn
  unfold Oper.wp execOp
  simp only [ho, resolve, invoke, builtin, Sem.run_bind, Sem.run_pure, Result.andThen_ok, List.map_toArray, List.map_cons, List.map_nil, hs, hx, hr]
  exact hK g off cap w' h2 h3

theorem RArmStep.after {w wa w2 : World} {F : Nat → Prop} {g : Nat} (hb : Below w.heap.size w wa) (h : RArmStep wa w2 F g) : RArmStep w w2 F g :=
  ⟨h.os.trans hb.os, h.tape.trans hb.tape, h.output.trans hb.output, Nat.le_trans hb.size h.size, fun k hk hn => (h.block k (Nat.lt_of_lt_of_le hk hb.size) hn).trans (hb.block k hk),
    fun hg => by
      obtain ⟨h1, cur, h2⟩ := h.at' (Nat.lt_of_lt_of_le hg hb.size)
      exact ⟨h1, cur, (hb.block g hg).symm.trans h2⟩, h.lt⟩
theorem RArmsAt.below {w w' : World} {F : Nat → Prop} {v : Value} {l : List Armed} (h : RArmsAt w F v l) (hb : ∀ k, F k → w'.heap[k]? = w.heap[k]?) : RArmsAt w' F v l := h.block fun k _ _ hk => hb k hk


end Go.Proofs.YtdieacdkomiooabDoor

namespace Go.Proofs.YtdieacdkomiooabDoor
open Go.RowKit Go.Maps

/-- The document's device, whole: its rows apart, what was torn (nothing reads it), its arms. -/
structure RFul (w : World) (b : Nat) (F : Nat → Prop) (d : Dev) (T : Nat) (tv lv pv av : Value) : Prop where
  body : RBody w b F d tv lv pv av
  tears : ∃ cs, w.ownsRow 0 160 4 tv T cs
  tf : ∀ g, tv.ownBlock = some g → F g
  arms : RArmsAt w F av d.arms
  apart : ∀ g, lv.ownBlock = some g → pv.ownBlock ≠ some g
  ok : d.Ok
def RAll (w : World) (b : Nat) (F : Nat → Prop) (d : Dev) (T : Nat) : Prop := ∃ tv lv pv av, RFul w b F d T tv lv pv av
theorem RAll.at' {w : World} {b : Nat} {F : Nat → Prop} {d : Dev} {T : Nat} (h : RAll w b F d T) : RAt w b F d := by
  obtain ⟨tv, lv, pv, av, h⟩ := h
  exact ⟨tv, lv, pv, av, h.body⟩
theorem RAll.keep {w w' : World} {b : Nat} {F G G' : Nat → Prop} {d : Dev} {T : Nat} (h : RAll w b F d T) (hs : Step G G' w w') (hn : ∀ k, F k → ¬ G k) : RAll w' b F d T := by
  obtain ⟨tv, lv, pv, av, h⟩ := h
  have hk : ∀ k, F k → w'.heap[k]? = w.heap[k]? := fun k hf => hs.block k (h.body.lt k hf) (hn k hf)
  obtain ⟨cs, hc⟩ := h.tears
  exact ⟨tv, lv, pv, av, ⟨(hk b h.body.fb).trans h.body.blk, h.body.fb, owns_block h.body.last (fun g hg => hk g (h.body.lf g hg)), h.body.lf, owns_block h.body.pend (fun g hg => hk g (h.body.pf g hg)), h.body.pf, fun k hf => Nat.lt_of_lt_of_le (h.body.lt k hf) hs.size⟩,
    ⟨cs, owns_block hc (fun g hg => hk g (h.tf g hg))⟩, h.tf, h.arms.block (fun k _ _ hf => hk k hf), h.apart, h.ok⟩
theorem RAll.below {w w' : World} {b : Nat} {F : Nat → Prop} {d : Dev} {T : Nat} (h : RAll w b F d T) (hs : Below w.heap.size w w') : RAll w' b F d T := h.keep (Step.of_below (F := fun _ => False) hs) (fun _ _ h => h)
/-- Only the device's own cells are turned: size, dead, the counts. -/
def OnlyAt (b : Nat) (w w' : World) : Prop := Step (fun k => k = b) (fun k => k = b ∨ (w.heap.size ≤ k ∧ k < w'.heap.size)) w w'
theorem RFul.cells {w w' : World} {b : Nat} {F : Nat → Prop} {d d' : Dev} {T : Nat} {tv lv pv av : Value} (h : RFul w b F d T tv lv pv av) (hs : ∀ k, k < w.heap.size → k ≠ b → w'.heap[k]? = w.heap[k]?) (hb : RBody w' b F d' tv lv pv av) (ha : d'.arms = d.arms) (ho : d'.Ok) : RFul w' b F d' T tv lv pv av := by
  obtain ⟨cs, hc⟩ := h.tears
  have har : RArmsAt w' F av d.arms := h.arms.block fun k cur hk hf => by
    refine hs k (h.body.lt k hf) (fun e => ?_)
    rw [e, h.body.blk] at hk
    simp at hk
  refine ⟨hb, ⟨cs, owns_block hc fun g hg => ?_⟩, h.tf, by rw [ha]; exact har, h.apart, ho⟩
  · obtain ⟨_, hlt, c, hc'⟩ := owns_blk hc g hg
    exact hs g hlt (fun e => by rw [e, h.body.blk] at hc'; simp at hc')
theorem rnewAll_any (n : Int) (w : World) : Calls Tryd.prog 53 #[.int .i64 n] w fun e w' => ∃ b F, e = .returned (.pointer (some ⟨b, 0, none⟩)) ∧ RAt w' b F (newDev n) ∧ Below w.heap.size w w' ∧ ∀ k, F k → w.heap.size ≤ k := rnew_any n w

theorem strCells_u8s (s : ByteArray) : Lib.strCells s = u8s (bl s) := rfl

set_option maxRecDepth 100000 in
set_option maxHeartbeats 1600000 in
theorem rdev_read_any (b : Nat) (F : Nat → Prop) (d : Dev) (T : Nat) (w : World) (h : RAll w b F d T) (s n : Int) (hp : d.pend.length ≤ 5864062014805) (hs : -9223372036854775808 ≤ s ∧ s < 9223372036854775808) (hn : -9223372036854775808 ≤ n ∧ n < 9223372036854775808) :
    Calls Tryd.prog 26 #[.pointer (some ⟨b, 0, none⟩), .int .i64 s, .int .i64 n] w fun e w' => ∃ v, e = .returned (.tuple #[v, .int .i64 ((d.read s n).2.2 : Int)]) ∧ w'.ownsRow w.heap.size 5 1 v (d.read s n).2.1.length (u8s (d.read s n).2.1) ∧ RAll w' b F (d.read s n).1 T ∧ Step F F w w' := by
  have HK := Hid.mk2 h
  obtain ⟨tv, lv, pv, av, h⟩ := h
  have c4 : w.cell? ⟨b, 4, none⟩ = some (.bool d.dead) := h.body.cell 4
  have c1 : w.cell? ⟨b, 1, none⟩ = some (.int .i64 d.size) := h.body.cell 1
  have s0 := h.ok.s0
  have s1 := h.ok.s1
  have hdl := Dev.Ok.dur_len h.ok
  clear h
  have HER : Hid (∀ m c, d.read s n = (d, [], c) → ∃ v, Ending.returned (.tuple #[.slice none 0 0, .int .i64 ((c : Nat) : Int)]) = .returned (.tuple #[v, .int .i64 ((d.read s n).2.2 : Int)]) ∧ (w.drewN m).ownsRow w.heap.size 5 1 v (d.read s n).2.1.length (u8s (d.read s n).2.1) ∧ RAll (w.drewN m) b F (d.read s n).1 T ∧ Step F F w (w.drewN m)) := fun m c hc => by
    rw [hc]
    exact ⟨_, rfl, World.ownsRow_nil _ _ _ _, HK.out.below (below_drewN (Below.refl _ _) m), Step.of_below (below_drewN (Below.refl _ _) m)⟩
  have HF : Hid (d.fits s n = decide (0 ≤ s ∧ 0 ≤ n ∧ s ≤ d.size - n)) := (rfl : d.fits s n = _)
  obtain ⟨sz, hsz⟩ : ∃ sz, sz = d.size := ⟨_, rfl⟩
  rw [← hsz] at c1 s0 s1 HF
  clear hsz
  go_enter Tryd.func26, Tryd.ntmps26
  cases hd : d.dead
  · rw [hd] at c4
    by_cases hfit : 0 ≤ s ∧ 0 ≤ n ∧ s ≤ sz - n
    · obtain ⟨f0, f1, f2⟩ := hfit
      have q0 : ¬ n < 0 := by omega
      have q1 : ¬ s < 0 := by omega
      have q2 : ¬ sz < s := by omega
      have q4 : IntKind.i64.wrap (sz - s) = sz - s := wrap_i64 _ (by omega) (by omega)
      have q3 : ¬ sz - s < n := by omega
      by_cases hm : 1024 < n
      · have HR : Hid (d.read s n = (d, [], 3)) := by show d.read s n = _; unfold Dev.read; rw [hd, HF.out, decide_eq_true ⟨f0, f1, f2⟩]; simp [hm]
        go_wp2_with fail
        go_ret2
        exact HER.out 0 3 HR.out
      · obtain ⟨m, rfl⟩ : ∃ m : Nat, n = (m : Int) := ⟨n.toNat, by omega⟩
        have HR : Hid (d.read s (m : Int) = ({ d with nr := wrap64 (d.nr + (m : Int)) }, readB d s m, 0)) := by show d.read s _ = _; unfold Dev.read; rw [hd, HF.out, decide_eq_true ⟨f0, f1, f2⟩]; simp [hm]
        obtain ⟨i0, hi, hz0, hz1, hz2⟩ := info_parts Tryd.info5
        clear HER HF
        go_wp2_with fail
        go_loopw [8, 9] (fun v i wr => ∃ k, k ≤ m ∧ i = .int .i64 (k : Int) ∧ wr.ownsRow w.heap.size 5 1 v (k * 512) (u8s (readB d s k)) ∧ Below w.heap.size w wr) (fun _ i _ => m - (intOf i).toNat)
        case atStart => exact ⟨0, Nat.zero_le _, rfl, World.ownsRow_nil _ _ _ _, Below.refl _ _⟩
        case round =>
          obtain ⟨k, hk, rfl, hrow, hbel⟩ := hrel
          have HROW := Hid.mk2 hrow
          have HBEL := Hid.mk2 hbel
          clear hrow hbel
          by_cases hlt : k < m
          · have hlt' : (k : Int) < (m : Int) := by omega
            have j2 : IntKind.i64.wrap (s + (k : Int)) = s + (k : Int) := wrap_i64 _ (by omega) (by omega)
            have HST := Hid.mk2 (rstands_any b F d wr (HK.out.below HBEL.out).at' (s + (k : Int)) (by omega) hp)
            have HSZ : Hid ((standing d (s + (k : Int))).size = 512) := standing_size (by obtain ⟨_, _, _, _, hh⟩ := HK.out; exact hh.ok) _
            have HSU : Hid (readB d s (k + 1) = readB d s k ++ bl (standing d (s + (k : Int)))) := readB_succ d s k
            generalize standing d (s + (k : Int)) = sd at HST HSZ HSU
            go_wp2_with fail
            refine HST.out.mono ?_
            rintro e w3 ⟨rfl, hb3⟩
            have hr3 := owns_block HROW.out (fun g hg => hb3.block g (owns_blk HROW.out g hg).2.1)
            have hbz := (Below.next HBEL.out hb3).size
            have HB3 := Hid.mk2 (Below.next HBEL.out hb3)
            have HR3 := Hid.mk2 hr3
            clear HST hb3 hr3 HROW HBEL
            go_wp2_with (at_builtin; refine Lib.wpList_append_own_string (P := Tryd.prog) (w := w3) rfl (.tmp 51) (.tmp 52) 36 9 rfl w.heap.size 5 i0 Tryd.underlying36 Tryd.underlying9 hi hz0 hz1 hz2 u8 (k * 512) (u8s (readB d s k)) rfl HR3.out sd rfl (by rw [HSZ.out]; unfold maxLen; omega) (by rw [HSZ.out]; omega) hbz ?_; intro v' w4 hown4 hg4 _)
            rw [strCells_u8s, ← u8s_append, ← HSU.out, HSZ.out] at hown4
            have HB4 : Hid (Below w.heap.size w w4) := HB3.out.trans ⟨hg4.os, hg4.tape, hg4.output, hg4.size, fun i hi => hg4.block i (Nat.lt_of_lt_of_le hi HB3.out.size) (fun e => by have := (owns_blk HR3.out i e.symm).1; omega)⟩
            have HO4 := Hid.mk2 hown4
            clear hown4 hg4 HB3 HR3
            go_wp2_with fail
            go_roundw
            case rel => exact ⟨k + 1, by omega, by go_num, by rw [show (k + 1) * 512 = k * 512 + 512 by omega]; exact HO4.out, HB4.out⟩
            case measure => simp [intOf]; omega
          · have hke : k = m := by omega
            subst hke
            have hall := HK.out.below HBEL.out
            obtain ⟨tv4, lv4, pv4, av4, h4⟩ := hall
            have k6 : wr.cell? ⟨b, 6, none⟩ = some (.int .i64 d.nr) := h4.body.cell 6
            have f6 : wr.frozen? ⟨b, 6, none⟩ = false := frozen_cells h4.body.blk
            obtain ⟨h5, s5⟩ := h4.body.sett (d' := { d with nr := wrap64 (d.nr + (k : Int)) }) 6 (.int .i64 (wrap64 (d.nr + (k : Int)))) rfl rfl rfl
            have h6 := h4.cells (d' := { d with nr := wrap64 (d.nr + (k : Int)) }) (fun i _ hn => set_other hn) h5 rfl ⟨h4.ok.s0, h4.ok.s1, h4.ok.dur, h4.ok.rise, h4.ok.pend, h4.ok.arms⟩
            have HH : Hid (RAll (wr.setCell ⟨b, 6, none⟩ (.int .i64 (wrap64 (d.nr + (k : Int))))) b F { d with nr := wrap64 (d.nr + (k : Int)) } T) := ⟨_, _, _, _, h6⟩
            have HS5 : Hid (Step F F w (wr.setCell ⟨b, 6, none⟩ (.int .i64 (wrap64 (d.nr + (k : Int)))))) := (Step.of_below HBEL.out).trans s5
            have HRW : Hid ((wr.setCell ⟨b, 6, none⟩ (.int .i64 (wrap64 (d.nr + (k : Int))))).ownsRow w.heap.size 5 1 u8 (readB d s k).length (u8s (readB d s k))) := by
              rw [readB_len h4.ok]
              exact owns_block HROW.out fun g hg => set_other (fun e => by
                have h1 := (owns_blk HROW.out g hg).1
                have h2 : b < w.heap.size := by obtain ⟨_, _, _, _, hh⟩ := HK.out; exact hh.body.lt b hh.body.fb
                omega)
            clear h4 h5 h6 s5 HROW HBEL
            go_wp2_with fail
            go_ret2
            rw [HR.out]
            exact ⟨_, rfl, HRW.out, HH.out, HS5.out⟩
    · have HR : Hid (d.read s n = (d, [], 1)) := by show d.read s n = _; unfold Dev.read; rw [hd, HF.out, decide_eq_false hfit]; rfl
      by_cases q0 : n < 0
      · go_wp2_with fail
        go_ret2
        exact HER.out 0 1 HR.out
      · by_cases q1 : s < 0
        · go_wp2_with fail
          go_ret2
          exact HER.out 0 1 HR.out
        · by_cases q2 : sz < s
          · go_wp2_with fail
            go_ret2
            exact HER.out 0 1 HR.out
          · have q4 : IntKind.i64.wrap (sz - s) = sz - s := wrap_i64 _ (by omega) (by omega)
            have q3 : sz - s < n := by omega
            clear hfit
            go_wp2_with fail
            go_ret2
            exact HER.out 0 1 HR.out
  · have HR : Hid (d.read s n = (d, [], 8)) := by show d.read s n = _; unfold Dev.read; rw [hd]; rfl
    rw [hd] at c4
    go_wp2_with fail
    go_ret2
    exact HER.out 0 8 HR.out

end Go.Proofs.YtdieacdkomiooabDoor

namespace Go.Proofs.YtdieacdkomiooabDoor
open Go.RowKit Go.Maps

/-- The blocks of a device behind a call that made some. -/
def grow (F : Nat → Prop) (w w1 : World) : Nat → Prop := fun k => F k ∨ (w.heap.size ≤ k ∧ k < w1.heap.size)
theorem RFul.setLast {w w1 : World} {b : Nat} {F : Nat → Prop} {d : Dev} {T : Nat} {tv lv pv av v' : Value} {l' : List Sec} (h : RFul w b F d T tv lv pv av) (hb : Below w.heap.size w w1) (hr : w1.ownsRow w.heap.size 68 2 v' l'.length (secCells l')) (hok : { d with dur := l' }.Ok) :
    RFul (w1.setCell ⟨b, 2, none⟩ v') b (grow F w w1) { d with dur := l' } T tv v' pv av ∧ Step F (grow F w w1) w (w1.setCell ⟨b, 2, none⟩ v') := by
  have hlt := h.body.lt b h.body.fb
  have hk1 : ∀ k, k ≠ b → (w1.setCell ⟨b, 2, none⟩ v').heap[k]? = w1.heap[k]? := fun k hk => set_other hk
  have hk : ∀ k, k < w.heap.size → k ≠ b → (w1.setCell ⟨b, 2, none⟩ v').heap[k]? = w.heap[k]? := fun k hl hn => (hk1 k hn).trans (hb.block k hl)
  have hrow : ∀ (e : TypeId) (m : Nat) (v : Value) n xs, e ≠ 112 → w.ownsRow 0 e m v n xs → (w1.setCell ⟨b, 2, none⟩ v').ownsRow 0 e m v n xs := fun e m v n xs he ho => owns_block ho fun k hk' => by
    obtain ⟨_, hlt', c, hc⟩ := owns_blk ho k hk'
    exact hk k hlt' (fun e' => by rw [e', h.body.blk] at hc; simp at hc; exact he hc.2.symm)
  have hb1 : w1.heap[b]? = _ := (hb.block b hlt).trans h.body.blk
  obtain ⟨cs, hcs⟩ := h.tears
  refine ⟨⟨⟨?_, .inl h.body.fb, ?_, fun g hg => ?_, hrow _ _ _ _ _ (by decide) h.body.pend, fun g hg => .inl (h.body.pf g hg), fun k hk' => ?_⟩, ⟨cs, hrow _ _ _ _ _ (by decide) hcs⟩, fun g hg => .inl (h.tf g hg), ?_, fun g hg hp => ?_, hok⟩, ⟨hb.os, hb.tape, hb.output, by rw [set_size]; exact hb.size, fun k hl hn => hk k hl (fun e => hn (by rw [e]; exact h.body.fb)), fun k hk' => hk'.imp id (fun h => h.1)⟩⟩
  · exact set_cells hb1
  · exact (owns_mono hr (Nat.zero_le _) : _) |> fun ho => owns_block ho fun k hk' => hk1 k (fun e => by have := (owns_blk hr k hk').1; omega)
  · obtain ⟨h1, h2, _⟩ := owns_blk hr g hg
    exact .inr ⟨h1, h2⟩
  · rw [set_size]
    rcases hk' with h' | h'
    · exact Nat.lt_of_lt_of_le (h.body.lt k h') hb.size
    · exact h'.2
  · refine (h.arms.block fun k cur hk' hf => hk k (h.body.lt k hf) (fun e => ?_)).imp (fun k hf => .inl hf)
    rw [e, h.body.blk] at hk'
    simp at hk'
  · obtain ⟨h1, _, _⟩ := owns_blk hr g hg
    obtain ⟨_, h2, _⟩ := owns_blk h.body.pend g hp
    omega
/-- The pending writes are gone. -/
theorem RFul.noPend {w : World} {b : Nat} {F : Nat → Prop} {d : Dev} {T : Nat} {tv lv pv av : Value} (h : RFul w b F d T tv lv pv av) :
    RFul (w.setCell ⟨b, 3, none⟩ (.slice none 0 0)) b F { d with pend := [] } T tv lv (.slice none 0 0) av ∧ Step F F w (w.setCell ⟨b, 3, none⟩ (.slice none 0 0)) := by
  have hk : ∀ k, k ≠ b → (w.setCell ⟨b, 3, none⟩ (.slice none 0 0)).heap[k]? = w.heap[k]? := fun k hk => set_other hk
  have hrow : ∀ (e : TypeId) (m : Nat) (v : Value) n xs, e ≠ 112 → w.ownsRow 0 e m v n xs → (w.setCell ⟨b, 3, none⟩ (.slice none 0 0)).ownsRow 0 e m v n xs := fun e m v n xs he ho => owns_block ho fun k hk' => by
    obtain ⟨_, _, c, hc⟩ := owns_blk ho k hk'
    exact hk k (fun e' => by rw [e', h.body.blk] at hc; simp at hc; exact he hc.2.symm)
  obtain ⟨cs, hcs⟩ := h.tears
  refine ⟨⟨⟨set_cells h.body.blk, h.body.fb, hrow _ _ _ _ _ (by decide) h.body.last, h.body.lf, World.ownsRow_nil _ _ _ _, fun g hg => by simp [Value.ownBlock] at hg, fun k hk' => by rw [set_size]; exact h.body.lt k hk'⟩, ⟨cs, hrow _ _ _ _ _ (by decide) hcs⟩, h.tf, ?_, fun g _ hp => by simp [Value.ownBlock] at hp, ⟨h.ok.s0, h.ok.s1, h.ok.dur, h.ok.rise, fun x hx => by simp at hx, h.ok.arms⟩⟩,
    ⟨rfl, rfl, rfl, by rw [set_size]; exact Nat.le_refl _, fun k _ hn => hk k (fun e => hn (by rw [e]; exact h.body.fb)), fun _ h => .inl h⟩⟩
  refine h.arms.block fun k cur hk' hf => hk k (fun e => ?_)
  rw [e, h.body.blk] at hk'
  simp at hk'
/-- A number, or dead, is turned. -/
theorem RFul.setCount {w : World} {b : Nat} {F : Nat → Prop} {d d' : Dev} {T : Nat} {tv lv pv av : Value} (h : RFul w b F d T tv lv pv av) (j : Nat) (u : Value) (hc : #[tv, .int .i64 d'.size, lv, pv, .bool d'.dead, av, .int .i64 d'.nr, .int .i64 d'.nw, .int .i64 d'.ns] = #[tv, .int .i64 d.size, lv, pv, .bool d.dead, av, .int .i64 d.nr, .int .i64 d.nw, .int .i64 d.ns].setIfInBounds j u) (hd : d'.dur = d.dur) (hp : d'.pend = d.pend) (ha : d'.arms = d.arms) (ho : d'.Ok) :
    RFul (w.setCell ⟨b, j, none⟩ u) b F d' T tv lv pv av ∧ Step F F w (w.setCell ⟨b, j, none⟩ u) := by
  obtain ⟨h5, s5⟩ := h.body.sett j u hc hd hp
  exact ⟨h.cells (fun i _ hn => set_other hn) h5 ha ho, s5⟩

end Go.Proofs.YtdieacdkomiooabDoor

namespace Go.Proofs.YtdieacdkomiooabDoor
open Go.RowKit Go.Maps

/-- What is durable behind the first k of the fates. -/
def durK (pend dur : List Sec) (l : List Fate) (k : Nat) : List Sec := ((l.take k).foldl (settleStep pend) ([], dur)).2
theorem durK_zero (pend dur : List Sec) (l : List Fate) : durK pend dur l 0 = dur := by simp [durK]
theorem durK_all (pend dur : List Sec) (l : List Fate) : durK pend dur l l.length = settleD pend [] dur l := by rw [durK, List.take_length, settle_fold]
theorem earl_next (l : List Fate) (k : Nat) (x : Int) (h : k < l.length) : earl l (k + 1) x = true ↔ earl l k x = true ∨ l[k].ix = x := by
  rw [earl_succ l k x h]; simp
theorem seen_mem (pend dur : List Sec) (l : List Fate) : ∀ k, k ≤ l.length → ∀ x, x ∈ ((l.take k).foldl (settleStep pend) ([], dur)).1 ↔ 0 ≤ x ∧ x < (pend.length : Int) ∧ earl l k x = true
  | 0, _, x => by simp [earl]
  | k + 1, hk, x => by
    have ih := seen_mem pend dur l k (by omega)
    rw [take_next' l k (by omega), List.foldl_append, List.foldl_cons, List.foldl_nil]
    generalize (l.take k).foldl (settleStep pend) ([], dur) = s at ih
    rw [earl_next l k x (by omega)]
    unfold settleStep
    by_cases h : l[k].ix < 0 ∨ (pend.length : Int) ≤ l[k].ix ∨ l[k].ix ∈ s.1
    · rw [if_pos h, ih x]
      constructor
      · rintro ⟨h1, h2, h3⟩; exact ⟨h1, h2, .inl h3⟩
      · rintro ⟨h1, h2, h3 | h3⟩
        · exact ⟨h1, h2, h3⟩
        · subst h3
          rcases h with h | h | h
          · omega
          · omega
          · exact (ih _).1 h
    · rw [if_neg h]
      simp only [not_or] at h
      rw [List.mem_cons, ih x]
      constructor
      · rintro (h3 | ⟨h1, h2, h3⟩)
        · subst h3; exact ⟨by omega, by omega, .inr rfl⟩
        · exact ⟨h1, h2, .inl h3⟩
      · rintro ⟨h1, h2, h3 | h3⟩
        · exact .inr ⟨h1, h2, h3⟩
        · exact .inl h3.symm
theorem durK_skip (pend dur : List Sec) (l : List Fate) (k : Nat) (h : k < l.length) (hs : l[k].ix < 0 ∨ (pend.length : Int) ≤ l[k].ix ∨ earl l k l[k].ix = true) : durK pend dur l (k + 1) = durK pend dur l k := by
  unfold durK
  have hm := seen_mem pend dur l k (by omega) l[k].ix
  rw [take_next' l k h, List.foldl_append, List.foldl_cons, List.foldl_nil]
  generalize (l.take k).foldl (settleStep pend) ([], dur) = s at hm
  unfold settleStep
  rw [if_pos]
  rcases hs with hs | hs | hs
  · exact .inl hs
  · exact .inr (.inl hs)
  · by_cases h0 : l[k].ix < 0
    · exact .inl h0
    · by_cases h1 : (pend.length : Int) ≤ l[k].ix
      · exact .inr (.inl h1)
      · exact .inr (.inr (hm.2 ⟨by omega, by omega, hs⟩))
theorem durK_take (pend dur : List Sec) (l : List Fate) (k j : Nat) (h : k < l.length) (hj : j < pend.length) (hx : l[k].ix = (j : Int)) (hs : earl l k l[k].ix = false) : durK pend dur l (k + 1) = meetX (durK pend dur l k) pend[j] l[k] := by
  unfold durK
  have hm := seen_mem pend dur l k (by omega) l[k].ix
  rw [take_next' l k h, List.foldl_append, List.foldl_cons, List.foldl_nil]
  generalize (l.take k).foldl (settleStep pend) ([], dur) = s at hm
  unfold settleStep
  rw [if_neg]
  · exact meetD_X pend s.2 l[k] j hj hx
  · rintro (h0 | h0 | h0)
    · omega
    · omega
    · rw [(hm.1 h0).2.2] at hs; cases hs
theorem durK_ok {d : Dev} (h : d.Ok) (l : List Fate) (k : Nat) : { d with dur := durK d.pend d.dur l k }.Ok := by
  have e : durK d.pend d.dur l k = settleD d.pend [] d.dur (l.take k) := by rw [durK, settle_fold]
  rw [e]
  obtain ⟨h1, h2⟩ := settleD_ok h.pend (l.take k) [] d.dur h.dur h.rise
  exact ⟨h.s0, h.s1, h1, h2, h.pend, h.arms⟩

end Go.Proofs.YtdieacdkomiooabDoor

namespace Go.Proofs.YtdieacdkomiooabDoor
open Go.RowKit Go.Maps

/-- One tear more: the row of what was torn grew, in its own block or in a new one, and its place is turned. -/
theorem RFul.setTears {w w1 : World} {b : Nat} {F : Nat → Prop} {d : Dev} {T : Nat} {tv lv pv av v' : Value} {cs' : List Value} (h : RFul w b F d T tv lv pv av) (ho : w1.os = w.os) (ht : w1.tape = w.tape) (hu : w1.output = w.output) (hz : w.heap.size ≤ w1.heap.size)
    (hk0 : ∀ k, k < w.heap.size → tv.ownBlock ≠ some k → w1.heap[k]? = w.heap[k]?) (hr : w1.ownsRow 0 160 4 v' (T + 1) cs') (hv : ∀ g, v'.ownBlock = some g → tv.ownBlock = some g ∨ w.heap.size ≤ g) :
    RFul (w1.setCell ⟨b, 0, none⟩ v') b (grow F w w1) d (T + 1) v' lv pv av ∧ Step F (grow F w w1) w (w1.setCell ⟨b, 0, none⟩ v') := by
  have hlt := h.body.lt b h.body.fb
  obtain ⟨cs, hcs⟩ := h.tears
  have hk1 : ∀ k, k ≠ b → (w1.setCell ⟨b, 0, none⟩ v').heap[k]? = w1.heap[k]? := fun k hk => set_other hk
  have hnt : ∀ k (cur : Array Value) (e : TypeId), e ≠ 160 → w.heap[k]? = some (Obj.cells cur e (0, 0)) → tv.ownBlock ≠ some k := fun k cur e he hc e' => by
    obtain ⟨_, _, c, hc'⟩ := owns_blk hcs k e'
    rw [hc] at hc'
    simp at hc'
    exact he hc'.2
  have hk : ∀ k (cur : Array Value) (e : TypeId), e ≠ 160 → e ≠ 112 → w.heap[k]? = some (Obj.cells cur e (0, 0)) → (w1.setCell ⟨b, 0, none⟩ v').heap[k]? = w.heap[k]? := fun k cur e he he' (hc : w.heap[k]? = some (Obj.cells cur e (0, 0))) => by
    have hl : k < w.heap.size := (Array.getElem?_eq_some_iff.1 hc).1
    rw [hk1 k (fun e2 => by rw [e2, h.body.blk] at hc; simp at hc; exact he' hc.2.symm)]
    exact hk0 k hl (hnt k cur e he hc)
  have hrow : ∀ (e : TypeId) (m : Nat) (v : Value) n xs, e ≠ 160 → e ≠ 112 → w.ownsRow 0 e m v n xs → (w1.setCell ⟨b, 0, none⟩ v').ownsRow 0 e m v n xs := fun e m v n xs he he' ho' => owns_block ho' fun k hk' => by
    obtain ⟨_, _, c, hc⟩ := owns_blk ho' k hk'
    exact hk k c e he he' hc
  have hb1 : w1.heap[b]? = _ := (hk0 b hlt (hnt b _ _ (by decide) h.body.blk)).trans h.body.blk
  refine ⟨⟨⟨?_, .inl h.body.fb, hrow _ _ _ _ _ (by decide) (by decide) h.body.last, fun g hg => .inl (h.body.lf g hg), hrow _ _ _ _ _ (by decide) (by decide) h.body.pend, fun g hg => .inl (h.body.pf g hg), fun k hk' => ?_⟩, ⟨cs', ?_⟩, fun g hg => ?_, ?_, h.apart, h.ok⟩, ⟨ho, ht, hu, by rw [set_size]; exact hz, fun k hl hn => ?_, fun k hk' => hk'.imp id (fun h => h.1)⟩⟩
  · exact set_cells hb1
  · rw [set_size]
    rcases hk' with h' | h'
    · exact Nat.lt_of_lt_of_le (h.body.lt k h') hz
    · exact h'.2
  · refine owns_block hr fun k hk' => hk1 k (fun e => ?_)
    obtain ⟨_, _, c, hc⟩ := owns_blk hr k hk'
    rw [e, hb1] at hc
    simp at hc
  · rcases hv g hg with h' | h'
    · exact .inl (h.tf g h')
    · exact .inr ⟨h', (owns_blk hr g hg).2.1⟩
  · refine (h.arms.block fun k cur hk' hf => ?_).imp (fun k hf => .inl hf)
    rcases hk' with hk' | hk'
    · exact hk k cur 138 (by decide) (by decide) hk'
    · exact hk k cur 92 (by decide) (by decide) hk'
  · rw [hk1 k (fun e => hn (by rw [e]; exact h.body.fb))]
    exact hk0 k hl (fun e => hn (h.tf k e))

end Go.Proofs.YtdieacdkomiooabDoor
