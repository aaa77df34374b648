import Derived.Test.YtlopimdnjookeabGreatDoorA4
import Derived.Deep.RegionHeld3
import Derived.Deep.QuietTactic
import Derived.BigQuiet
import Derived.Deep.AppendSrc
import Derived.Deep.RegionLaw
namespace Go.Proofs.YtlopimdnjookeabGreatDoor.V
open Go.RowKit Go.Maps

theorem SecsIn.cells {w : World} {v : Value} {l : List Sec} (h : SecsIn w v l) : ∃ a cap g off, v = .slice a l.length cap ∧ l.length ≤ 5864062014805 ∧ (0 < l.length → a = some ⟨g, off, none⟩) ∧ ∀ i (h : i < l.length), w.cell? ⟨g, off + i * 2, none⟩ = some (.int .i64 l[i].ix) ∧ w.cell? ⟨g, off + i * 2 + 1, none⟩ = some (.string l[i].dat) := by
  obtain ⟨a, cap, g, off, h1, h2, h3, h4⟩ := h
  exact ⟨a, cap, g, off, h1, h2, h3, fun i hi => ⟨h4 _ _ (secCells_get l i hi).1, h4 _ _ (secCells_get l i hi).2⟩⟩
theorem frozen_row {w : World} {g j : Nat} {cur : Array Value} {e : TypeId} (h : w.heap[g]? = some (.cells cur e (0, 0))) : w.frozen? ⟨g, j, none⟩ = false := by
  unfold World.frozen?
  rw [show w.heap[(⟨g, j, none⟩ : Addr).block]? = _ from h]
  simp
theorem set_row {w : World} {g j : Nat} {cur : Array Value} {e : TypeId} {v : Value} (h : w.heap[g]? = some (.cells cur e (0, 0))) : (w.setCell ⟨g, j, none⟩ v).heap[g]? = some (.cells (cur.setIfInBounds j v) e (0, 0)) := by
  unfold World.setCell
  simp only [Array.getElem?_modify, if_true]
  rw [h]
  rfl
theorem owns_drewN {w : World} {b e size n : Nat} {v : Value} {xs : List Value} (h : w.ownsRow b e size v n xs) (m : Nat) : (w.drewN m).ownsRow b e size v n xs := owns_block h fun _ _ => rfl
theorem below_set {n g j : Nat} {a w : World} {v : Value} (h : Below n a w) (hg : n ≤ g) : Below n a (w.setCell ⟨g, j, none⟩ v) :=
  ⟨h.os, h.tape, h.output, by have := h.size; simpa [World.setCell] using this, fun k hk => (Below.heap_setCell w ⟨g, j, none⟩ v k (fun e => by simp only [] at e; omega)).trans (h.block k hk)⟩


theorem RBody.added {w w2 : World} {b : Nat} {F : Nat → Prop} {d : Dev} {tv lv pv av : Value} (h : RBody w b F d tv lv pv av) (x : Sec) (g cap : Nat)
    (hr : w2.ownsRow 0 72 2 (.slice (some ⟨g, 0, none⟩) (d.dur.length + 1) cap) (d.dur.length + 1) (secCells (d.dur ++ [x]))) (hg : w.grownBy w2 lv.ownBlock) (hat : lv.ownBlock = some g ∨ w.heap.size ≤ g) (hpv : pv.ownBlock = none) :
    RBody (w2.setCell ⟨b, 2, none⟩ (.slice (some ⟨g, 0, none⟩) (d.dur.length + 1) cap)) b (fun k => F k ∨ k = g) { d with dur := d.dur ++ [x] } tv (.slice (some ⟨g, 0, none⟩) (d.dur.length + 1) cap) pv av ∧
      Step F (fun k => F k ∨ k = g) w (w2.setCell ⟨b, 2, none⟩ (.slice (some ⟨g, 0, none⟩) (d.dur.length + 1) cap)) := by
  have hlb : ∀ k, lv.ownBlock = some k → k < w.heap.size ∧ ∃ cur, w.heap[k]? = some (.cells cur 72 (0, 0)) := fun k hk => (owns_blk h.last k hk).2
  have hbl : some b ≠ lv.ownBlock := fun e => by
    obtain ⟨_, cur, hc⟩ := hlb b e.symm
    rw [h.blk] at hc; simp at hc
  have hbw : b < w.heap.size := (Array.getElem?_eq_some_iff.1 h.blk).1
  have hb2 : w2.heap[b]? = w.heap[b]? := hg.block b hbw hbl
  have hgb : g ≠ b := fun e => by
    rcases hat with h' | h'
    · exact hbl (by rw [h', e])
    · omega
  have hsz : (w2.setCell ⟨b, 2, none⟩ (.slice (some ⟨g, 0, none⟩) (d.dur.length + 1) cap)).heap.size = w2.heap.size := by simp [World.setCell]
  refine ⟨⟨?_, .inl h.fb, ?_, ?_, ?_, ?_, ?_⟩, ?_⟩
  · rw [set_row (hb2.trans h.blk)]
    rfl
  · have := owns_block hr (w' := w2.setCell ⟨b, 2, none⟩ (.slice (some ⟨g, 0, none⟩) (d.dur.length + 1) cap)) fun k hk => by
      simp only [Value.ownBlock, Option.some.injEq] at hk
      rw [Below.heap_setCell w2 ⟨b, 2, none⟩ _ k (by rw [← hk]; exact hgb)]
    simpa using this
  · intro k hk
    simp only [Value.ownBlock, Option.some.injEq] at hk
    exact .inr hk.symm
  · exact owns_block h.pend fun k hk => by rw [hpv] at hk; cases hk
  · intro k hk; rw [hpv] at hk; cases hk
  · intro k hk
    rw [hsz]
    rcases hk with hk | hk
    · exact Nat.lt_of_lt_of_le (h.lt k hk) hg.size
    · rw [hk]; exact (owns_blk hr g rfl).2.1
  · refine ⟨hg.os, hg.tape, hg.output, by rw [hsz]; exact hg.size, fun k hk hn => ?_, fun k hk => hk.elim .inl fun e => ?_⟩
    · rw [Below.heap_setCell w2 ⟨b, 2, none⟩ _ k (fun e => hn (by rw [e]; exact h.fb))]
      exact hg.block k hk (fun e => hn (h.lf k e.symm))
    · rcases hat with h' | h'
      · exact .inl (by rw [e]; exact h.lf g h')
      · exact .inr (by omega)

/-- What the document's Open leaves. -/
def ROpenPost (w : World) (n : Int) (l : List Sec) (e : Ending) (w' : World) : Prop :=
  (opens (newDev n).size 0 l = true ∧ ∃ b F, e = .returned (.tuple #[.pointer (some ⟨b, 0, none⟩), .int .i64 0]) ∧ RAt w' b F { newDev n with dur := openD l } ∧ Below w.heap.size w w' ∧ ∀ k, F k → w.heap.size ≤ k) ∨
  (opens (newDev n).size 0 l = false ∧ e = .returned (.tuple #[.pointer none, .int .i64 1]) ∧ Below w.heap.size w w')
structure RoInv (w wr : World) (b : Nat) (F : Nat → Prop) (n : Int) (l : List Sec) (k : Nat) (last : Int) (lv : Value) : Prop where
  body : RBody wr b F { newDev n with dur := openD (l.take k) } (.slice none 0 0) lv (.slice none 0 0) (.slice none 0 0)
  eq : opens (newDev n).size 0 l = opens (newDev n).size (last + 1) (l.drop k)
  bel : Below w.heap.size w wr
  far : ∀ k, F k → w.heap.size ≤ k
theorem rnew_body {w : World} {b : Nat} {F : Nat → Prop} {n : Int} (h : RAt w b F (newDev n)) (hn : ∀ tv lv pv av, RBody w b F (newDev n) tv lv pv av → tv = .slice none 0 0 ∧ lv = .slice none 0 0 ∧ pv = .slice none 0 0 ∧ av = .slice none 0 0) : RBody w b F (newDev n) (.slice none 0 0) (.slice none 0 0) (.slice none 0 0) (.slice none 0 0) := by
  obtain ⟨tv, lv, pv, av, h⟩ := h
  obtain ⟨rfl, rfl, rfl, rfl⟩ := hn tv lv pv av h
  exact h
theorem openD_next (l : List Sec) (k : Nat) (h : k < l.length) : openD (l.take (k + 1)) = openD (l.take k) ++ (if allZ l[k].dat then [] else [l[k]]) := by
  unfold openD
  rw [List.take_succ_eq_append_getElem h, List.filter_append]
  congr 1
  cases hz : allZ l[k].dat <;> simp [hz]
theorem opens_drop (size last : Int) (l : List Sec) (k : Nat) (h : k < l.length) : opens size (last + 1) (l.drop k) = (decide (last + 1 ≤ l[k].ix ∧ l[k].ix < size ∧ l[k].dat.size = 512) && opens size (l[k].ix + 1) (l.drop (k + 1))) := by
  rw [List.drop_eq_getElem_cons h]
  rfl

set_option maxHeartbeats 400000 in
theorem rnew_any' (n : Int) (w : World) : Calls Tryz.prog 5 #[.int .i64 n] w fun e w' => ∃ b F, e = .returned (.pointer (some ⟨b, 0, none⟩)) ∧ RBody w' b F (newDev n) (.slice none 0 0) (.slice none 0 0) (.slice none 0 0) (.slice none 0 0) ∧ Below w.heap.size w w' ∧ ∀ k, F k → w.heap.size ≤ k := by
  have HC := Hid.mk'' (rclamp_any n w)
  have HN : Hid (RBody (w.alloc (.cells #[.slice none 0 0, .int .i64 (clampN n 0 8388615), .slice none 0 0, .slice none 0 0, .bool false, .slice none 0 0, .int .i64 0, .int .i64 0, .int .i64 0] 52)) w.heap.size (fun k => k = w.heap.size) (newDev n) (.slice none 0 0) (.slice none 0 0) (.slice none 0 0) (.slice none 0 0)) :=
    ⟨Array.getElem?_push_size, rfl, World.ownsRow_nil _ _ _ _, fun g hg => by simp [Value.ownBlock] at hg, World.ownsRow_nil _ _ _ _, fun g hg => by simp [Value.ownBlock] at hg, fun k hk => by rw [hk]; simp⟩
  generalize clampN n 0 8388615 = s at *
  go_enter Tryz.func5, Tryz.ntmps5
  go_wp2_with fail
  refine HC.out.mono ?_
  rintro e w' ⟨rfl, rfl⟩
  go_wp2_with fail
  go_ret
  exact ⟨_, _, rfl, HN.out, below_new _ _, fun k hk => by rw [hk]; exact Nat.le_refl _⟩


end Go.Proofs.YtlopimdnjookeabGreatDoor.V

namespace Go.Proofs.YtlopimdnjookeabGreatDoor.V
open Go.RowKit Go.Maps

theorem zsec_reps : zsec = mkb (reps 512 0) := rfl
theorem chunk0 {w : World} {n g cap : Nat} (h : w.ownsRow n 5 1 (.slice (some ⟨g, 0, none⟩) 512 cap) 512 (u8s (reps 512 0))) (m : Nat) : (convert 33 9 (.slice (some ⟨g, 0, none⟩) 512 cap)).run Tryz.prog (w.drewN m) = .ok (.string zsec) (w.drewN m) := by
  have h' := chunk_cells (w := w.drewN m) (g := g) (l := reps 512 0) (fun j hj => by
    have := owns_cell h rfl j _ (u8s_get _ j hj)
    exact this) 0 (by rw [reps_len]; omega) cap
  rw [Nat.zero_mul, List.drop_zero, List.take_of_length_le (by rw [reps_len]; omega), ← zsec_reps] at h'
  exact h'

set_option maxRecDepth 100000 in
set_option maxHeartbeats 400000 in
theorem rzeros_any (w : World) : Calls Tryz.prog 99 #[.int .i64 512] w fun e w' => e = .returned (.string zsec) ∧ Below w.heap.size w w' := by
  obtain ⟨i0, hi, hz0, hz1, hz2⟩ := info_parts Tryz.info5
  obtain ⟨N, hN⟩ : ∃ N, N = 512 := ⟨_, rfl⟩
  have HN : Hid (N = 512) := hN
  clear hN
  go_enter Tryz.func99, Tryz.ntmps99
  go_wp2_with fail
  go_loopw [3, 4] (fun v i wr => ∃ k : Nat, k ≤ N ∧ i = .int .i64 k ∧ wr.ownsRow w.heap.size 5 1 v k (u8s (reps k 0)) ∧ Below w.heap.size w wr) (fun _ i _ => N - (intOf i).toNat)
  case atStart => exact ⟨0, Nat.zero_le _, rfl, World.ownsRow_nil _ _ _ _, Below.refl _ _⟩
  case round =>
    obtain ⟨k, hk, rfl, hown, hnx⟩ := hrel
    by_cases hlt : k < N
    · have i1 : (k : Int) < 512 := by have := HN.out; omega
      go_wp2_with (first
        | (at_builtin; refine wpList_append_lies _ rfl _ _ 33 rfl w.heap.size 5 i0 (.int .u8 0) 1 1 Tryz.underlying33 hi hz0 hz1 hz2 rfl (by decide) _ _ _ rfl (hown.alloc _) ⟨wr.heap.size, 0, none⟩ 1 1 [.int .u8 0] rfl rfl ?c1 ?c2 ?c3 ?c4 ?c5 ?c6 (wr.heap.size + 1) ?c7 ?_))
      case c1 =>
        intro j u hj
        match j, hj with
        | 0, hj => simp at hj; subst hj; simp [Addr.add]
      case c2 => intro u hu; simp at hu; subst hu; rfl
      case c3 => decide
      case c4 => have := HN.out; unfold maxLen; omega
      case c5 => have := HN.out; omega
      case c6 => have := hnx.size; simp; omega
      case c7 => simp
      intro g cap w1 hown' hgrow hat hlg
      have hb1 : Below w.heap.size w w1 := (hnx.alloc (by have := hnx.size; omega) _).grown hgrow (by have := hnx.size; simp; omega) (fun j hj => (hown.lt j hj).1)
      have hown2 : w1.ownsRow w.heap.size 5 1 (.slice (some ⟨g, 0, none⟩) (k + 1) cap) (k + 1) (u8s (reps (k + 1) 0)) := by
        rw [reps_succ, u8s_append, show u8s [0] = [.int .u8 0] from rfl]; exact hown'
      clear hown' hgrow hown hat hlg hnx
      go_wp2_with fail
      go_roundw
      case rel => exact ⟨k + 1, by omega, by go_num, hown2, hb1⟩
      case measure => simp [intOf]; omega
    · have hke : k = 512 := by have := HN.out; omega
      subst hke
      have i1 : ¬ ((512 : Nat) : Int) < 512 := by omega
      have HB := Hid.mk2 hnx
      obtain ⟨a, c, hv, ha⟩ := owns_form hown
      obtain ⟨g, rfl⟩ := ha (by decide)
      subst hv
      have hcv : (convert 33 9 (.slice (some ⟨g, 0, none⟩) 512 c)).run Tryz.prog wr = .ok (.string zsec) wr := chunk0 hown 0
      clear hown hnx
      go_wp2_with fail
      go_wp2_with fail
      go_ret
      exact ⟨rfl, HB.out⟩

theorem secs_at {w : World} {v : Value} {l : List Sec} {base : Nat} (h : w.ownsRow base 72 2 v l.length (secCells l)) (hl : 0 < l.length) : ∃ g cap, v = .slice (some ⟨g, 0, none⟩) l.length cap ∧ ∀ i (h : i < l.length), w.cell? ⟨g, i * 2, none⟩ = some (.int .i64 l[i].ix) ∧ w.cell? ⟨g, i * 2 + 1, none⟩ = some (.string l[i].dat) := by
  obtain ⟨a, c, rfl, ha⟩ := owns_form h
  obtain ⟨g, rfl⟩ := ha hl
  exact ⟨g, c, rfl, fun i hi => ⟨owns_cell h rfl _ _ (secCells_get l i hi).1, owns_cell h rfl _ _ (secCells_get l i hi).2⟩⟩
theorem lasting_drop {l : List Sec} {i : Int} : ∀ k, k ≤ l.length → (∀ j (h : j < l.length), j < k → l[j].ix ≠ i) → lasting l i = lasting (l.drop k) i := by
  intro k hk hn
  unfold lasting
  have : l.find? (fun x => decide (x.ix = i)) = (l.drop k).find? (fun x => decide (x.ix = i)) := by
    conv => lhs; rw [← List.take_append_drop k l]
    rw [List.find?_append]
    have hx : (l.take k).find? (fun x => decide (x.ix = i)) = none := by
      rw [List.find?_eq_none]
      intro x hx
      obtain ⟨j, hj, rfl⟩ := List.getElem_of_mem hx
      rw [List.length_take] at hj
      rw [List.getElem_take]
      simpa using hn j (by omega) (by omega)
    rw [hx]; rfl
  rw [this]

set_option maxRecDepth 100000 in
set_option maxHeartbeats 800000 in
theorem rlasting_any (b : Nat) (F : Nat → Prop) (d : Dev) (w : World) (h : RAt w b F d) (i : Int) (hl : d.dur.length ≤ 5864062014805) :
    Calls Tryz.prog 75 #[.pointer (some ⟨b, 0, none⟩), .int .i64 i] w fun e w' => e = .returned (.string (lasting d.dur i)) ∧ Below w.heap.size w w' := by
  obtain ⟨tv, lv, pv, av, h⟩ := h
  have c2 : w.cell? ⟨b, 2, none⟩ = some lv := h.cell 2
  obtain ⟨la, lc, rfl, -⟩ := owns_form h.last
  have HROW := Hid.mk2 h.last
  obtain ⟨N, hN⟩ : ∃ N, N = d.dur.length := ⟨_, rfl⟩
  have HN := Hid.mk2 hN
  rw [← hN] at c2 hl
  clear h hN
  go_enter Tryz.func75, Tryz.ntmps75
  go_wp2_with fail
  go_loopw [5] (fun x wr => ∃ (k m : Nat), k ≤ N ∧ x = .int .i64 (k : Int) ∧ (∀ j (h : j < d.dur.length), j < k → d.dur[j].ix ≠ i) ∧ wr = w.drewN m) (fun x _ => N - (intOf x).toNat)
  case atStart => exact ⟨0, 0, Nat.zero_le _, rfl, fun j _ h => absurd h (by omega), rfl⟩
  case round =>
    obtain ⟨k, m, hk, rfl, hno, rfl⟩ := hrel
    by_cases hlt : k < N
    · obtain ⟨g, cap, hv, hc⟩ := secs_at HROW.out (by rw [← HN.out]; omega)
      simp only [Value.slice.injEq] at hv
      obtain ⟨rfl, -, -⟩ := hv
      have hkl : k < d.dur.length := by rw [← HN.out]; exact hlt
      obtain ⟨x0, x1⟩ := hc k hkl
      have k0 : (0 : Int) ≤ (k : Int) := Int.natCast_nonneg _
      have k1 : (k : Int) < (N : Int) := by omega
      by_cases hx : d.dur[k].ix = i
      · have HR : Hid (lasting d.dur i = d.dur[k].dat) := by
          show _ = _
          rw [lasting_drop k (by omega) hno, List.drop_eq_getElem_cons hkl]
          unfold lasting
          rw [List.find?_cons_of_pos (by simpa using hx)]
        have ex : (d.dur[k].ix == i) = true := by simpa using hx
        generalize d.dur[k].dat = X at *
        generalize d.dur[k].ix = xi at *
        clear hc hno hx
        go_wp2_with fail
        go_ret
        rw [HR.out]
        exact ⟨rfl, below_drewN (Below.refl _ _) _⟩
      · have ex : (d.dur[k].ix == i) = false := by simpa using hx
        have HNO : Hid (∀ j (h : j < d.dur.length), j < k + 1 → d.dur[j].ix ≠ i) := fun j hj hj' => by
          by_cases e : j = k
          · subst e; exact hx
          · exact hno j hj (by omega)
        generalize d.dur[k].ix = xi at x0 ex
        clear hc hno hx x1
        go_wp2_with fail
        refine ⟨⟨k + 1, m, by omega, by simp, HNO.out, rfl⟩, ?_⟩
        simp only [intOf]
        omega
    · have k1 : ¬ (k : Int) < (N : Int) := by omega
      have HR : Hid (lasting d.dur i = zsec) := by
        show _ = _
        rw [lasting_drop k (by rw [← HN.out]; omega) hno, List.drop_of_length_le (by rw [← HN.out]; omega)]
        rfl
      have HZ := Hid.mk2 (rzeros_any (w.drewN m))
      clear hno
      go_wp2_with fail
      go_wp2_with fail
      refine HZ.out.mono ?_
      rintro e w1 ⟨rfl, hb⟩
      have HB : Hid (Below w.heap.size w w1) := ⟨hb.os, hb.tape, hb.output, hb.size, hb.block⟩
      clear hb HZ
      go_wp2_with fail
      go_ret
      rw [HR.out]
      exact ⟨rfl, HB.out⟩

theorem standing_at {d : Dev} {i : Int} : ∀ n, n ≤ d.pend.length → (∀ j (h : j < d.pend.length), n ≤ j → d.pend[j].ix ≠ i) → lastIx d.pend i = lastIx (d.pend.take n) i := by
  intro n hn hno
  obtain ⟨m, hm⟩ : ∃ m, m = d.pend.length - n := ⟨_, rfl⟩
  induction m generalizing n with
  | zero => rw [List.take_of_length_le (by omega)]
  | succ m ih =>
    rw [ih (n + 1) (by omega) (fun j h hj => hno j h (by omega)) (by omega), List.take_succ_eq_append_getElem (by omega), lastIx_snoc, if_neg (hno n (by omega) (Nat.le_refl _))]

set_option maxRecDepth 100000 in
set_option maxHeartbeats 800000 in
theorem rstands_any (b : Nat) (F : Nat → Prop) (d : Dev) (w : World) (h : RAt w b F d) (i : Int) (hl : d.dur.length ≤ 5864062014805) (hp : d.pend.length ≤ 5864062014805) :
    Calls Tryz.prog 65 #[.pointer (some ⟨b, 0, none⟩), .int .i64 i] w fun e w' => e = .returned (.string (standing d i)) ∧ Below w.heap.size w w' := by
  have HLA : Hid (∀ m, Calls Tryz.prog 75 #[.pointer (some ⟨b, 0, none⟩), .int .i64 i] (w.drewN m) fun e w' => e = .returned (.string (lasting d.dur i)) ∧ Below w.heap.size w w') := fun m => (rlasting_any b F d (w.drewN m) (h.below ⟨rfl, rfl, rfl, Nat.le_refl _, fun _ _ => rfl⟩) i hl).mono fun e w' ⟨he, hb⟩ => ⟨he, hb.os, hb.tape, hb.output, hb.size, hb.block⟩
  obtain ⟨tv, lv, pv, av, h⟩ := h
  have c3 : w.cell? ⟨b, 3, none⟩ = some pv := h.cell 3
  obtain ⟨pa, pc, rfl, -⟩ := owns_form h.pend
  have HROW := Hid.mk2 h.pend
  obtain ⟨N, hN⟩ : ∃ N, N = d.pend.length := ⟨_, rfl⟩
  have HN := Hid.mk2 hN
  rw [← hN] at c3 hp
  clear h hN hl
  go_enter Tryz.func65, Tryz.ntmps65
  go_wp2_with fail
  go_loopw [5] (fun x wr => ∃ (k m : Nat), k ≤ N ∧ x = .int .i64 ((k : Int) - 1) ∧ (∀ j (h : j < d.pend.length), k ≤ j → d.pend[j].ix ≠ i) ∧ wr = w.drewN m) (fun x _ => (intOf x + 1).toNat)
  case atStart => exact ⟨N, 0, Nat.le_refl _, rfl, fun j h hj => absurd h (by rw [← HN.out]; omega), rfl⟩
  case round =>
    obtain ⟨k, m, hk, rfl, hno, rfl⟩ := hrel
    by_cases hlt : 0 < k
    · obtain ⟨j, rfl⟩ : ∃ j, k = j + 1 := ⟨k - 1, by omega⟩
      obtain ⟨g, cap, hv, hc⟩ := secs_at HROW.out (by rw [← HN.out]; omega)
      simp only [Value.slice.injEq] at hv
      obtain ⟨rfl, -, -⟩ := hv
      have hkl : j < d.pend.length := by rw [← HN.out]; omega
      obtain ⟨x0, x1⟩ := hc j hkl
      have k0 : (0 : Int) ≤ (j : Int) := Int.natCast_nonneg _
      have k1 : (j : Int) < (N : Int) := by omega
      have ej : (((j + 1 : Nat) : Int) - 1) = (j : Int) := by omega
      rw [ej]
      by_cases hx : d.pend[j].ix = i
      · have HR : Hid (standing d i = d.pend[j].dat) := by
          show _ = _
          unfold standing
          rw [standing_at (j + 1) (by omega) hno, List.take_succ_eq_append_getElem hkl, lastIx_snoc, if_pos hx]
          simp only [List.length_take]
          rw [Nat.min_eq_left (by omega), List.getElem?_eq_getElem hkl]
          rfl
        have ex : (d.pend[j].ix == i) = true := by simpa using hx
        generalize d.pend[j].dat = X at *
        generalize d.pend[j].ix = xi at *
        clear hc hno hx HLA
        go_wp2_with fail
        go_ret
        rw [HR.out]
        exact ⟨rfl, below_drewN (Below.refl _ _) _⟩
      · have ex : (d.pend[j].ix == i) = false := by simpa using hx
        have HNO : Hid (∀ q (h : q < d.pend.length), j ≤ q → d.pend[q].ix ≠ i) := fun q hq hq' => by
          by_cases e : q = j
          · subst e; exact hx
          · exact hno q hq (by omega)
        generalize d.pend[j].ix = xi at x0 ex
        clear hc hno hx x1
        go_wp2_with fail
        refine ⟨⟨j, m, by omega, rfl, HNO.out, rfl⟩, ?_⟩
        simp only [intOf]
        omega
    · obtain rfl : k = 0 := by omega
      have HR : Hid (standing d i = lasting d.dur i) := by
        show _ = _
        unfold standing
        rw [standing_at 0 (by omega) hno]
        rfl
      have HZ := Hid.mk2 (HLA.out m)
      clear hno HLA
      go_wp2_with fail
      go_wp2_with fail
      refine HZ.out.mono ?_
      rintro e w1 ⟨rfl, hb⟩
      have HB := Hid.mk2 hb
      clear hb HZ
      go_wp2_with fail
      go_ret
      rw [HR.out]
      exact ⟨rfl, HB.out⟩



end Go.Proofs.YtlopimdnjookeabGreatDoor.V

namespace Go.Proofs.YtlopimdnjookeabGreatDoor.V
open Go.RowKit Go.Maps

theorem FatesIn.cells {w : World} {v : Value} {l : List Fate} (h : FatesIn w v l) : ∃ a cap g off, v = .slice a l.length cap ∧ l.length ≤ 3518437208883 ∧ (0 < l.length → a = some ⟨g, off, none⟩) ∧ ∀ i (h : i < l.length), w.cell? ⟨g, off + i * 4, none⟩ = some (.int .i64 l[i].ix) ∧ w.cell? ⟨g, off + i * 4 + 1, none⟩ = some (.int .i64 l[i].kind) ∧ w.cell? ⟨g, off + i * 4 + 2, none⟩ = some (.int .i64 l[i].cut) ∧ w.cell? ⟨g, off + i * 4 + 3, none⟩ = some (.string l[i].junk) := by
  obtain ⟨a, cap, g, off, h1, h2, h3, h4⟩ := h
  exact ⟨a, cap, g, off, h1, h2, h3, fun i hi => ⟨h4 _ _ (fateCells_get l i hi).1, h4 _ _ (fateCells_get l i hi).2.1, h4 _ _ (fateCells_get l i hi).2.2.1, h4 _ _ (fateCells_get l i hi).2.2.2⟩⟩
def earl (l : List Fate) (i : Nat) (x : Int) : Bool := (l.take i).any fun g => decide (g.ix = x)
theorem earl_iff (l : List Fate) (i : Nat) (x : Int) : earl l i x = true ↔ ∃ g ∈ l.take i, g.ix = x := by simp [earl]
theorem earl_succ (l : List Fate) (k : Nat) (x : Int) (h : k < l.length) : earl l (k + 1) x = (earl l k x || decide (l[k].ix = x)) := by
  unfold earl
  rw [List.take_succ_eq_append_getElem h, List.any_append]
  simp

set_option maxRecDepth 100000 in
set_option maxHeartbeats 800000 in
theorem rfirst_any (l : List Fate) (v : Value) (i : Nat) (w : World) (hv : FatesIn w v l) (hi : i < l.length) :
    Calls Tryz.prog 74 #[v, .int .i64 (i : Int)] w fun e w' => e = .returned (.bool (!earl l i l[i].ix)) ∧ Below w.heap.size w w' := by
  obtain ⟨a, cap, g, off, rfl, hl, ha, hc⟩ := hv.cells
  obtain ⟨n, hn⟩ : ∃ n, n = l.length := ⟨_, rfl⟩
  have HN : Hid (n = l.length) := hn
  have HC : Hid (∀ i (h : i < l.length), w.cell? ⟨g, off + i * 4, none⟩ = some (.int .i64 l[i].ix)) := fun i h => (hc i h).1
  have c0 := (hc i hi).1
  have HX : Hid (∀ k (h : k < l.length), earl l (k + 1) l[i].ix = (earl l k l[i].ix || decide (l[k].ix = l[i].ix))) := fun k h => earl_succ l k _ h
  have H0 : Hid (earl l 0 l[i].ix = false) := by simp [earl, Hid]
  obtain rfl := ha (by omega)
  have i0 : (0 : Int) ≤ (i : Int) := Int.natCast_nonneg _
  have i1 : (i : Int) < (n : Int) := by omega
  have hin : i < n := by omega
  rw [← hn] at hl ⊢
  generalize l[i].ix = X at *
  clear hc ha hn hi hv
  go_enter Tryz.func74, Tryz.ntmps74
  go_wp2_with fail
  go_loopw [5] (fun j wr => ∃ k m : Nat, k ≤ i ∧ j = .int .i64 (k : Int) ∧ earl l k X = false ∧ wr = w.drewN m) (fun j _ => i - (intOf j).toNat)
  case atStart => exact ⟨0, 0, Nat.zero_le _, rfl, H0.out, rfl⟩
  case round =>
    obtain ⟨k, m, hk, rfl, hE, rfl⟩ := hrel
    have HE : Hid (earl l k X = false) := hE
    clear hE H0
    by_cases hlt : k < i
    · have hkl : k < l.length := by rw [← HN.out]; omega
      have d0 := HC.out k hkl
      have HNX : Hid (earl l (k + 1) X = decide (l[k].ix = X)) := by
        show _ = _
        rw [HX.out k hkl, HE.out]; simp
      have HMO : Hid (l[k].ix = X → earl l i X = true) := fun h => by
        show _ = _
        have : ∃ g ∈ l.take i, g.ix = X := ⟨l[k], by rw [List.mem_take_iff_getElem]; exact ⟨k, by omega, rfl⟩, h⟩
        rw [earl_iff]; exact this
      have k0 : (0 : Int) ≤ (k : Int) := Int.natCast_nonneg _
      have k1 : (k : Int) < (n : Int) := by omega
      have k2 : (k : Int) < (i : Int) := by omega
      generalize l[k].ix = Y at *
      by_cases hx : Y = X
      · have HR : Hid (earl l i X = true) := HMO.out hx
        subst hx
        clear HMO HNX
        go_wp2_with fail
        go_quiet (fail)
        go_wp2_with fail
        go_ret
        exact ⟨congrArg (fun b => Ending.returned (.bool (!b))) HR.out.symm, below_drewN (below_drewN (Below.refl _ _) _) _⟩
      · have HR : Hid (earl l (k + 1) X = false) := by show _ = _; rw [HNX.out]; exact decide_eq_false hx
        have t1 : (Y == X) = false := by simp [hx]
        have t2 : decide (Y = X) = false := decide_eq_false hx
        clear HMO HNX
        go_wp2_with fail
        go_quiet (fail)
        go_wp2_with fail
        exact ⟨⟨k + 1, _, by omega, by go_num, HR.out, rfl⟩, by simp [intOf]; omega⟩
    · have hki : k = i := by omega
      have HR : Hid (earl l i X = false) := hki ▸ HE.out
      have k2 : ¬ (k : Int) < (i : Int) := by omega
      go_wp2_with fail
      go_ret
      exact ⟨congrArg (fun b => Ending.returned (.bool (!b))) HR.out.symm, below_drewN (Below.refl _ _) _⟩


theorem RBody.sett {w : World} {b : Nat} {F : Nat → Prop} {d d' : Dev} {tv lv pv av : Value} (h : RBody w b F d tv lv pv av) (j : Nat) (u : Value) (hc : #[tv, .int .i64 d'.size, lv, pv, .bool d'.dead, av, .int .i64 d'.nr, .int .i64 d'.nw, .int .i64 d'.ns] = #[tv, .int .i64 d.size, lv, pv, .bool d.dead, av, .int .i64 d.nr, .int .i64 d.nw, .int .i64 d.ns].setIfInBounds j u) (hd : d'.dur = d.dur) (hp : d'.pend = d.pend) :
    RBody (w.setCell ⟨b, j, none⟩ u) b F d' tv lv pv av ∧ Step F F w (w.setCell ⟨b, j, none⟩ u) := by
  have hk : ∀ k, k ≠ b → (w.setCell ⟨b, j, none⟩ u).heap[k]? = w.heap[k]? := fun k hk => set_other hk
  have hrow : ∀ v n xs, w.ownsRow 0 72 2 v n xs → (w.setCell ⟨b, j, none⟩ u).ownsRow 0 72 2 v n xs := fun v n xs ho => owns_block ho fun k hk' => hk k (fun e => by
    obtain ⟨_, _, c, hc'⟩ := owns_blk ho k hk'
    rw [e, h.blk] at hc'; simp at hc')
  refine ⟨⟨?_, h.fb, by rw [hd]; exact hrow _ _ _ h.last, h.lf, by rw [hp]; exact hrow _ _ _ h.pend, h.pf, fun k hk' => by rw [set_size]; exact h.lt k hk'⟩, ⟨rfl, rfl, rfl, by rw [set_size]; exact Nat.le_refl _, fun k _ hn => hk k (fun e => hn (by rw [e]; exact h.fb)), fun _ h => .inl h⟩⟩
  rw [hc]; exact set_cells h.blk

set_option maxHeartbeats 400000 in
theorem rrevive_any (b : Nat) (F : Nat → Prop) (d : Dev) (w : World) (h : RAt w b F d) :
    Calls Tryz.prog 27 #[.pointer (some ⟨b, 0, none⟩)] w fun e w' => e = .returned (.tuple #[]) ∧ RAt w' b F d.revive ∧ Step F F w w' := by
  obtain ⟨tv, lv, pv, av, h⟩ := h
  have c4 : w.cell? ⟨b, 4, none⟩ = some (.bool d.dead) := h.cell 4
  have f4 : w.frozen? ⟨b, 4, none⟩ = false := frozen_cells h.blk
  have HS := Hid.mk2 (h.sett (d' := d.revive) 4 (.bool false) rfl rfl rfl)
  clear h
  go_enter Tryz.func27, Tryz.ntmps27
  go_wp2_with fail
  go_end0
  exact ⟨rfl, ⟨_, _, _, _, HS.out.1⟩, HS.out.2⟩

set_option maxHeartbeats 400000 in
theorem rcounts_any (b : Nat) (F : Nat → Prop) (d : Dev) (w : World) (h : RAt w b F d) :
    Calls Tryz.prog 13 #[.pointer (some ⟨b, 0, none⟩)] w fun e w' => e = .returned (.tuple #[.int .i64 d.nr, .int .i64 d.nw, .int .i64 d.ns]) ∧ Below w.heap.size w w' := by
  obtain ⟨tv, lv, pv, av, h⟩ := h
  have c6 : w.cell? ⟨b, 6, none⟩ = some (.int .i64 d.nr) := h.cell 6
  have c7 : w.cell? ⟨b, 7, none⟩ = some (.int .i64 d.nw) := h.cell 7
  have c8 : w.cell? ⟨b, 8, none⟩ = some (.int .i64 d.ns) := h.cell 8
  clear h
  go_enter Tryz.func13, Tryz.ntmps13
  go_wp2_with fail
  go_quiet (fail)
  go_wp2_with fail
  go_ret3
  exact ⟨rfl, below_drewN (Below.refl _ _) _⟩



end Go.Proofs.YtlopimdnjookeabGreatDoor.V

namespace Go.Proofs.YtlopimdnjookeabGreatDoor.V
open Go.RowKit Go.Maps

theorem insD_snoc {x y : Sec} (h : x.ix < y.ix) : ∀ L : List Sec, insD x (L ++ [y]) = insD x L ++ [y]
  | [] => by simp [insD, h]
  | z :: r => by
    rw [List.cons_append]
    unfold insD
    split
    · rfl
    · rw [insD_snoc h r]; rfl
theorem dropD_snoc (i : Int) (L : List Sec) (y : Sec) : dropD i (L ++ [y]) = dropD i L ++ (if y.ix = i then [] else [y]) := by
  unfold dropD
  rw [List.filter_append]
  congr 1
  by_cases h : y.ix = i <;> simp [h]
/-- Where set stands behind so many. -/
def setB (x : Sec) (fb : Bool) (L : List Sec) : Bool := fb && L.any fun y => decide (x.ix ≤ y.ix)
def setO (x : Sec) (fb : Bool) (L : List Sec) : List Sec := if setB x fb L then insD x (dropD x.ix L) else dropD x.ix L
theorem setB_snoc (x : Sec) (fb : Bool) (L : List Sec) (y : Sec) : setB x fb (L ++ [y]) = (setB x fb L || (fb && decide (x.ix ≤ y.ix))) := by
  unfold setB
  rw [List.any_append]
  cases fb <;> simp
theorem setO_snoc (x : Sec) (fb : Bool) (L : List Sec) (y : Sec) (hr : ∀ z ∈ L, z.ix < y.ix) :
    setO x fb (L ++ [y]) = (if (!setB x fb L && (fb && decide (x.ix ≤ y.ix))) = true then setO x fb L ++ [x] else setO x fb L) ++ (if y.ix = x.ix then [] else [y]) := by
  unfold setO
  rw [setB_snoc, dropD_snoc]
  cases hb : setB x fb L with
  | true =>
    unfold setB at hb
    simp only [Bool.and_eq_true, List.any_eq_true, decide_eq_true_eq] at hb
    obtain ⟨_, z, hz, hxz⟩ := hb
    have := hr z hz
    rw [if_neg (show ¬ y.ix = x.ix by omega)]
    simp only [Bool.true_or, if_true, Bool.not_true, Bool.false_and, Bool.false_eq_true, if_false]
    exact insD_snoc (by omega) _
  | false =>
    cases fb with
    | false => simp
    | true =>
      have hlt : ∀ z ∈ L, z.ix < x.ix := fun z hz => by
        unfold setB at hb
        simp only [Bool.true_and, List.any_eq_false, decide_eq_true_eq] at hb
        have := hb z hz
        omega
      have hd : dropD x.ix L = L := dropD_none hlt
      by_cases hxy : x.ix ≤ y.ix
      · simp only [Bool.false_or, Bool.true_and, hxy, decide_true, if_true, Bool.not_false, Bool.false_eq_true, if_false, hd]
        by_cases e : y.ix = x.ix
        · simp only [e, if_true, List.append_nil]
          exact insD_last hlt
        · simp only [e, if_false]
          rw [insD_snoc (by omega), insD_last hlt]
      · have h' : ¬ y.ix = x.ix := by omega
        simp [hxy, h']
theorem setO_end (x : Sec) (l : List Sec) : setD l x.ix x.dat = (if (!setB x (!allZ x.dat) l && !allZ x.dat) = true then setO x (!allZ x.dat) l ++ [x] else setO x (!allZ x.dat) l) := by
  unfold setD setO
  cases hz : allZ x.dat with
  | true => simp [setB]
  | false =>
    cases hb : setB x true l with
    | true => simp [hb]
    | false =>
      have hlt : ∀ z ∈ l, z.ix < x.ix := fun z hz => by
        unfold setB at hb
        simp only [Bool.true_and, List.any_eq_false, decide_eq_true_eq] at hb
        have := hb z hz
        omega
      have hd : dropD x.ix l = l := dropD_none hlt
      simp only [Bool.not_false, Bool.false_eq_true, if_false, hb, hd, Bool.and_self, if_true]
      exact insD_last (x := ⟨x.ix, x.dat⟩) hlt
theorem setO_len (x : Sec) (fb : Bool) (L : List Sec) : (setO x fb L).length ≤ L.length + 1 := by
  have hi : ∀ M : List Sec, (insD x M).length = M.length + 1 := fun M => by
    induction M with
    | nil => rfl
    | cons y r ih => unfold insD; split <;> simp [ih]
  have hd : (dropD x.ix L).length ≤ L.length := List.length_filter_le _ _
  unfold setO
  split
  · rw [hi]; omega
  · omega



end Go.Proofs.YtlopimdnjookeabGreatDoor.V

namespace Go.Proofs.YtlopimdnjookeabGreatDoor.V
open Go.RowKit Go.Maps

theorem owns_mono {w : World} {n m e size len : Nat} {v : Value} {xs : List Value} (h : w.ownsRow n e size v len xs) (hm : m ≤ n) : w.ownsRow m e size v len xs := ⟨h.1, h.2.imp id fun ⟨g, cap, cur, q1, q2, q3⟩ => ⟨g, cap, cur, q1, Nat.le_trans hm q2, q3⟩⟩
structure RSetInv (w wr : World) (v : Value) (x : Sec) (fb dn : Bool) (l : List Sec) (k : Nat) : Prop where
  row : wr.ownsRow w.heap.size 72 2 v (setO x fb (l.take k)).length (secCells (setO x fb (l.take k)))
  dn : dn = setB x fb (l.take k)
  bel : Below w.heap.size w wr

set_option maxRecDepth 100000 in
set_option maxHeartbeats 1600000 in
theorem rset_any (l : List Sec) (v : Value) (x : Sec) (w : World) (hv : SecsIn w v l) (hr : l.Pairwise fun x y => x.ix < y.ix) (hx : x.dat.size = 512) (hl : (l.length + 1) * 24 ≤ 140737488355328) :
    Calls Tryz.prog 54 #[v, .agg #[.int .i64 x.ix, .string x.dat]] w fun e w' => ∃ v', e = .returned v' ∧ w'.ownsRow w.heap.size 72 2 v' (setD l x.ix x.dat).length (secCells (setD l x.ix x.dat)) ∧ Below w.heap.size w w' := by
  obtain ⟨i0, hi, hz0, hz1, hz2⟩ := info_parts Tryz.info72
  obtain ⟨a, cap, g, off, rfl, hlb, ha, hc⟩ := hv
  obtain ⟨N, hN⟩ : ∃ N, N = l.length := ⟨_, rfl⟩
  have HN := Hid.mk2 hN
  have HC : Hid (∀ i (h : i < l.length), w.cell? ⟨g, off + i * 2, none⟩ = some (.int .i64 l[i].ix) ∧ w.cell? ⟨g, off + i * 2 + 1, none⟩ = some (.string l[i].dat)) := fun i h => ⟨hc _ _ (secCells_get l i h).1, hc _ _ (secCells_get l i h).2⟩
  have HRI : Hid (∀ k (h : k < l.length), ∀ z ∈ l.take k, z.ix < l[k].ix) := fun k h z hz => by
    obtain ⟨j, hj, rfl⟩ := List.getElem_of_mem hz
    rw [List.length_take] at hj
    rw [List.getElem_take]
    exact List.pairwise_iff_getElem.1 hr j k (by omega) h (by omega)
  have HEND := Hid.mk2 (setO_end x l)
  obtain ⟨fb, hfb⟩ : ∃ fb, fb = !allZ x.dat := ⟨_, rfl⟩
  have HFB := Hid.mk2 hfb
  have HZ : Hid (∀ w', Calls Tryz.prog 72 #[.string x.dat] w' fun e w'' => e = .returned (.bool (allZ x.dat)) ∧ w' = w'') := fun w' => rzero_any _ w' (by omega)
  rw [← hN] at ha hl hlb ⊢
  obtain ⟨W, hW⟩ : ∃ W, W = w.alloc (.cells #[.int .i64 x.ix, .string x.dat] 72) := ⟨_, rfl⟩
  have hbx : Boxed w.heap.size [.int .i64 x.ix, .string x.dat] W := by rw [hW]; exact boxed_new w #[.int .i64 x.ix, .string x.dat] 72
  have hb0 : Below w.heap.size w W := by rw [hW]; exact below_new _ _
  have HBX := Hid.mk2 hbx
  have HB0 := Hid.mk2 hb0
  have HWD := Hid.mk2 hW
  rw [← hfb] at HEND
  obtain ⟨az, haz⟩ : ∃ az, az = allZ x.dat := ⟨_, rfl⟩
  rw [← haz] at HZ hfb
  have hnz : (!az) = fb := hfb.symm
  have HI : Hid (RSetInv W W (Value.slice none 0 0) x fb false l 0) := ⟨by rw [show setO x fb (l.take 0) = [] by simp [setO, setB, dropD]]; exact World.ownsRow_nil W _ _ _, by simp [setB], Below.refl _ _⟩
  clear hc hN hr hx hbx hb0 hW hfb haz
  go_enter Tryz.func54, Tryz.ntmps54
  go_wp2_with fail
  rw [← HWD.out]
  refine (HZ.out W).mono ?_
  rintro e w1 ⟨rfl, rfl⟩
  clear HZ
  go_wp2_with fail
  go_loopw [5, 7, 8] (fun ov dv i wr => ∃ (k : Nat) (dn : Bool), k ≤ N ∧ i = .int .i64 (k : Int) ∧ dv = .bool dn ∧ RSetInv W wr ov x fb dn l k) (fun _ _ i _ => N - (intOf i).toNat)
  case atStart => exact ⟨0, false, Nat.zero_le _, rfl, rfl, HI.out⟩
  case round =>
    obtain ⟨k, dn, hk, rfl, rfl, inv⟩ := hrel
    have INV := Hid.mk2 inv
    have b0 : wr.cell? ⟨w.heap.size, 0, none⟩ = some (.int .i64 x.ix) := (HBX.out.below inv.bel).2 0 (by simp)
    have b1 : wr.cell? ⟨w.heap.size, 1, none⟩ = some (.string x.dat) := (HBX.out.below inv.bel).2 1 (by simp)
    by_cases hlt : k < N
    · obtain rfl := ha (by omega)
      have hkl : k < l.length := by rw [← HN.out]; exact hlt
      have y0 := cell_below (Below.next HB0.out inv.bel) (HC.out k hkl).1
      have y1 := cell_below (Below.next HB0.out inv.bel) (HC.out k hkl).2
      have k0 : (0 : Int) ≤ (k : Int) := Int.natCast_nonneg _
      have k1 : (k : Int) < (N : Int) := by omega
      have HO := Hid.mk2 (setO_snoc x fb (l.take k) l[k] (HRI.out k hkl))
      have HB := Hid.mk2 (setB_snoc x fb (l.take k) l[k])
      rw [← List.take_succ_eq_append_getElem hkl, ← inv.dn] at HO HB
      generalize hyk : l[k] = y at *
      have HYK := Hid.mk2 hyk
      clear inv HI hyk
      have HLEN : Hid ((setO x fb (l.take k)).length ≤ k + 1) := Nat.le_trans (setO_len x fb _) (by rw [List.length_take]; omega)
      cases dn with
      | true =>
        rw [Bool.true_or] at HB
        rw [if_neg (by simp)] at HO
        go_wp2_with fail
        go_quiet (fail)
        go_wp2_with fail
        by_cases e : y.ix = x.ix
        · have en : (y.ix != x.ix) = false := by simp [e]
          rw [if_pos e, List.append_nil] at HO
          clear e
          go_quiet (fail)
          go_wp2_with fail
          refine ⟨⟨k + 1, true, by omega, by simp, rfl, ?_⟩, ?_⟩
          · exact ⟨by rw [HO.out]; exact owns_drewN INV.out.row _, HB.out.symm, below_drewN INV.out.bel _⟩
          · simp only [intOf]
            omega
        · have en : (y.ix != x.ix) = true := by simp [e]
          rw [if_neg e] at HO
          clear e
          go_quiet (fail)
          go_wp2_with (first
            | (at_builtin; refine wpList_append_lies _ rfl _ _ 38 rfl W.heap.size 72 i0 (.agg #[.int .i64 0, .string ⟨#[]⟩]) 2 24 Tryz.underlying38 hi hz0 hz1 hz2 rfl (by decide) _ _ _ rfl ((owns_drewN INV.out.row _).alloc _) ⟨wr.heap.size, 0, none⟩ 1 1 [.int .i64 y.ix, .string y.dat] rfl rfl ?c1 ?c2 ?c3 ?c4 ?c5 ?c6 (wr.heap.size + 1) ?c7 ?_))
          case c1 => exact World.news_of_block (heap_alloc_new _ _)
          case c2 => intro u hu; simp at hu; rcases hu with rfl | rfl <;> rfl
          case c3 => decide
          case c4 => have := HLEN.out; unfold maxLen; omega
          case c5 => have := HLEN.out; omega
          case c6 => have := INV.out.bel.size; simp; omega
          case c7 => simp
          intro g2 cap2 w3 hown3 hgrow3 hat3 hlg3
          have hb3 : Below W.heap.size W w3 := Below.grown ((below_drewN INV.out.bel _).alloc (by have := INV.out.bel.size; exact this) _) hgrow3 (by have := INV.out.bel.size; simp; omega) (fun j hj => (owns_blk INV.out.row j hj).1)
          have V : RSetInv W w3 _ x _ true l (k + 1) := ⟨by rw [HO.out, secCells_app, List.length_append]; exact hown3, HB.out.symm, hb3⟩
          clear hown3 hgrow3 hat3 hlg3 hb3
          go_wp2_with fail
          refine ⟨⟨k + 1, true, by omega, by simp, rfl, V⟩, ?_⟩
          simp only [intOf]
          omega
      | false =>
        cases fb with
        | false =>
          rw [Bool.false_and, Bool.or_false] at HB
          rw [if_neg (by simp)] at HO
          go_wp2_with fail
          go_quiet (fail)
          go_wp2_with fail
          by_cases e : y.ix = x.ix
          · have en : (y.ix != x.ix) = false := by simp [e]
            rw [if_pos e, List.append_nil] at HO
            clear e
            go_quiet (fail)
            go_wp2_with fail
            refine ⟨⟨k + 1, false, by omega, by simp, rfl, ?_⟩, ?_⟩
            · exact ⟨by rw [HO.out]; exact owns_drewN INV.out.row _, HB.out.symm, below_drewN INV.out.bel _⟩
            · simp only [intOf]
              omega
          · have en : (y.ix != x.ix) = true := by simp [e]
            rw [if_neg e] at HO
            clear e
            go_quiet (fail)
            go_wp2_with (first
              | (at_builtin; refine wpList_append_lies _ rfl _ _ 38 rfl W.heap.size 72 i0 (.agg #[.int .i64 0, .string ⟨#[]⟩]) 2 24 Tryz.underlying38 hi hz0 hz1 hz2 rfl (by decide) _ _ _ rfl ((owns_drewN INV.out.row _).alloc _) ⟨wr.heap.size, 0, none⟩ 1 1 [.int .i64 y.ix, .string y.dat] rfl rfl ?c1 ?c2 ?c3 ?c4 ?c5 ?c6 (wr.heap.size + 1) ?c7 ?_))
            case c1 => exact World.news_of_block (heap_alloc_new _ _)
            case c2 => intro u hu; simp at hu; rcases hu with rfl | rfl <;> rfl
            case c3 => decide
            case c4 => have := HLEN.out; unfold maxLen; omega
            case c5 => have := HLEN.out; omega
            case c6 => have := INV.out.bel.size; simp; omega
            case c7 => simp
            intro g2 cap2 w3 hown3 hgrow3 hat3 hlg3
            have hb3 : Below W.heap.size W w3 := Below.grown ((below_drewN INV.out.bel _).alloc (by have := INV.out.bel.size; exact this) _) hgrow3 (by have := INV.out.bel.size; simp; omega) (fun j hj => (owns_blk INV.out.row j hj).1)
            have V : RSetInv W w3 _ x _ false l (k + 1) := ⟨by rw [HO.out, secCells_app, List.length_append]; exact hown3, HB.out.symm, hb3⟩
            clear hown3 hgrow3 hat3 hlg3 hb3
            go_wp2_with fail
            refine ⟨⟨k + 1, false, by omega, by simp, rfl, V⟩, ?_⟩
            simp only [intOf]
            omega
        | true =>
          by_cases hxy : x.ix ≤ y.ix
          · have hge : y.ix ≥ x.ix := hxy
            rw [show (false || (true && decide (x.ix ≤ y.ix))) = true by simp [hxy]] at HB
            rw [if_pos (by simp [hxy])] at HO
            clear hxy
            go_wp2_with fail
            go_quiet (fail)
            go_wp2_with (first
              | (at_builtin; refine wpList_append_lies _ rfl _ _ 38 rfl W.heap.size 72 i0 (.agg #[.int .i64 0, .string ⟨#[]⟩]) 2 24 Tryz.underlying38 hi hz0 hz1 hz2 rfl (by decide) _ _ _ rfl ((owns_drewN INV.out.row _).alloc _) ⟨wr.heap.size, 0, none⟩ 1 1 [.int .i64 x.ix, .string x.dat] rfl rfl ?c1 ?c2 ?c3 ?c4 ?c5 ?c6 (wr.heap.size + 1) ?c7 ?_))
            case c1 => exact World.news_of_block (heap_alloc_new _ _)
            case c2 => intro u hu; simp at hu; rcases hu with rfl | rfl <;> rfl
            case c3 => decide
            case c4 => have := HLEN.out; unfold maxLen; omega
            case c5 => have := HLEN.out; omega
            case c6 => have := INV.out.bel.size; simp; omega
            case c7 => simp
            intro g1 cap1 w2 hown2 hgrow2 hat2 hlg2
            have hb2 : Below W.heap.size W w2 := Below.grown ((below_drewN INV.out.bel _).alloc (by have := INV.out.bel.size; exact this) _) hgrow2 (by have := INV.out.bel.size; simp; omega) (fun j hj => (owns_blk INV.out.row j hj).1)
            have HB2 := Hid.mk2 hb2
            have HR2 : Hid (w2.ownsRow W.heap.size 72 2 (.slice (some ⟨g1, 0, none⟩) ((setO x true (l.take k)).length + 1) cap1) (setO x true (l.take k) ++ [x]).length (secCells (setO x true (l.take k) ++ [x]))) := by
              rw [secCells_app, List.length_append]; exact hown2
            have hl2 : (setO x true (l.take k) ++ [x]).length = (setO x true (l.take k)).length + 1 := by simp
            have HL2 := Hid.mk2 hl2
            have y0' := cell_below (Below.next HB0.out hb2) (HC.out k hkl).1
            have y1' := cell_below (Below.next HB0.out hb2) (HC.out k hkl).2
            have b0' : w2.cell? ⟨w.heap.size, 0, none⟩ = some (.int .i64 x.ix) := (HBX.out.below hb2).2 0 (by simp)
            have b1' : w2.cell? ⟨w.heap.size, 1, none⟩ = some (.string x.dat) := (HBX.out.below hb2).2 1 (by simp)
            rw [HYK.out] at y0' y1'
            clear hown2 hgrow2 hat2 hlg2 hb2 y0 y1 b0 b1 hl2
            have HLEN : Hid ((setO x true (l.take k) ++ [x]).length ≤ k + 1) := by
              show _ ≤ _
              rw [List.length_append]
              unfold setO
              rw [← INV.out.dn]
              have : (dropD x.ix (l.take k)).length ≤ (l.take k).length := List.length_filter_le _ _
              rw [List.length_take] at this
              simp
              omega
            go_wp2_with fail
            by_cases e : y.ix = x.ix
            · have en : (y.ix != x.ix) = false := by simp [e]
              rw [if_pos e, List.append_nil] at HO
              clear e
              go_quiet (fail)
              go_wp2_with fail
              refine ⟨⟨k + 1, true, by omega, by simp, rfl, ?_⟩, ?_⟩
              · exact ⟨by rw [HO.out]; exact owns_drewN HR2.out _, HB.out.symm, below_drewN HB2.out _⟩
              · simp only [intOf]
                omega
            · have en : (y.ix != x.ix) = true := by simp [e]
              rw [if_neg e] at HO
              clear e
              go_quiet (fail)
              go_wp2_with (first
                | (at_builtin; refine wpList_append_lies _ rfl _ _ 38 rfl W.heap.size 72 i0 (.agg #[.int .i64 0, .string ⟨#[]⟩]) 2 24 Tryz.underlying38 hi hz0 hz1 hz2 rfl (by decide) _ _ _ rfl ((owns_drewN HR2.out _).alloc _) ⟨w2.heap.size, 0, none⟩ 1 1 [.int .i64 y.ix, .string y.dat] rfl rfl ?c1 ?c2 ?c3 ?c4 ?c5 ?c6 (w2.heap.size + 1) ?c7 ?_))
              case c1 => exact World.news_of_block (heap_alloc_new _ _)
              case c2 => intro u hu; simp at hu; rcases hu with rfl | rfl <;> rfl
              case c3 => decide
              case c4 => have := HLEN.out; unfold maxLen; omega
              case c5 => have := HLEN.out; omega
              case c6 => have := HB2.out.size; simp; omega
              case c7 => simp
              intro g2 cap2 w3 hown3 hgrow3 hat3 hlg3
              have hb3 : Below W.heap.size W w3 := Below.grown ((below_drewN HB2.out _).alloc (by have := HB2.out.size; exact this) _) hgrow3 (by have := HB2.out.size; simp; omega) (fun j hj => (owns_blk HR2.out j hj).1)
              have V : RSetInv W w3 _ x _ true l (k + 1) := ⟨by rw [HO.out, secCells_app, List.length_append, HL2.out]; exact hown3, HB.out.symm, hb3⟩
              clear hown3 hgrow3 hat3 hlg3 hb3
              go_wp2_with fail
              refine ⟨⟨k + 1, true, by omega, by simp, rfl, V⟩, ?_⟩
              simp only [intOf]
              omega
          · have hge : ¬ y.ix ≥ x.ix := hxy
            rw [show (false || (true && decide (x.ix ≤ y.ix))) = false by simp [hxy]] at HB
            rw [if_neg (by simp [hxy])] at HO
            clear hxy
            go_wp2_with fail
            go_quiet (fail)
            go_wp2_with fail
            by_cases e : y.ix = x.ix
            · have en : (y.ix != x.ix) = false := by simp [e]
              rw [if_pos e, List.append_nil] at HO
              clear e
              go_quiet (fail)
              go_wp2_with fail
              refine ⟨⟨k + 1, false, by omega, by simp, rfl, ?_⟩, ?_⟩
              · exact ⟨by rw [HO.out]; exact owns_drewN INV.out.row _, HB.out.symm, below_drewN INV.out.bel _⟩
              · simp only [intOf]
                omega
            · have en : (y.ix != x.ix) = true := by simp [e]
              rw [if_neg e] at HO
              clear e
              go_quiet (fail)
              go_wp2_with (first
                | (at_builtin; refine wpList_append_lies _ rfl _ _ 38 rfl W.heap.size 72 i0 (.agg #[.int .i64 0, .string ⟨#[]⟩]) 2 24 Tryz.underlying38 hi hz0 hz1 hz2 rfl (by decide) _ _ _ rfl ((owns_drewN INV.out.row _).alloc _) ⟨wr.heap.size, 0, none⟩ 1 1 [.int .i64 y.ix, .string y.dat] rfl rfl ?c1 ?c2 ?c3 ?c4 ?c5 ?c6 (wr.heap.size + 1) ?c7 ?_))
              case c1 => exact World.news_of_block (heap_alloc_new _ _)
              case c2 => intro u hu; simp at hu; rcases hu with rfl | rfl <;> rfl
              case c3 => decide
              case c4 => have := HLEN.out; unfold maxLen; omega
              case c5 => have := HLEN.out; omega
              case c6 => have := INV.out.bel.size; simp; omega
              case c7 => simp
              intro g2 cap2 w3 hown3 hgrow3 hat3 hlg3
              have hb3 : Below W.heap.size W w3 := Below.grown ((below_drewN INV.out.bel _).alloc (by have := INV.out.bel.size; exact this) _) hgrow3 (by have := INV.out.bel.size; simp; omega) (fun j hj => (owns_blk INV.out.row j hj).1)
              have V : RSetInv W w3 _ x _ false l (k + 1) := ⟨by rw [HO.out, secCells_app, List.length_append]; exact hown3, HB.out.symm, hb3⟩
              clear hown3 hgrow3 hat3 hlg3 hb3
              go_wp2_with fail
              refine ⟨⟨k + 1, false, by omega, by simp, rfl, V⟩, ?_⟩
              simp only [intOf]
              omega
    · have k1 : ¬ (k : Int) < (N : Int) := by omega
      have hkN : l.take k = l := List.take_of_length_le (by rw [← HN.out]; omega)
      have hrow := inv.row
      have hdn := inv.dn
      rw [hkN] at hrow hdn
      have HROW := Hid.mk2 hrow
      have HBE := Hid.mk2 inv.bel
      have HE := HEND
      rw [← hdn] at HE
      have HLEN : Hid (dn = false → (setO x fb l).length ≤ N) := fun h => by
        unfold setO
        rw [← hdn, h]
        have : (dropD x.ix l).length ≤ l.length := List.length_filter_le _ _
        rw [← HN.out] at this
        simpa using this
      clear inv hrow hdn hkN HI ha
      cases dn with
      | true =>
        rw [if_neg (by simp)] at HE
        go_wp2_with fail
        go_wp2_with fail
        go_ret
        rw [HE.out]
        exact ⟨_, rfl, owns_mono HROW.out HB0.out.size, Below.next HB0.out HBE.out⟩
      | false =>
        cases fb with
        | false =>
          rw [if_neg (by simp)] at HE
          go_wp2_with fail
          go_wp2_with fail
          go_ret
          rw [HE.out]
          exact ⟨_, rfl, owns_mono HROW.out HB0.out.size, Below.next HB0.out HBE.out⟩
        | true =>
          rw [if_pos (by simp)] at HE
          go_wp2_with (first
            | (at_builtin; refine wpList_append_lies _ rfl _ _ 38 rfl W.heap.size 72 i0 (.agg #[.int .i64 0, .string ⟨#[]⟩]) 2 24 Tryz.underlying38 hi hz0 hz1 hz2 rfl (by decide) _ _ _ rfl (HROW.out.alloc _) ⟨wr.heap.size, 0, none⟩ 1 1 [.int .i64 x.ix, .string x.dat] rfl rfl ?c1 ?c2 ?c3 ?c4 ?c5 ?c6 (wr.heap.size + 1) ?c7 ?_))
          case c2 => exact ⟨rfl, rfl⟩
          case c4 => have := HLEN.out trivial; unfold maxLen; omega
          case c5 => have := HLEN.out trivial; omega
          case c6 => have := HBE.out.size; omega
          intro g1 cap1 w2 hown2 hgrow2 hat2 hlg2
          have hb2 : Below W.heap.size W w2 := Below.grown (HBE.out.alloc (by have := HBE.out.size; exact this) _) hgrow2 (by have := HBE.out.size; simp; omega) (fun j hj => (owns_blk HROW.out j hj).1)
          have HR2 : Hid (w2.ownsRow W.heap.size 72 2 (.slice (some ⟨g1, 0, none⟩) ((setO x true l).length + 1) cap1) (setO x true l ++ [x]).length (secCells (setO x true l ++ [x])) ∧ Below W.heap.size W w2) := by
            refine ⟨?_, hb2⟩
            rw [secCells_app, List.length_append]; exact hown2
          clear hown2 hgrow2 hat2 hlg2 hb2
          go_wp2_with fail
          go_ret
          rw [HE.out]
          exact ⟨_, rfl, owns_mono HR2.out.1 HB0.out.size, Below.next HB0.out HR2.out.2⟩



end Go.Proofs.YtlopimdnjookeabGreatDoor.V

namespace Go.Proofs.YtlopimdnjookeabGreatDoor.V
open Go.RowKit Go.Maps

set_option maxHeartbeats 400000 in
theorem rclampT_any (n : Int) (w : World) : Calls Tryz.prog 14 #[.int .i64 n, .int .i64 0, .int .i64 512] w fun e w' => e = .returned (.int .i64 (cutOf n : Int)) ∧ w = w' := by
  have H1 : Hid (n < 0 → (cutOf n : Int) = 0) := fun h => by unfold cutOf clampN; rw [if_pos h]; rfl
  have H2 : Hid (¬ n < 0 → 512 < n → (cutOf n : Int) = 512) := fun h h' => by unfold cutOf clampN; rw [if_neg h, if_pos h']; rfl
  have H3 : Hid (¬ n < 0 → ¬ 512 < n → (cutOf n : Int) = n) := fun h h' => by unfold cutOf clampN; rw [if_neg h, if_neg h']; omega
  generalize (cutOf n : Int) = c at *
  go_enter Tryz.func14, Tryz.ntmps14
  by_cases h : n < 0
  · go_wp2_with fail
    go_ret
    exact ⟨ret_int (H1.out h).symm, rfl⟩
  · by_cases h' : 512 < n
    · go_wp2_with fail
      go_ret
      exact ⟨ret_int (H2.out h h').symm, rfl⟩
    · go_wp2_with fail
      go_ret
      exact ⟨ret_int (H3.out h h').symm, rfl⟩

theorem torn_full (D J : ByteArray) (f : Fate) (hf : f.junk = J) (c : Nat) (hc : c = cutOf f.cut) (r : ByteArray) (hr : r = mkb ((bl D).take c)) : (r ++ J ++ zsec).extract 0 512 = tornB D f := by
  subst hr hc hf
  apply bl_inj
  rw [bl_head, bl_cat, bl_cat, bl_mkb]
  unfold tornB
  rw [bl_mkb]
  rfl

set_option maxRecDepth 100000 in
set_option maxHeartbeats 1600000 in
theorem rtorn_any (D : ByteArray) (f : Fate) (w : World) (hD : D.size = 512) (hJ : f.junk.size ≤ 1048576) : Calls Tryz.prog 76 #[.string D, .agg #[.int .i64 f.ix, .int .i64 f.kind, .int .i64 f.cut, .string f.junk]] w fun e w' => e = .returned (.string (tornB D f)) ∧ Below w.heap.size w w' := by
  obtain ⟨fi, fk, fc, J⟩ := f
  have hle := cutOf_le fc
  simp only [] at hJ
  have HE : Hid (∀ n, D.extract 0 n = mkb ((bl D).take n)) := fun n => ext_take D n
  have HA : Hid (D = mkb ((bl D).take 512)) := take_all D 512 (by omega)
  have HT : Hid (∀ r, r = mkb ((bl D).take (cutOf fc)) → Ending.returned (.string ((r ++ J ++ zsec).extract 0 512)) = .returned (.string (tornB D ⟨fi, fk, fc, J⟩))) := fun r hr => by rw [torn_full D J ⟨fi, fk, fc, J⟩ rfl _ rfl r hr]
  have HCL := Hid.mk2 (rclampT_any fc (w.alloc (.cells #[.int .i64 fi, .int .i64 fk, .int .i64 fc, .string J] 114)))
  generalize cutOf fc = c at *
  have hex : (D.extract 0 c).size = c := by rw [← bl_len, bl_head, List.length_take, bl_len]; omega
  have hzs : zsec.size = 512 := zsec_size
  have hb := below_new w (.cells #[.int .i64 fi, .int .i64 fk, .int .i64 fc, .string J] 114)
  have hbx := (boxed_new w #[.int .i64 fi, .int .i64 fk, .int .i64 fc, .string J] 114).2
  have c3 : (w.alloc (.cells #[.int .i64 fi, .int .i64 fk, .int .i64 fc, .string J] 114)).cell? ⟨w.heap.size, 3, none⟩ = some (.string J) := hbx 3 (by simp)
  have hJ1 : (D.extract 0 c ++ J).size = c + J.size := by rw [ByteArray.size_append, hex]
  have hJ2 : (D ++ J).size = 512 + J.size := by rw [ByteArray.size_append, hD]
  clear hbx
  obtain ⟨WB, hWB⟩ : ∃ W, W = w.alloc (.cells #[.int .i64 fi, .int .i64 fk, .int .i64 fc, .string J] 114) := ⟨_, rfl⟩
  have HB : Hid (Below w.heap.size w WB) := by rw [hWB]; exact hb
  have HWB : Hid (WB = w.alloc (.cells #[.int .i64 fi, .int .i64 fk, .int .i64 fc, .string J] 114)) := hWB
  rw [← hWB] at c3
  have i0 : (512 : Int) ≤ (D.size : Int) := by omega
  have i1 : (c : Int) ≤ (D.size : Int) := by omega
  have i2 : (0 : Int) ≤ (c : Int) := by omega
  have z1 : ¬ 9223372036854775807 < c + J.size := by omega
  have z2 : ¬ 9223372036854775807 < c + J.size + 512 := by omega
  clear hb hWB
  go_enter Tryz.func76, Tryz.ntmps76
  go_wp2_with fail
  refine HCL.out.mono ?_
  rintro e w' ⟨rfl, rfl⟩
  rw [← HWB.out]
  clear HCL
  go_wp2_with fail
  go_region_held (fun w' => w'.cell? ⟨w.heap.size, 3, none⟩ = some (.string J)) (go_keep)
    (first
      | (go_at_call 99; refine (rzeros_any _).mono ?_; rintro e w1 ⟨rfl, hbd⟩; have hb1 := undrew hbd; clear hbd; have k3 := cell_below hb1 c3))
  all_goals
    have HR : Hid (Below w.heap.size w w1) := Below.next HB.out hb1
    clear hb1 k3 c3 HB HWB
    go_wp2_with fail
    go_ret
    exact ⟨HT.out _ (by first | rw [HE.out] | exact HA.out), HR.out⟩

end Go.Proofs.YtlopimdnjookeabGreatDoor.V

namespace Go.Proofs.YtlopimdnjookeabGreatDoor.V
open Go.RowKit Go.Maps

/-- The arms, in a row that may begin behind some that are gone. -/
def RArmsAt (w : World) (F : Nat → Prop) (v : Value) (l : List Armed) : Prop :=
  (l = [] ∧ v = .slice none 0 0) ∨ ∃ g off cap cur, ∃ fv : List Value, v = .slice (some ⟨g, off, none⟩) l.length cap ∧ F g ∧ w.heap[g]? = some (.cells cur 97 (0, 0)) ∧ l.length ≤ cap ∧ cap ≤ maxLen ∧ off + cap * 2 ≤ cur.size ∧ fv.length = l.length ∧
    ∀ i (h : i < l.length) (h' : i < fv.length), cur[off + i * 2]? = some (.int .i64 l[i].after) ∧ cur[off + i * 2 + 1]? = some fv[i] ∧ w.ownsRow 0 114 4 fv[i] l[i].fates.length (fateCells l[i].fates) ∧ ∀ k, fv[i].ownBlock = some k → F k
theorem RArmsAt.block {w w' : World} {F : Nat → Prop} {v : Value} {l : List Armed} (h : RArmsAt w F v l) (hb : ∀ k cur, w.heap[k]? = some (.cells cur 97 (0, 0)) ∨ w.heap[k]? = some (.cells cur 114 (0, 0)) → F k → w'.heap[k]? = w.heap[k]?) : RArmsAt w' F v l := by
  rcases h with h | ⟨g, off, cap, cur, fv, h1, h2, h3, h4, h5, h6, h7, h8⟩
  · exact .inl h
  · refine .inr ⟨g, off, cap, cur, fv, h1, h2, (hb g cur (.inl h3) h2).trans h3, h4, h5, h6, h7, fun i h h' => ?_⟩
    obtain ⟨k1, k2, k3, k4⟩ := h8 i h h'
    refine ⟨k1, k2, owns_block k3 fun k hk => ?_, k4⟩
    obtain ⟨_, _, c, hc⟩ := owns_blk k3 k hk
    exact hb k c (.inr hc) (k4 k hk)
theorem RArmsAt.imp {w : World} {F G : Nat → Prop} {v : Value} {l : List Armed} (h : RArmsAt w F v l) (hf : ∀ k, F k → G k) : RArmsAt w G v l := by
  rcases h with h | ⟨g, off, cap, cur, fv, h1, h2, h3, h4, h5, h6, h7, h8⟩
  · exact .inl h
  · exact .inr ⟨g, off, cap, cur, fv, h1, hf g h2, h3, h4, h5, h6, h7, fun i h h' => ⟨(h8 i h h').1, (h8 i h h').2.1, (h8 i h h').2.2.1, fun k hk => hf k ((h8 i h h').2.2.2 k hk)⟩⟩
theorem Tryz.info97 : (Tryz.prog.info? 97).map (fun i => (i.zero, i.size, i.bytes)) = some (some (.agg #[.int .i64 0, .slice none 0 0]), 2, 32) := by kernel_rfl

/-- What an append to the arms leaves. -/
structure RArmStep (w w' : World) (F : Nat → Prop) (g : Nat) : Prop where
  os : w'.os = w.os
  tape : w'.tape = w.tape
  output : w'.output = w.output
  size : w.heap.size ≤ w'.heap.size
  block : ∀ k, k < w.heap.size → k ≠ g → w'.heap[k]? = w.heap[k]?
  at' : (g < w.heap.size → F g ∧ ∃ cur, w.heap[g]? = some (.cells cur 97 (0, 0)))
  lt : g < w'.heap.size

/-- One arm more. -/
theorem rarm_append (ty : TypeId) (w : World) (v : Value) (l : List Armed) (F : Nat → Prop) (h : RArmsAt w F v l) (B n0 : Nat) (u0 : Int) (fs : List Fate) (u1 : Value) (hB : w.heap[B]? = some (.cells #[.int .i64 u0, u1] 97 (0, 0)))
    (hf : w.ownsRow n0 114 4 u1 fs.length (fateCells fs)) (h0 : n0 ≤ w.heap.size) (hn : (l.length + 1) * 32 ≤ 140737488355328) :
    ∃ g off cap w', (Builtin.append_ #[50, 50] ty #[v, .slice (some ⟨B, 0, none⟩) 1 1]).run Tryz.prog w = .ok (.slice (some ⟨g, off, none⟩) (l.length + 1) cap) w' ∧
      RArmsAt w' (fun k => F k ∨ (n0 ≤ k ∧ k < w'.heap.size)) (.slice (some ⟨g, off, none⟩) (l.length + 1) cap) (l ++ [⟨u0, fs⟩]) ∧ RArmStep w w' F g := by
  obtain ⟨i0, hi, hz0, hz1, hz2⟩ := info_parts Tryz.info97
  have hun : Tryz.prog.underlying 50 = some (.slice 97) := Tryz.underlying50
  obtain ⟨fa, fc, rfl, -⟩ := owns_form hf
  have hs : ∀ W : World, W.heap[B]? = some (.cells #[Value.int .i64 u0, Value.slice fa fs.length fc] 97 (0, 0)) → Src Tryz.prog i0.size 50 (.slice (some ⟨B, 0, none⟩) 1 1) 1 [Value.int .i64 u0, Value.slice fa fs.length fc] W := fun W hW => Src.ofSlice W hun ⟨B, 0, none⟩ 1 1 _ (by rw [hz1]; rfl) (World.news_of_block hW) (by intro u hu; simp at hu; rcases hu with rfl | rfl <;> rfl)
  have hblk : ∀ k cur e, w.heap[k]? = some (Obj.cells cur e (0, 0)) → k < w.heap.size := fun k cur e hk => (Array.getElem?_eq_some_iff.1 hk).1
  -- what a new row gives
  have grow : ∀ (bs : Option Addr) (sc : Nat) (fv : List Value), v = .slice bs l.length sc → sc < l.length + 1 → fv.length = l.length →
      (∀ i (h : i < l.length) (h' : i < fv.length), w.ownsRow 0 114 4 fv[i] l[i].fates.length (fateCells l[i].fates) ∧ ∀ k, fv[i].ownBlock = some k → F k) →
      (Builtin.firstCells i0.size l.length (.slice bs l.length sc)).run Tryz.prog w.drew = .ok (armCells l fv).toArray w.drew →
      ∃ g off cap w', (Builtin.append_ #[50, 50] ty #[v, .slice (some ⟨B, 0, none⟩) 1 1]).run Tryz.prog w = .ok (.slice (some ⟨g, off, none⟩) (l.length + 1) cap) w' ∧
      RArmsAt w' (fun k => F k ∨ (n0 ≤ k ∧ k < w'.heap.size)) (.slice (some ⟨g, off, none⟩) (l.length + 1) cap) (l ++ [⟨u0, fs⟩]) ∧ RArmStep w w' F g := by
    rintro bs sc fv rfl hsc hfl hfr hold
    have hrun := run_append_grow_src (P := Tryz.prog) w 50 50 ty 97 i0 (.agg #[.int .i64 0, .slice none 0 0]) hun hi hz0 bs l.length sc (armCells l fv) hold (.slice (some ⟨B, 0, none⟩) 1 1) 1 _ (hs w hB) hsc (by omega) (growslice_fits hsc (by rw [hz2]; exact hn))
    have hge := grownCap_ge w (l.length + 1) sc 97
    have hcm := grownCap_le_maxLen w (l.length + 1) sc 97 (by unfold maxLen; omega)
    refine ⟨w.heap.size, 0, _, _, hrun, ?_, ⟨rfl, rfl, rfl, by simp, fun k hk _ => Below.heap_alloc w.drew _ k hk, fun h => absurd h (Nat.lt_irrefl _), by simp⟩⟩
    have hal := armCells_len l fv hfl
    have hnew : (w.drew.alloc (.cells ((armCells l fv ++ [Value.int .i64 u0, Value.slice fa fs.length fc]).toArray ++ Builtin.zeroCells (Value.agg #[.int .i64 0, .slice none 0 0]).cells (grownCap w (l.length + 1) sc 97 - (l.length + 1))) 97)).heap[w.heap.size]? = some (.cells ((armCells l fv ++ [Value.int .i64 u0, Value.slice fa fs.length fc]).toArray ++ Builtin.zeroCells (Value.agg #[.int .i64 0, .slice none 0 0]).cells (grownCap w (l.length + 1) sc 97 - (l.length + 1))) 97 (0, 0)) := heap_alloc_new w.drew _
    have hold2 : ∀ k, k < w.heap.size → (w.drew.alloc (.cells ((armCells l fv ++ [Value.int .i64 u0, Value.slice fa fs.length fc]).toArray ++ Builtin.zeroCells (Value.agg #[.int .i64 0, .slice none 0 0]).cells (grownCap w (l.length + 1) sc 97 - (l.length + 1))) 97)).heap[k]? = w.heap[k]? := fun k hk => Below.heap_alloc w.drew _ k hk
    generalize hW : w.drew.alloc (.cells ((armCells l fv ++ [Value.int .i64 u0, Value.slice fa fs.length fc]).toArray ++ Builtin.zeroCells (Value.agg #[.int .i64 0, .slice none 0 0]).cells (grownCap w (l.length + 1) sc 97 - (l.length + 1))) 97) = W' at hnew hold2 ⊢
    have hsz : w.heap.size < W'.heap.size := (Array.getElem?_eq_some_iff.1 hnew).1
    refine .inr ⟨w.heap.size, 0, _, _, fv ++ [.slice fa fs.length fc], by simp, .inr ⟨h0, hsz⟩, hnew, by simpa using hge, hcm, ?_, by simp [hfl], fun i hi1 hi2 => ?_⟩
    · rw [Array.size_append, List.size_toArray, List.length_append, hal, size_zeroCells]
      simp [Value.cells]
      omega
    · have hcell : ∀ j u, (armCells l fv ++ [Value.int .i64 u0, Value.slice fa fs.length fc])[j]? = some u → ((armCells l fv ++ [Value.int .i64 u0, Value.slice fa fs.length fc]).toArray ++ Builtin.zeroCells (Value.agg #[.int .i64 0, .slice none 0 0]).cells (grownCap w (l.length + 1) sc 97 - (l.length + 1)))[j]? = some u := fun j u hj => by
        rw [Array.getElem?_append_left (by rw [List.size_toArray]; exact (List.getElem?_eq_some_iff.1 hj).1), List.getElem?_toArray]
        exact hj
      rw [Nat.zero_add, List.length_append, List.length_singleton] at *
      by_cases hil : i < l.length
      · obtain ⟨q0, q1⟩ := armCells_get l fv i hil (by omega)
        obtain ⟨q2, q3⟩ := hfr i hil (by omega)
        rw [List.getElem_append_left hil, List.getElem_append_left (by omega)]
        refine ⟨hcell _ _ (by rw [List.getElem?_append_left (by omega)]; exact q0), hcell _ _ (by rw [List.getElem?_append_left (by omega)]; exact q1), owns_block q2 fun k hk => ?_, fun k hk => .inl (q3 k hk)⟩
        obtain ⟨_, hlt, _⟩ := owns_blk q2 k hk
        exact hold2 k hlt
      · obtain rfl : i = l.length := by (try simp at hi1); omega
        rw [List.getElem_append_right (by omega), List.getElem_append_right (by omega)]
        simp only [Nat.sub_self, hfl, List.getElem_singleton]
        obtain ⟨p0, p1⟩ := pair_get (u0 := .int .i64 u0) (u1 := .slice fa fs.length fc) hal
        refine ⟨hcell _ _ p0, hcell _ _ p1, ?_, fun k hk => ?_⟩
        · have := owns_block hf (w' := W') fun k hk => hold2 k (owns_blk hf k hk).2.1
          exact ⟨this.1, this.2.imp id fun ⟨g, cap, cur, r1, _, r3⟩ => ⟨g, cap, cur, r1, Nat.zero_le _, r3⟩⟩
        · obtain ⟨r1, r2, _⟩ := owns_blk hf k hk
          exact .inr ⟨r1, by omega⟩
  rcases h with ⟨rfl, rfl⟩ | ⟨g, off, cap, cur, fv, rfl, hFg, hg, hl, hc, hsz, hfv, hall⟩
  · exact grow none 0 [] rfl (by simp) rfl (fun i h => absurd h (by simp)) (by simpa [armCells] using run_firstCells_none w.drew i0.size 0 0 0)
  · by_cases hroom : l.length + 1 ≤ cap
    · have hgl := hblk g cur _ hg
      have hrun := run_append_room_src (P := Tryz.prog) w 50 50 ty 97 i0 hun hi g off l.length cap (.slice (some ⟨B, 0, none⟩) 1 1) 1 _ (hs w hB) hroom
        (fun j hj => by
          rw [hz1, cell_of_row w g _ _ _ _ hg, Array.getElem?_eq_getElem (by simp at hj; omega)]; rfl)
        (fun j _ => frozen_cells hg)
      rw [hz1] at hrun
      have hg2 : (w.setCells g (off + l.length * 2) [Value.int .i64 u0, Value.slice fa fs.length fc]).heap[g]? = some (.cells ((cur.setIfInBounds (off + l.length * 2) (.int .i64 u0)).setIfInBounds (off + l.length * 2 + 1) (.slice fa fs.length fc)) 97 (0, 0)) := set_cells (set_cells hg)
      have hk2 : ∀ k, k ≠ g → (w.setCells g (off + l.length * 2) [Value.int .i64 u0, Value.slice fa fs.length fc]).heap[k]? = w.heap[k]? := fun k hk => (set_other hk).trans (set_other hk)
      have hz2' : (w.setCells g (off + l.length * 2) [Value.int .i64 u0, Value.slice fa fs.length fc]).heap.size = w.heap.size := set_size.trans set_size
      refine ⟨g, off, cap, _, hrun, ?_, ⟨rfl, rfl, rfl, by omega, fun k _ hk => hk2 k hk, fun _ => ⟨hFg, cur, hg⟩, by omega⟩⟩
      generalize w.setCells g (off + l.length * 2) [Value.int .i64 u0, Value.slice fa fs.length fc] = W' at hg2 hk2 hz2' ⊢
      refine .inr ⟨g, off, cap, _, fv ++ [.slice fa fs.length fc], by simp, .inl hFg, hg2, by simpa using hroom, hc, by simpa using hsz, by simp [hfv], fun i hi1 hi2 => ?_⟩
      have hrow : ∀ {b' v' n xs}, w.ownsRow b' 114 4 v' n xs → W'.ownsRow 0 114 4 v' n xs := fun {b' v' n xs} q2 => by
        have := owns_block q2 (w' := W') fun k hk => by
          obtain ⟨_, _, c, hc'⟩ := owns_blk q2 k hk
          exact hk2 k (fun e => by rw [e, hg] at hc'; simp at hc')
        exact ⟨this.1, this.2.imp id fun ⟨g, cap, cur, r1, _, r3⟩ => ⟨g, cap, cur, r1, Nat.zero_le _, r3⟩⟩
      by_cases hil : i < l.length
      · obtain ⟨q0, q1, q2, q3⟩ := hall i hil (by omega)
        rw [List.getElem_append_left hil, List.getElem_append_left (by omega)]
        refine ⟨?_, ?_, hrow q2, fun k hk => .inl (q3 k hk)⟩
        · rw [Array.getElem?_setIfInBounds_ne (by omega), Array.getElem?_setIfInBounds_ne (by omega)]; exact q0
        · rw [Array.getElem?_setIfInBounds_ne (by omega), Array.getElem?_setIfInBounds_ne (by omega)]; exact q1
      · obtain rfl : i = l.length := by (try simp at hi1); omega
        rw [List.getElem_append_right (by omega), List.getElem_append_right (by omega)]
        simp only [Nat.sub_self, hfv, List.getElem_singleton]
        refine ⟨?_, ?_, hrow hf, fun k hk => ?_⟩
        · rw [Array.getElem?_setIfInBounds_ne (by omega), Array.getElem?_setIfInBounds_self_of_lt (by omega)]
        · rw [Array.getElem?_setIfInBounds_self_of_lt (by simp; omega)]
        · obtain ⟨r1, r2, _⟩ := owns_blk hf k hk
          exact .inr ⟨r1, by omega⟩
    · refine grow (some ⟨g, off, none⟩) cap fv rfl (by omega) hfv (fun i h h' => ⟨(hall i h h').2.2.1, (hall i h h').2.2.2⟩) ?_
      refine run_firstCells_some w.drew i0.size l.length ⟨g, off, none⟩ l.length cap (armCells l fv) (by rw [armCells_len l fv hfv, hz1]) fun j u hj => ?_
      rw [add_mid']
      have : w.drew.cell? ⟨g, off + j, none⟩ = cur[off + j]? := cell_of_row w.drew g _ _ _ _ hg
      rw [this]
      rcases armCells_one l fv j u hj with ⟨k, ⟨rfl, k1, k2⟩ | ⟨rfl, k1, k2⟩⟩
      · rw [(armCells_get l fv k k1 k2).1] at hj
        rw [← hj]; exact (hall k k1 k2).1
      · rw [(armCells_get l fv k k1 k2).2] at hj
        rw [← hj]; exact (hall k k1 k2).2.1


theorem step_append_rarm {ops : Array Oper} {o : Oper} {a : Act} {K : Act → World → Prop} {Q : Exit → Act → World → Prop} {E : Prop} (w : World) (hgd : o.guard = none) (s x : Operand)
    (ho : o.op = .call { callee := .builtin .append, args := #[s, x], argTypes := #[50, 50] })
    (v : Value) (l : List Armed) (F : Nat → Prop) (hs : a.eval s = v) (h : RArmsAt w F v l) (B n0 : Nat) (u0 : Int) (fs : List Fate) (u1 : Value) (hx : a.eval x = .slice (some ⟨B, 0, none⟩) 1 1) (hB : w.heap[B]? = some (.cells #[.int .i64 u0, u1] 97 (0, 0)))
    (hf : w.ownsRow n0 114 4 u1 fs.length (fateCells fs)) (h0 : n0 ≤ w.heap.size) (hn : (l.length + 1) * 32 ≤ 140737488355328)
    (hK : ∀ g off cap w', RArmsAt w' (fun k => F k ∨ (n0 ≤ k ∧ k < w'.heap.size)) (.slice (some ⟨g, off, none⟩) (l.length + 1) cap) (l ++ [⟨u0, fs⟩]) → RArmStep w w' F g → K (a.put o.dst (.slice (some ⟨g, off, none⟩) (l.length + 1) cap)) w') :
    if Region.wanted o (yielded ops a.tmps) = true then Oper.wp Tryz.prog o a w K Q else E := by
  have hw : Region.wanted o (yielded ops a.tmps) = true := by simp [Region.wanted, hgd]
  rw [if_pos hw]
  obtain ⟨g, off, cap, w', hr, h2, h3⟩ := rarm_append o.type w v l F h B n0 u0 fs u1 hB hf h0 hn
  unfold Oper.wp execOp
  simp only [ho, resolve, invoke, builtin, Sem.run_bind, Sem.run_pure, Result.andThen_ok, List.map_toArray, List.map_cons, List.map_nil, hs, hx, hr]
  exact hK g off cap w' h2 h3

theorem RArmStep.after {w wa w2 : World} {F : Nat → Prop} {g : Nat} (hb : Below w.heap.size w wa) (h : RArmStep wa w2 F g) : RArmStep w w2 F g :=
  ⟨h.os.trans hb.os, h.tape.trans hb.tape, h.output.trans hb.output, Nat.le_trans hb.size h.size, fun k hk hn => (h.block k (Nat.lt_of_lt_of_le hk hb.size) hn).trans (hb.block k hk),
    fun hg => by
      obtain ⟨h1, cur, h2⟩ := h.at' (Nat.lt_of_lt_of_le hg hb.size)
      exact ⟨h1, cur, (hb.block g hg).symm.trans h2⟩, h.lt⟩
theorem RArmsAt.below {w w' : World} {F : Nat → Prop} {v : Value} {l : List Armed} (h : RArmsAt w F v l) (hb : ∀ k, F k → w'.heap[k]? = w.heap[k]?) : RArmsAt w' F v l := h.block fun k _ _ hk => hb k hk


end Go.Proofs.YtlopimdnjookeabGreatDoor.V
