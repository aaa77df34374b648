import Derived.Test.YtdieacdkomiooabDoorGG
import Derived.Deep.RegionLaw
namespace Go.Proofs.YtdieacdkomiooabDoor
open Go.RowKit Go.Maps

/-- What is kept of the lists that were handed out. -/
structure MK (w : World) (base pm : Nat) (bv sv : Value) (LB LS : List Value) (CB CS : Nat → List Value) : Prop where
  blk : w.heap[pm]? = some (.cells #[bv, sv] 64 (0, 0))
  lo : base ≤ pm
  brow : w.ownsRow base 36 1 bv LB.length LB
  srow : w.ownsRow base 22 1 sv LS.length LS
  rb : RowsA w base 5 1 LB CB
  rs : RowsA w base 68 2 LS CS
/-- Its blocks. -/
def MKb (pm : Nat) (bv sv : Value) (LB LS : List Value) (k : Nat) : Prop := k = pm ∨ bv.ownBlock = some k ∨ sv.ownBlock = some k ∨ inL LB k ∨ inL LS k
theorem MK.lt {w : World} {base pm : Nat} {bv sv : Value} {LB LS : List Value} {CB CS : Nat → List Value} (h : MK w base pm bv sv LB LS CB CS) {k : Nat} (hk : MKb pm bv sv LB LS k) : base ≤ k ∧ k < w.heap.size := by
  rcases hk with rfl | hk | hk | hk | hk
  · exact ⟨h.lo, (Array.getElem?_eq_some_iff.1 h.blk).1⟩
  · exact ⟨(owns_blk h.brow k hk).1, (owns_blk h.brow k hk).2.1⟩
  · exact ⟨(owns_blk h.srow k hk).1, (owns_blk h.srow k hk).2.1⟩
  · exact ⟨(h.rb.blk hk).1, (h.rb.blk hk).2.1⟩
  · exact ⟨(h.rs.blk hk).1, (h.rs.blk hk).2.1⟩
theorem MK.same {w w' : World} {base pm : Nat} {bv sv : Value} {LB LS : List Value} {CB CS : Nat → List Value} (h : MK w base pm bv sv LB LS CB CS) (hb : ∀ k, MKb pm bv sv LB LS k → w'.heap[k]? = w.heap[k]?) : MK w' base pm bv sv LB LS CB CS :=
  ⟨(hb pm (.inl rfl)).trans h.blk, h.lo, owns_block h.brow (fun k hk => hb k (.inr (.inl hk))), owns_block h.srow (fun k hk => hb k (.inr (.inr (.inl hk)))), h.rb.same (fun k hk => hb k (.inr (.inr (.inr (.inl hk))))), h.rs.same (fun k hk => hb k (.inr (.inr (.inr (.inr hk)))))⟩
theorem MK.step {w w' : World} {base pm : Nat} {bv sv : Value} {LB LS : List Value} {CB CS : Nat → List Value} {G G' : Nat → Prop} (h : MK w base pm bv sv LB LS CB CS) (hs : Step G G' w w') (hn : ∀ k, MKb pm bv sv LB LS k → ¬ G k) : MK w' base pm bv sv LB LS CB CS :=
  h.same (fun k hk => hs.block k (h.lt hk).2 (hn k hk))
theorem MK.below {w w' : World} {base pm : Nat} {bv sv : Value} {LB LS : List Value} {CB CS : Nat → List Value} (h : MK w base pm bv sv LB LS CB CS) (hb : Below w.heap.size w w') : MK w' base pm bv sv LB LS CB CS :=
  h.same (fun k hk => hb.block k (h.lt hk).2)
theorem own_slice {w : World} {b e z n : Nat} {v : Value} {xs : List Value} (h : w.ownsRow b e z v n xs) : v.oneCell' = true := by obtain ⟨a, c, h, _⟩ := owns_form h; rw [h]; rfl
theorem rowsA_push {w : World} {base E z : Nat} {L : List Value} {C : Nat → List Value} (h : RowsA w base E z L C) {v : Value} {n : Nat} {xs : List Value} (hv : w.ownsRow base E z v n xs) (hn : n ≤ 5864062014000) (hne : ∀ g, v.ownBlock = some g → ¬ inL L g) : RowsA w base E z (L ++ [v]) (fun i => if i = L.length then xs else C i) := by
  refine ⟨fun i u hi => ?_, fun i j u u' g hi hj hu hu' => ?_⟩
  · by_cases hl : i < L.length
    · rw [List.getElem?_append_left hl] at hi
      rw [if_neg (by omega)]
      exact h.own i u hi
    · have hil : i = L.length := by have := (List.getElem?_eq_some_iff.1 hi).1; simp at this; omega
      subst hil
      rw [List.getElem?_append_right (by omega), Nat.sub_self] at hi
      simp only [List.getElem?_cons_zero, Option.some.injEq] at hi
      subst hi
      rw [if_pos rfl]
      obtain ⟨a, c, he, _⟩ := owns_form hv
      exact ⟨a, n, c, he, hv, hn⟩
  · have key : ∀ (i : Nat) (u : Value), (L ++ [v])[i]? = some u → (i < L.length ∧ L[i]? = some u) ∨ (i = L.length ∧ u = v) := fun i u hi => by
      by_cases hl : i < L.length
      · rw [List.getElem?_append_left hl] at hi; exact .inl ⟨hl, hi⟩
      · have hil : i = L.length := by have := (List.getElem?_eq_some_iff.1 hi).1; simp at this; omega
        subst hil
        rw [List.getElem?_append_right (by omega), Nat.sub_self] at hi
        simp only [List.getElem?_cons_zero, Option.some.injEq] at hi
        exact .inr ⟨rfl, hi.symm⟩
    rcases key i u hi with ⟨h1, h2⟩ | ⟨rfl, rfl⟩ <;> rcases key j u' hj with ⟨h3, h4⟩ | ⟨rfl, rfl⟩
    · exact h.apart i j u u' g h2 h4 hu hu'
    · exact absurd (inL_get h2 hu) (hne g hu')
    · exact absurd (inL_get h4 hu') (hne g hu)
    · rfl
theorem inL_push {L : List Value} {v : Value} {k : Nat} (h : inL (L ++ [v]) k) : inL L k ∨ v.ownBlock = some k := by
  obtain ⟨u, hu, hk⟩ := h
  rcases List.mem_append.1 hu with h1 | h1
  · exact .inl ⟨u, h1, hk⟩
  · rw [List.mem_singleton.1 h1] at hk; exact .inr hk
theorem infoSl : (Tryd.prog.info? 36).map (fun i => (i.zero, i.size, i.bytes)) = some (some (.slice none 0 0), 1, 24) := by kernel_rfl
theorem infoSecs : (Tryd.prog.info? 22).map (fun i => (i.zero, i.size, i.bytes)) = some (some (.slice none 0 0), 1, 24) := by kernel_rfl
/-- A list is grown by one element: in its own block, or in a new one. -/
theorem grow_bb {w : World} {n c : Nat} {a : Option Addr} {xs : List Value} {base : Nat} (x : Value) (hx1 : x.oneCell' = true) (t : TypeId) (h : w.ownsRow base 36 1 (.slice a n c) n xs) (hn : n ≤ 5864062014700) (hbase : base ≤ w.heap.size) :
    ∃ a' c' w', (Builtin.append_ #[61, 61] 61 #[.slice a n c, .slice (some ⟨w.heap.size, 0, none⟩) 1 1]).run Tryd.prog (w.alloc (.cells #[x] t)) = .ok (.slice a' (n + 1) c') w' ∧ w'.ownsRow base 36 1 (.slice a' (n + 1) c') (n + 1) (xs ++ [x]) ∧
      ((∃ g, a = some ⟨g, 0, none⟩ ∧ a' = a ∧ c' = c ∧ w.heap.size ≤ w'.heap.size ∧ w'.os = w.os ∧ w'.tape = w.tape ∧ w'.output = w.output ∧ ∀ k, k < w.heap.size → k ≠ g → w'.heap[k]? = w.heap[k]?) ∨ (Below w.heap.size w w' ∧ ∃ g, a' = some ⟨g, 0, none⟩ ∧ w.heap.size ≤ g)) := by
  obtain ⟨i0, hi, hz, hsz, hby⟩ := info_parts infoSl
  have hb := below_new w (.cells #[x] t)
  have h2 := owns_below h hb
  have hone : ∀ u ∈ ([x] : List Value), u.oneCell' = true := by intro u hu; simp at hu; rw [hu]; exact hx1
  have hnews : ∀ j u, ([x] : List Value)[j]? = some u → (w.alloc (.cells #[x] t)).cell? ((⟨w.heap.size, 0, none⟩ : Addr).add j) = some u := fun j u hj => by
    have hbx := boxed_new w #[x] t
    have hj' : j < 1 := by have := (List.getElem?_eq_some_iff.1 hj).1; simpa using this
    rw [add_plain5, Nat.zero_add]
    have e := hbx.2 j hj'
    rw [e]
    rw [List.getElem?_eq_getElem hj'] at hj
    exact hj
  rcases h2.2 with ⟨h', h0⟩ | ⟨g, cap, cur, h', hbg, hg, hnc, hcm, hcs, htk⟩
  · simp only [Value.slice.injEq] at h'
    obtain ⟨rfl, -, rfl⟩ := h'
    subst h0
    obtain rfl : xs = [] := List.length_eq_zero_iff.1 (by have := h.1; omega)
    obtain ⟨v', w', hr, ho, hgr, _⟩ := run_append_own (P := Tryd.prog) (w.alloc (.cells #[x] t)) w.heap.size 61 61 36 i0 _ 1 24 Tryd.underlying61 hi hz hsz hby rfl (by decide) (.slice none 0 0) 0 [] (World.ownsRow_nil _ _ _ _) ⟨w.heap.size, 0, none⟩ 1 1 [x] rfl hnews hone (by decide) (by decide) (by simp)
    obtain ⟨g', c', rfl, hb', _⟩ := World.ownsRow.form ho (by decide)
    have hbw : Below w.heap.size w w' := hb.grown hgr (by simp) (fun j hj => by cases hj)
    refine ⟨_, c', w', hr, ?_, .inr ⟨hbw, g', rfl, hb'⟩⟩
    have ho' : w'.ownsRow w.heap.size 36 1 (.slice (some ⟨g', 0, none⟩) (0 + 1) c') (0 + 1) ([] ++ [x]) := ho
    exact ⟨ho'.1, ho'.2.imp id fun ⟨g, cap, cur, q1, q2, q3⟩ => ⟨g, cap, cur, q1, Nat.le_trans hbase q2, q3⟩⟩
  · simp only [Value.slice.injEq] at h'
    obtain ⟨rfl, -, rfl⟩ := h'
    by_cases hroom : n + 1 ≤ c
    · obtain ⟨w', hr, ho, hgr⟩ := run_append_own_spare (P := Tryd.prog) (w.alloc (.cells #[x] t)) base 61 61 36 i0 1 Tryd.underlying61 hi hsz g n c xs h2 ⟨w.heap.size, 0, none⟩ 1 1 [x] rfl hnews hone hroom
      exact ⟨_, c, w', hr, ho, .inl ⟨g, rfl, rfl, rfl, Nat.le_trans hb.size hgr.size, hgr.os.trans hb.os, hgr.tape.trans hb.tape, hgr.output.trans hb.output, fun k hk hn => (hgr.block k (Nat.lt_of_lt_of_le hk hb.size) (fun e => hn (by simpa using e))).trans (hb.block k hk)⟩⟩
    · obtain ⟨v', w', hr, ho, hgr⟩ := run_append_arg_grows (P := Tryd.prog) (w.alloc (.cells #[x] t)) 61 61 36 i0 _ 1 24 Tryd.underlying61 hi hz hsz hby rfl (by decide) ⟨g, 0, none⟩ n c xs h.1 (fun j u hj => by
        have hj' := (List.getElem?_eq_some_iff.1 hj).1
        rw [h.1] at hj'
        rw [add_plain5, Nat.zero_add, World.ownsRow.cellAt h2 j hj']; exact hj) ⟨w.heap.size, 0, none⟩ 1 1 [x] rfl hnews (by omega) (by unfold maxLen; omega) (by omega)
      obtain ⟨g', c', rfl, hb', hl'⟩ := World.ownsRow.form ho (by omega)
      have hbw : Below w.heap.size w w' := hb.grown hgr (by simp) (fun j hj => by cases hj)
      refine ⟨_, c', w', hr, ?_, .inr ⟨hbw, g', rfl, by simp at hb'; omega⟩⟩
      exact ⟨ho.1, ho.2.imp id fun ⟨g, cap, cur, q1, q2, q3⟩ => ⟨g, cap, cur, q1, by simp at q2; omega, q3⟩⟩

/-- A list is grown by one element: in its own block, or in a new one. -/
theorem grow_ss {w : World} {n c : Nat} {a : Option Addr} {xs : List Value} {base : Nat} (x : Value) (hx1 : x.oneCell' = true) (t : TypeId) (h : w.ownsRow base 22 1 (.slice a n c) n xs) (hn : n ≤ 5864062014700) (hbase : base ≤ w.heap.size) :
    ∃ a' c' w', (Builtin.append_ #[62, 62] 62 #[.slice a n c, .slice (some ⟨w.heap.size, 0, none⟩) 1 1]).run Tryd.prog (w.alloc (.cells #[x] t)) = .ok (.slice a' (n + 1) c') w' ∧ w'.ownsRow base 22 1 (.slice a' (n + 1) c') (n + 1) (xs ++ [x]) ∧
      ((∃ g, a = some ⟨g, 0, none⟩ ∧ a' = a ∧ c' = c ∧ w.heap.size ≤ w'.heap.size ∧ w'.os = w.os ∧ w'.tape = w.tape ∧ w'.output = w.output ∧ ∀ k, k < w.heap.size → k ≠ g → w'.heap[k]? = w.heap[k]?) ∨ (Below w.heap.size w w' ∧ ∃ g, a' = some ⟨g, 0, none⟩ ∧ w.heap.size ≤ g)) := by
  obtain ⟨i0, hi, hz, hsz, hby⟩ := info_parts infoSecs
  have hb := below_new w (.cells #[x] t)
  have h2 := owns_below h hb
  have hone : ∀ u ∈ ([x] : List Value), u.oneCell' = true := by intro u hu; simp at hu; rw [hu]; exact hx1
  have hnews : ∀ j u, ([x] : List Value)[j]? = some u → (w.alloc (.cells #[x] t)).cell? ((⟨w.heap.size, 0, none⟩ : Addr).add j) = some u := fun j u hj => by
    have hbx := boxed_new w #[x] t
    have hj' : j < 1 := by have := (List.getElem?_eq_some_iff.1 hj).1; simpa using this
    rw [add_plain5, Nat.zero_add]
    have e := hbx.2 j hj'
    rw [e]
    rw [List.getElem?_eq_getElem hj'] at hj
    exact hj
  rcases h2.2 with ⟨h', h0⟩ | ⟨g, cap, cur, h', hbg, hg, hnc, hcm, hcs, htk⟩
  · simp only [Value.slice.injEq] at h'
    obtain ⟨rfl, -, rfl⟩ := h'
    subst h0
    obtain rfl : xs = [] := List.length_eq_zero_iff.1 (by have := h.1; omega)
    obtain ⟨v', w', hr, ho, hgr, _⟩ := run_append_own (P := Tryd.prog) (w.alloc (.cells #[x] t)) w.heap.size 62 62 22 i0 _ 1 24 Tryd.underlying62 hi hz hsz hby rfl (by decide) (.slice none 0 0) 0 [] (World.ownsRow_nil _ _ _ _) ⟨w.heap.size, 0, none⟩ 1 1 [x] rfl hnews hone (by decide) (by decide) (by simp)
    obtain ⟨g', c', rfl, hb', _⟩ := World.ownsRow.form ho (by decide)
    have hbw : Below w.heap.size w w' := hb.grown hgr (by simp) (fun j hj => by cases hj)
    refine ⟨_, c', w', hr, ?_, .inr ⟨hbw, g', rfl, hb'⟩⟩
    have ho' : w'.ownsRow w.heap.size 22 1 (.slice (some ⟨g', 0, none⟩) (0 + 1) c') (0 + 1) ([] ++ [x]) := ho
    exact ⟨ho'.1, ho'.2.imp id fun ⟨g, cap, cur, q1, q2, q3⟩ => ⟨g, cap, cur, q1, Nat.le_trans hbase q2, q3⟩⟩
  · simp only [Value.slice.injEq] at h'
    obtain ⟨rfl, -, rfl⟩ := h'
    by_cases hroom : n + 1 ≤ c
    · obtain ⟨w', hr, ho, hgr⟩ := run_append_own_spare (P := Tryd.prog) (w.alloc (.cells #[x] t)) base 62 62 22 i0 1 Tryd.underlying62 hi hsz g n c xs h2 ⟨w.heap.size, 0, none⟩ 1 1 [x] rfl hnews hone hroom
      exact ⟨_, c, w', hr, ho, .inl ⟨g, rfl, rfl, rfl, Nat.le_trans hb.size hgr.size, hgr.os.trans hb.os, hgr.tape.trans hb.tape, hgr.output.trans hb.output, fun k hk hn => (hgr.block k (Nat.lt_of_lt_of_le hk hb.size) (fun e => hn (by simpa using e))).trans (hb.block k hk)⟩⟩
    · obtain ⟨v', w', hr, ho, hgr⟩ := run_append_arg_grows (P := Tryd.prog) (w.alloc (.cells #[x] t)) 62 62 22 i0 _ 1 24 Tryd.underlying62 hi hz hsz hby rfl (by decide) ⟨g, 0, none⟩ n c xs h.1 (fun j u hj => by
        have hj' := (List.getElem?_eq_some_iff.1 hj).1
        rw [h.1] at hj'
        rw [add_plain5, Nat.zero_add, World.ownsRow.cellAt h2 j hj']; exact hj) ⟨w.heap.size, 0, none⟩ 1 1 [x] rfl hnews (by omega) (by unfold maxLen; omega) (by omega)
      obtain ⟨g', c', rfl, hb', hl'⟩ := World.ownsRow.form ho (by omega)
      have hbw : Below w.heap.size w w' := hb.grown hgr (by simp) (fun j hj => by cases hj)
      refine ⟨_, c', w', hr, ?_, .inr ⟨hbw, g', rfl, by simp at hb'; omega⟩⟩
      exact ⟨ho.1, ho.2.imp id fun ⟨g, cap, cur, q1, q2, q3⟩ => ⟨g, cap, cur, q1, by simp at q2; omega, q3⟩⟩

set_option maxRecDepth 20000 in
/-- One more list of bytes. -/
theorem MK.pushB {w : World} {base pm : Nat} {bv sv : Value} {LB LS : List Value} {CB CS : Nat → List Value} (h : MK w base pm bv sv LB LS CB CS) {v : Value} {n : Nat} {xs : List Value} (hv : w.ownsRow base 5 1 v n xs) (hn : n ≤ 5864062014000) (hne : ∀ g, v.ownBlock = some g → ¬ inL LB g) (hl : LB.length ≤ 1073741824) (hbase : base ≤ w.heap.size) :
    ∃ a' c' w', (Builtin.append_ #[61, 61] 61 #[bv, .slice (some ⟨w.heap.size, 0, none⟩) 1 1]).run Tryd.prog (w.alloc (.cells #[v] 36)) = .ok (.slice a' (LB.length + 1) c') w' ∧ MK (w'.setCell ⟨pm, 0, none⟩ (.slice a' (LB.length + 1) c')) base pm (.slice a' (LB.length + 1) c') sv (LB ++ [v]) LS (fun i => if i = LB.length then xs else CB i) CS ∧
      w'.heap[pm]? = some (.cells #[bv, sv] 64 (0, 0)) ∧ (∀ k, (Value.slice a' (LB.length + 1) c').ownBlock = some k → bv.ownBlock = some k ∨ w.heap.size ≤ k) ∧ Step (fun k => k = pm ∨ bv.ownBlock = some k) (fun k => k = pm ∨ bv.ownBlock = some k) w (w'.setCell ⟨pm, 0, none⟩ (.slice a' (LB.length + 1) c')) := by
  have hrow := h.brow
  obtain ⟨ba, bc, hbv, -⟩ := owns_form hrow
  rw [hbv] at hrow
  obtain ⟨a', c', w', hr, ho, hcase⟩ := grow_bb v (own_slice hv) 36 hrow (by omega) hbase
  obtain ⟨hbl, hat, hos, htp, hou, hsz⟩ : (∀ k, k < w.heap.size → bv.ownBlock ≠ some k → w'.heap[k]? = w.heap[k]?) ∧ (∀ k, (Value.slice a' (LB.length + 1) c').ownBlock = some k → bv.ownBlock = some k ∨ w.heap.size ≤ k) ∧ w'.os = w.os ∧ w'.tape = w.tape ∧ w'.output = w.output ∧ w.heap.size ≤ w'.heap.size := by
    rcases hcase with ⟨g, rfl, rfl, rfl, q1, q2, q3, q4, q5⟩ | ⟨hb, g, rfl, hg⟩
    · exact ⟨fun k hk hne => q5 k hk (fun e => hne (by rw [hbv, e]; rfl)), fun k hk => .inl (by rw [hbv]; exact hk), q2, q3, q4, q1⟩
    · exact ⟨fun k hk _ => hb.block k hk, fun k hk => .inr (by simp only [Value.ownBlock, Option.some.injEq] at hk; omega), hb.os, hb.tape, hb.output, hb.size⟩
  have tyB : ∀ (k : Nat) (c : Array Value) (e : TypeId), w.heap[k]? = some (Obj.cells c e (0, 0)) → e ≠ 36 → bv.ownBlock ≠ some k := fun k c e hk he hn => by
    obtain ⟨_, _, c', hc'⟩ := owns_blk h.brow k hn
    rw [hk] at hc'; simp at hc'; exact he hc'.2
  have tyP : ∀ (k : Nat) (c : Array Value) (e : TypeId), w.heap[k]? = some (Obj.cells c e (0, 0)) → e ≠ 64 → k ≠ pm := fun k c e hk he hn => by
    rw [hn, h.blk] at hk; simp at hk; exact he hk.2.symm
  have hpm : w'.heap[pm]? = some (.cells #[bv, sv] 64 (0, 0)) := (hbl pm (h.lt (.inl rfl)).2 (tyB _ _ _ h.blk (by decide))).trans h.blk
  have old : ∀ (k : Nat) (c : Array Value) (e : TypeId), w.heap[k]? = some (Obj.cells c e (0, 0)) → e ≠ 36 → e ≠ 64 → (w'.setCell ⟨pm, 0, none⟩ (.slice a' (LB.length + 1) c')).heap[k]? = w.heap[k]? := fun k c e hk h1 h2 => (setCell_blk (tyP k c e hk h2)).trans (hbl k ((Array.getElem?_eq_some_iff.1 hk).1) (tyB k c e hk h1))
  have hnew : (w'.setCell ⟨pm, 0, none⟩ (.slice a' (LB.length + 1) c')).ownsRow base 36 1 (.slice a' (LB.length + 1) c') (LB ++ [v]).length (LB ++ [v]) := by
    have := owns_step ho (step_set (w := w') (g := pm) (j := 0) (v := .slice a' (LB.length + 1) c')) (fun k hk e => by
      obtain ⟨_, _, c, hc⟩ := owns_blk ho k hk
      rw [e, hpm] at hc; simp at hc)
    rw [List.length_append]; exact this
  refine ⟨a', c', w', by rw [hbv]; exact hr, ⟨?_, h.lo, ?_, ?_, ?_, ?_⟩, hpm, hat, ?_⟩
  · exact set_row hpm
  · exact hnew
  · exact owns_block h.srow (fun k hk => by obtain ⟨_, _, c, hc⟩ := owns_blk h.srow k hk; exact old _ _ _ hc (by decide) (by decide))
  · have h1 := h.rb.same (w' := w'.setCell ⟨pm, 0, none⟩ (.slice a' (LB.length + 1) c')) (fun k hk => by obtain ⟨_, _, c, hc⟩ := h.rb.blk hk; exact old _ _ _ hc (by decide) (by decide))
    exact rowsA_push h1 (owns_block hv (fun k hk => by obtain ⟨_, _, c, hc⟩ := owns_blk hv k hk; exact old _ _ _ hc (by decide) (by decide))) hn hne
  · exact h.rs.same (fun k hk => by obtain ⟨_, _, c, hc⟩ := h.rs.blk hk; exact old _ _ _ hc (by decide) (by decide))
  · refine ⟨hos, htp, hou, ?_, fun k hk hn => ?_, fun _ h => .inl h⟩
    · simp [World.setCell]; exact hsz
    · exact (setCell_blk (fun e => hn (.inl e))).trans (hbl k hk (fun e => hn (.inr e)))

set_option maxRecDepth 20000 in
/-- One more list of sectors. -/
theorem MK.pushS {w : World} {base pm : Nat} {bv sv : Value} {LB LS : List Value} {CB CS : Nat → List Value} (h : MK w base pm bv sv LB LS CB CS) {v : Value} {n : Nat} {xs : List Value} (hv : w.ownsRow base 68 2 v n xs) (hn : n ≤ 5864062014000) (hne : ∀ g, v.ownBlock = some g → ¬ inL LS g) (hl : LS.length ≤ 1073741824) (hbase : base ≤ w.heap.size) :
    ∃ a' c' w', (Builtin.append_ #[62, 62] 62 #[sv, .slice (some ⟨w.heap.size, 0, none⟩) 1 1]).run Tryd.prog (w.alloc (.cells #[v] 22)) = .ok (.slice a' (LS.length + 1) c') w' ∧ MK (w'.setCell ⟨pm, 1, none⟩ (.slice a' (LS.length + 1) c')) base pm bv (.slice a' (LS.length + 1) c') LB (LS ++ [v]) CB (fun i => if i = LS.length then xs else CS i) ∧
      w'.heap[pm]? = some (.cells #[bv, sv] 64 (0, 0)) ∧ (∀ k, (Value.slice a' (LS.length + 1) c').ownBlock = some k → sv.ownBlock = some k ∨ w.heap.size ≤ k) ∧ Step (fun k => k = pm ∨ sv.ownBlock = some k) (fun k => k = pm ∨ sv.ownBlock = some k) w (w'.setCell ⟨pm, 1, none⟩ (.slice a' (LS.length + 1) c')) := by
  have hrow := h.srow
  obtain ⟨ba, bc, hbv, -⟩ := owns_form hrow
  rw [hbv] at hrow
  obtain ⟨a', c', w', hr, ho, hcase⟩ := grow_ss v (own_slice hv) 22 hrow (by omega) hbase
  obtain ⟨hbl, hat, hos, htp, hou, hsz⟩ : (∀ k, k < w.heap.size → sv.ownBlock ≠ some k → w'.heap[k]? = w.heap[k]?) ∧ (∀ k, (Value.slice a' (LS.length + 1) c').ownBlock = some k → sv.ownBlock = some k ∨ w.heap.size ≤ k) ∧ w'.os = w.os ∧ w'.tape = w.tape ∧ w'.output = w.output ∧ w.heap.size ≤ w'.heap.size := by
    rcases hcase with ⟨g, rfl, rfl, rfl, q1, q2, q3, q4, q5⟩ | ⟨hb, g, rfl, hg⟩
    · exact ⟨fun k hk hne => q5 k hk (fun e => hne (by rw [hbv, e]; rfl)), fun k hk => .inl (by rw [hbv]; exact hk), q2, q3, q4, q1⟩
    · exact ⟨fun k hk _ => hb.block k hk, fun k hk => .inr (by simp only [Value.ownBlock, Option.some.injEq] at hk; omega), hb.os, hb.tape, hb.output, hb.size⟩
  have tyB : ∀ (k : Nat) (c : Array Value) (e : TypeId), w.heap[k]? = some (Obj.cells c e (0, 0)) → e ≠ 22 → sv.ownBlock ≠ some k := fun k c e hk he hn => by
    obtain ⟨_, _, c', hc'⟩ := owns_blk h.srow k hn
    rw [hk] at hc'; simp at hc'; exact he hc'.2
  have tyP : ∀ (k : Nat) (c : Array Value) (e : TypeId), w.heap[k]? = some (Obj.cells c e (0, 0)) → e ≠ 64 → k ≠ pm := fun k c e hk he hn => by
    rw [hn, h.blk] at hk; simp at hk; exact he hk.2.symm
  have hpm : w'.heap[pm]? = some (.cells #[bv, sv] 64 (0, 0)) := (hbl pm (h.lt (.inl rfl)).2 (tyB _ _ _ h.blk (by decide))).trans h.blk
  have old : ∀ (k : Nat) (c : Array Value) (e : TypeId), w.heap[k]? = some (Obj.cells c e (0, 0)) → e ≠ 22 → e ≠ 64 → (w'.setCell ⟨pm, 1, none⟩ (.slice a' (LS.length + 1) c')).heap[k]? = w.heap[k]? := fun k c e hk h1 h2 => (setCell_blk (tyP k c e hk h2)).trans (hbl k ((Array.getElem?_eq_some_iff.1 hk).1) (tyB k c e hk h1))
  have hnew : (w'.setCell ⟨pm, 1, none⟩ (.slice a' (LS.length + 1) c')).ownsRow base 22 1 (.slice a' (LS.length + 1) c') (LS ++ [v]).length (LS ++ [v]) := by
    have := owns_step ho (step_set (w := w') (g := pm) (j := 1) (v := .slice a' (LS.length + 1) c')) (fun k hk e => by
      obtain ⟨_, _, c, hc⟩ := owns_blk ho k hk
      rw [e, hpm] at hc; simp at hc)
    rw [List.length_append]; exact this
  refine ⟨a', c', w', by rw [hbv]; exact hr, ⟨?_, h.lo, ?_, ?_, ?_, ?_⟩, hpm, hat, ?_⟩
  · exact set_row hpm
  · exact owns_block h.brow (fun k hk => by obtain ⟨_, _, c, hc⟩ := owns_blk h.brow k hk; exact old _ _ _ hc (by decide) (by decide))
  · exact hnew
  · exact h.rb.same (fun k hk => by obtain ⟨_, _, c, hc⟩ := h.rb.blk hk; exact old _ _ _ hc (by decide) (by decide))
  · have h1 := h.rs.same (w' := w'.setCell ⟨pm, 1, none⟩ (.slice a' (LS.length + 1) c')) (fun k hk => by obtain ⟨_, _, c, hc⟩ := h.rs.blk hk; exact old _ _ _ hc (by decide) (by decide))
    exact rowsA_push h1 (owns_block hv (fun k hk => by obtain ⟨_, _, c, hc⟩ := owns_blk hv k hk; exact old _ _ _ hc (by decide) (by decide))) hn hne
  · refine ⟨hos, htp, hou, ?_, fun k hk hn => ?_, fun _ h => .inl h⟩
    · simp [World.setCell]; exact hsz
    · exact (setCell_blk (fun e => hn (.inl e))).trans (hbl k hk (fun e => hn (.inr e)))

end Go.Proofs.YtdieacdkomiooabDoor

namespace Go.Proofs.YtdieacdkomiooabDoor
open Go.RowKit Go.Maps

/-- A block that neither device holds. -/
def Off (w : World) (F G : Nat → Prop) (q : Nat) : Prop := ¬ F q ∧ ¬ G q ∧ q < w.heap.size
theorem Off.one {w w' : World} {F F' G : Nat → Prop} {q : Nat} (h : Off w F G q) (hs : Step F F' w w') : Off w' F' G q := ⟨fun hf => (hs.sub q hf).elim h.1 (by have := h.2.2; omega), h.2.1, Nat.lt_of_lt_of_le h.2.2 hs.size⟩
theorem Off.two {w w' : World} {F G G' : Nat → Prop} {q : Nat} (h : Off w F G q) (hs : Step G G' w w') : Off w' F G' q := ⟨h.1, fun hf => (hs.sub q hf).elim h.2.1 (by have := h.2.2; omega), Nat.lt_of_lt_of_le h.2.2 hs.size⟩
theorem Off.up {w w' : World} {F G : Nat → Prop} {q : Nat} (h : Off w F G q) (hs : w.heap.size ≤ w'.heap.size) : Off w' F G q := ⟨h.1, h.2.1, Nat.lt_of_lt_of_le h.2.2 hs⟩
/-- Both devices, and the lists that were handed out. -/
structure RS (A : Nat → Addr) (W w : World) (b : Nat) (F : Nat → Prop) (a : Dev) (c : Nat) (G : Nat → Prop) (d : Dev) (T pm : Nat) (bv sv : Value) (LB LS : List Value) (CB CS : Nat → List Value) : Prop where
  duo : Duo A W w b F a c G d T
  mkk : MK w W.heap.size pm bv sv LB LS CB CS
  nf : ∀ q, MKb pm bv sv LB LS q → ¬ F q ∧ ¬ G q
theorem Duo.goOne {A : Nat → Addr} {W wr w' : World} {b c : Nat} {F F' G : Nat → Prop} {a a' d : Dev} {T : Nat} (h : Duo A W wr b F a c G d T) (hd : DevAt w' b F' a') (hs : Step F F' wr w') : Duo A W w' b F' a' c G d T :=
  ⟨h.one.go hd hs, h.two.keep hs (fun k hk hf => h.no k hf hk), h.far, fun k hk hg => (hs.sub k hk).elim (fun h1 => h.no k h1 hg) (fun h1 => by have := h.two.lt k hg; omega)⟩
theorem Duo.goTwo {A : Nat → Addr} {W wr w' : World} {b c : Nat} {F G G' : Nat → Prop} {a d d' : Dev} {T T' : Nat} (h : Duo A W wr b F a c G d T) (hd : RAll w' c G' d' T') (hs : Step G G' wr w') : Duo A W w' b F a c G' d' T' :=
  ⟨h.one.keep hs h.far h.no, hd, hs.ge h.far h.one.bel.size, fun k hk hg => (hs.sub k hg).elim (fun h1 => h.no k hk h1) (fun h1 => by have := h.one.dev.lt k hk; omega)⟩
theorem Duo.poke {A : Nat → Addr} {W wr w' : World} {b c : Nat} {F G X X' : Nat → Prop} {a d : Dev} {T : Nat} (h : Duo A W wr b F a c G d T) (hs : Step X X' wr w') (hx : ∀ k, X k → ¬ F k ∧ ¬ G k ∧ W.heap.size ≤ k) : Duo A W w' b F a c G d T :=
  ⟨h.one.keep hs (fun k hk => (hx k hk).2.2) (fun k hf hk => (hx k hk).1 hf), h.two.keep hs (fun k hg hk => (hx k hk).2.1 hg), h.far, h.no⟩
theorem RS.up {A : Nat → Addr} {W w w' : World} {b : Nat} {F : Nat → Prop} {a : Dev} {c : Nat} {G : Nat → Prop} {d : Dev} {T pm : Nat} {bv sv : Value} {LB LS : List Value} {CB CS : Nat → List Value} (h : RS A W w b F a c G d T pm bv sv LB LS CB CS) (hb : Below w.heap.size w w') : RS A W w' b F a c G d T pm bv sv LB LS CB CS := ⟨h.duo.up hb, h.mkk.below hb, h.nf⟩
theorem RS.off {A : Nat → Addr} {W w : World} {b : Nat} {F : Nat → Prop} {a : Dev} {c : Nat} {G : Nat → Prop} {d : Dev} {T pm : Nat} {bv sv : Value} {LB LS : List Value} {CB CS : Nat → List Value} (h : RS A W w b F a c G d T pm bv sv LB LS CB CS) {q : Nat} (hq : MKb pm bv sv LB LS q) : Off w F G q := ⟨(h.nf q hq).1, (h.nf q hq).2, (h.mkk.lt hq).2⟩
theorem RS.one {A : Nat → Addr} {W w w' : World} {b : Nat} {F F' : Nat → Prop} {a a' : Dev} {c : Nat} {G : Nat → Prop} {d : Dev} {T pm : Nat} {bv sv : Value} {LB LS : List Value} {CB CS : Nat → List Value} (h : RS A W w b F a c G d T pm bv sv LB LS CB CS) (hd : DevAt w' b F' a') (hs : Step F F' w w') : RS A W w' b F' a' c G d T pm bv sv LB LS CB CS :=
  ⟨h.duo.goOne hd hs, h.mkk.step hs (fun k hk => (h.nf k hk).1), fun _ hq => ⟨((h.off hq).one hs).1, ((h.off hq).one hs).2.1⟩⟩
theorem RS.two {A : Nat → Addr} {W w w' : World} {b : Nat} {F : Nat → Prop} {a : Dev} {c : Nat} {G G' : Nat → Prop} {d d' : Dev} {T T' pm : Nat} {bv sv : Value} {LB LS : List Value} {CB CS : Nat → List Value} (h : RS A W w b F a c G d T pm bv sv LB LS CB CS) (hd : RAll w' c G' d' T') (hs : Step G G' w w') : RS A W w' b F a c G' d' T' pm bv sv LB LS CB CS :=
  ⟨h.duo.goTwo hd hs, h.mkk.step hs (fun k hk => (h.nf k hk).2), fun _ hq => ⟨((h.off hq).two hs).1, ((h.off hq).two hs).2.1⟩⟩
theorem RS.poke {A : Nat → Addr} {W w w' : World} {b : Nat} {F : Nat → Prop} {a : Dev} {c : Nat} {G X X' : Nat → Prop} {d : Dev} {T pm : Nat} {bv sv : Value} {LB LS : List Value} {CB CS : Nat → List Value} (h : RS A W w b F a c G d T pm bv sv LB LS CB CS) (hs : Step X X' w w') (hx : ∀ k, X k → ¬ F k ∧ ¬ G k ∧ W.heap.size ≤ k ∧ ¬ MKb pm bv sv LB LS k) : RS A W w' b F a c G d T pm bv sv LB LS CB CS :=
  ⟨h.duo.poke hs (fun k hk => ⟨(hx k hk).1, (hx k hk).2.1, (hx k hk).2.2.1⟩), h.mkk.step hs (fun k hk hX => (hx k hX).2.2.2 hk), h.nf⟩
theorem mkb_pushB {pm : Nat} {bv bv' sv v : Value} {LB LS : List Value} {q : Nat} (h : MKb pm bv' sv (LB ++ [v]) LS q) : MKb pm bv sv LB LS q ∨ bv'.ownBlock = some q ∨ v.ownBlock = some q := by
  rcases h with h | h | h | h | h
  · exact .inl (.inl h)
  · exact .inr (.inl h)
  · exact .inl (.inr (.inr (.inl h)))
  · rcases inL_push h with h | h
    · exact .inl (.inr (.inr (.inr (.inl h))))
    · exact .inr (.inr h)
  · exact .inl (.inr (.inr (.inr (.inr h))))
theorem mkb_pushS {pm : Nat} {bv sv sv' v : Value} {LB LS : List Value} {q : Nat} (h : MKb pm bv sv' LB (LS ++ [v]) q) : MKb pm bv sv LB LS q ∨ sv'.ownBlock = some q ∨ v.ownBlock = some q := by
  rcases h with h | h | h | h | h
  · exact .inl (.inl h)
  · exact .inl (.inr (.inl h))
  · exact .inr (.inl h)
  · exact .inl (.inr (.inr (.inr (.inl h))))
  · rcases inL_push h with h | h
    · exact .inl (.inr (.inr (.inr (.inr h))))
    · exact .inr (.inr h)
/-- One more list of bytes is kept. -/
theorem RS.pushB {A : Nat → Addr} {W w : World} {b : Nat} {F : Nat → Prop} {a : Dev} {c : Nat} {G : Nat → Prop} {d : Dev} {T pm : Nat} {bv sv : Value} {LB LS : List Value} {CB CS : Nat → List Value} (h : RS A W w b F a c G d T pm bv sv LB LS CB CS) {v : Value} {n : Nat} {xs : List Value} (hv : w.ownsRow W.heap.size 5 1 v n xs) (hn : n ≤ 5864062014000) (hne : ∀ g, v.ownBlock = some g → ¬ inL LB g) (hof : ∀ g, v.ownBlock = some g → ¬ F g ∧ ¬ G g) (hl : LB.length ≤ 1073741824) :
    ∃ a' c' w', (Builtin.append_ #[61, 61] 61 #[bv, .slice (some ⟨w.heap.size, 0, none⟩) 1 1]).run Tryd.prog (w.alloc (.cells #[v] 36)) = .ok (.slice a' (LB.length + 1) c') w' ∧ w'.heap[pm]? = some (.cells #[bv, sv] 64 (0, 0)) ∧
      RS A W (w'.setCell ⟨pm, 0, none⟩ (.slice a' (LB.length + 1) c')) b F a c G d T pm (.slice a' (LB.length + 1) c') sv (LB ++ [v]) LS (fun i => if i = LB.length then xs else CB i) CS ∧ Step (fun k => k = pm ∨ bv.ownBlock = some k) (fun k => k = pm ∨ bv.ownBlock = some k) w (w'.setCell ⟨pm, 0, none⟩ (.slice a' (LB.length + 1) c')) := by
  obtain ⟨a', c', w', hr, hm, hpm, hat, hst⟩ := h.mkk.pushB hv hn hne hl h.duo.one.bel.size
  have hx : ∀ k, (k = pm ∨ bv.ownBlock = some k) → MKb pm bv sv LB LS k := fun k hk => hk.elim .inl (fun h => .inr (.inl h))
  refine ⟨a', c', w', hr, hpm, ⟨h.duo.poke hst (fun k hk => ⟨(h.nf k (hx k hk)).1, (h.nf k (hx k hk)).2, (h.mkk.lt (hx k hk)).1⟩), hm, fun q hq => ?_⟩, hst⟩
  rcases mkb_pushB (bv := bv) hq with h1 | h1 | h1
  · exact h.nf q h1
  · rcases hat q h1 with h2 | h2
    · exact h.nf q (.inr (.inl h2))
    · exact ⟨fun hf => by have := h.duo.one.dev.lt q hf; omega, fun hg => by have := h.duo.two.lt q hg; omega⟩
  · exact hof q h1
theorem RS.pushS {A : Nat → Addr} {W w : World} {b : Nat} {F : Nat → Prop} {a : Dev} {c : Nat} {G : Nat → Prop} {d : Dev} {T pm : Nat} {bv sv : Value} {LB LS : List Value} {CB CS : Nat → List Value} (h : RS A W w b F a c G d T pm bv sv LB LS CB CS) {v : Value} {n : Nat} {xs : List Value} (hv : w.ownsRow W.heap.size 68 2 v n xs) (hn : n ≤ 5864062014000) (hne : ∀ g, v.ownBlock = some g → ¬ inL LS g) (hof : ∀ g, v.ownBlock = some g → ¬ F g ∧ ¬ G g) (hl : LS.length ≤ 1073741824) :
    ∃ a' c' w', (Builtin.append_ #[62, 62] 62 #[sv, .slice (some ⟨w.heap.size, 0, none⟩) 1 1]).run Tryd.prog (w.alloc (.cells #[v] 22)) = .ok (.slice a' (LS.length + 1) c') w' ∧ w'.heap[pm]? = some (.cells #[bv, sv] 64 (0, 0)) ∧
      RS A W (w'.setCell ⟨pm, 1, none⟩ (.slice a' (LS.length + 1) c')) b F a c G d T pm bv (.slice a' (LS.length + 1) c') LB (LS ++ [v]) CB (fun i => if i = LS.length then xs else CS i) ∧ Step (fun k => k = pm ∨ sv.ownBlock = some k) (fun k => k = pm ∨ sv.ownBlock = some k) w (w'.setCell ⟨pm, 1, none⟩ (.slice a' (LS.length + 1) c')) := by
  obtain ⟨a', c', w', hr, hm, hpm, hat, hst⟩ := h.mkk.pushS hv hn hne hl h.duo.one.bel.size
  have hx : ∀ k, (k = pm ∨ sv.ownBlock = some k) → MKb pm bv sv LB LS k := fun k hk => hk.elim .inl (fun h => .inr (.inr (.inl h)))
  refine ⟨a', c', w', hr, hpm, ⟨h.duo.poke hst (fun k hk => ⟨(h.nf k (hx k hk)).1, (h.nf k (hx k hk)).2, (h.mkk.lt (hx k hk)).1⟩), hm, fun q hq => ?_⟩, hst⟩
  rcases mkb_pushS (sv := sv) hq with h1 | h1 | h1
  · exact h.nf q h1
  · rcases hat q h1 with h2 | h2
    · exact h.nf q (.inr (.inr (.inl h2)))
    · exact ⟨fun hf => by have := h.duo.one.dev.lt q hf; omega, fun hg => by have := h.duo.two.lt q hg; omega⟩
  · exact hof q h1
theorem read_pend (d : Dev) (s n : Int) : (d.read s n).1.pend = d.pend := by
  unfold Dev.read; repeat' split
  all_goals rfl
theorem read_len (d : Dev) (hd : d.Ok) (s n : Int) : (d.read s n).2.1.length ≤ 524288 := by
  unfold Dev.read
  split
  · simp
  · split
    · simp
    · split
      · simp
      · simp only []
        rw [readB_len hd]
        omega
theorem Fine.read {steps : List Stp} {k : Nat} {d : Dev} {T : Nat} (h : Fine steps k d T) (s n : Int) : Fine steps k (d.read s n).1 T :=
  ⟨by rw [read_pend]; exact h.pend, by rw [read_arms]; exact h.more, by rw [read_arms]; exact h.sum, by rw [read_arms]; exact h.arms⟩
/-- The program's read, and the document's. -/
theorem RS.read {A : Nat → Addr} {W w : World} {b : Nat} {F : Nat → Prop} {c : Nat} {G : Nat → Prop} {d : Dev} {T pm : Nat} {bv sv : Value} {LB LS : List Value} {CB CS : Nat → List Value} (h : RS A W w b F (shortD d) c G d T pm bv sv LB LS CB CS) (s n : Int) (hn : n < 9223372036854775808) :
    Calls Tryd.prog 13 #[.pointer (some ⟨b, 0, none⟩), .int .i64 s, .int .i64 n] w fun e w' => ∃ va vc ev, e = .returned (.tuple #[.slice va (d.read s n).2.1.length vc, ev]) ∧ w'.ownsRow w.heap.size 5 1 (.slice va (d.read s n).2.1.length vc) (d.read s n).2.1.length (u8s (d.read s n).2.1) ∧ RS A W w' b F (shortD (d.read s n).1) c G d T pm bv sv LB LS CB CS ∧ Step F F w w' := by
  refine (read_any W.heap.size A b F (shortD d) w h.duo.one.dev h.duo.one.err s n hn).mono ?_
  rintro e w' ⟨v, P⟩
  have hret := P.ret
  have hrow := P.row
  have hdev := P.dev
  rw [short_read] at hret hrow hdev
  simp only [] at hret hrow hdev
  obtain ⟨va, vc, rfl, -⟩ := owns_form hrow
  exact ⟨va, vc, _, hret, hrow, h.one hdev P.step, P.step⟩
theorem RS.rread {A : Nat → Addr} {W w : World} {b : Nat} {F : Nat → Prop} {a : Dev} {c : Nat} {G : Nat → Prop} {d : Dev} {T pm : Nat} {bv sv : Value} {LB LS : List Value} {CB CS : Nat → List Value} (h : RS A W w b F a c G d T pm bv sv LB LS CB CS) (hp : d.pend.length ≤ 5864062014805) (s n : Int) (hs : -9223372036854775808 ≤ s ∧ s < 9223372036854775808) (hn : -9223372036854775808 ≤ n ∧ n < 9223372036854775808) :
    Calls Tryd.prog 26 #[.pointer (some ⟨c, 0, none⟩), .int .i64 s, .int .i64 n] w fun e w' => ∃ v, e = .returned v ∧ RS A W w' b F a c G (d.read s n).1 T pm bv sv LB LS CB CS ∧ Step G G w w' := by
  refine (rdev_read_any c G d T w h.duo.two s n hp hs hn).mono ?_
  rintro e w' ⟨v, rfl, _, h1, h2⟩
  exact ⟨_, rfl, h.two h1 h2, h2⟩
/-- What a round of DeviceApart holds. -/
structure AP (A : Nat → Addr) (W wr : World) (b : Nat) (F : Nat → Prop) (c : Nat) (G : Nat → Prop) (d : Dev) (T : Nat) (steps : List Stp) (k pm : Nat) (bv sv : Value) (LB LS : List Value) (CB CS : Nat → List Value) : Prop where
  rs : RS A W wr b F (shortD d) c G d T pm bv sv LB LS CB CS
  fine : Fine steps k d T
  lb : LB.length = 2 * k
  ls : LS.length = 2 * k

end Go.Proofs.YtdieacdkomiooabDoor

namespace Go.Proofs.YtdieacdkomiooabDoor
open Go.RowKit Go.Maps

/-- Behind handed. -/
structure H2 (A : Nat → Addr) (W w : World) (b : Nat) (F : Nat → Prop) (c : Nat) (G : Nat → Prop) (d : Dev) (T : Nat) (s : Stp) (P : Nat) (fv : Value) (pm : Nat) (bv sv : Value) (LB LS : List Value) (CB CS : Nat → List Value) (vb vs : Value) : Prop where
  rs : RS A W w b F (shortD (d.actF s).1) c G d T pm bv sv LB LS CB CS
  five : Five w P s fv
  op : Off w F G P
  rb : w.ownsRow P 5 1 vb (d.actF s).2.bytes.length (u8s (d.actF s).2.bytes)
  rr : w.ownsRow P 68 2 vs (d.actF s).2.secs.length (secCells (d.actF s).2.secs)
  ob : ∀ g, vb.ownBlock = some g → Off w F G g ∧ P < g
  os : ∀ g, vs.ownBlock = some g → Off w F G g ∧ P < g
theorem ap_hand {A : Nat → Addr} {W wr : World} {b c : Nat} {F G : Nat → Prop} {d : Dev} {T : Nat} {steps : List Stp} {k pm : Nat} {bv sv : Value} {LB LS : List Value} {CB CS : Nat → List Value} (H : AP A W wr b F c G d T steps k pm bv sv LB LS CB CS) (hl : steps.length ≤ 1048576) (hk : k < steps.length) (s : Stp) (fv : Value) (hfx : FatesIn W fv s.fates) (hn : s.n < 9223372036854775808) (hd : s.data.size ≤ 1048576) (hfl : s.fates.length ≤ 1048576)
    (w1 : World) (hb : Below wr.heap.size wr w1) (hz : w1.heap.size = wr.heap.size + 1) (h5 : Five w1 wr.heap.size s fv) :
    Calls Tryd.prog 25 #[.pointer (some ⟨b, 0, none⟩), .agg #[.int .i64 s.kind, .int .i64 s.sector, .int .i64 s.n, .string s.data, fv]] w1 fun e w2 => ∃ va vc sa sc F6, e = .returned (.tuple #[.agg #[.int .i64 ((d.actF s).2.err : Int), .slice va (d.actF s).2.bytes.length vc, .slice sa (d.actF s).2.secs.length sc, .int .i64 (d.actF s).2.a, .int .i64 (d.actF s).2.b, .int .i64 (d.actF s).2.c], .bool true]) ∧
      H2 A W w2 b F6 c G d T s wr.heap.size fv pm bv sv LB LS CB CS (.slice va (d.actF s).2.bytes.length vc) (.slice sa (d.actF s).2.secs.length sc) := by
  have h1 := H.fine.pend
  have h2 := H.fine.more
  have R1 := H.rs.up hb
  obtain ⟨K, S, n, D, l⟩ := s
  refine (handed_any W.heap.size A W b F (shortD d) w1 R1.duo.one.dev R1.duo.one.err R1.duo.one.far R1.duo.one.bel R1.duo.one.far K S n D l fv hfx hfl hd (stpOk_of (k := k) hn hd (by exact h1) (by omega)) (by show ((d.arms.map _).length + 1) * 32 ≤ _; rw [List.length_map]; omega)).mono ?_
  rintro e w2 ⟨vb, vs, F6, Q⟩
  rw [short_act] at Q
  have q1 := Q.rb
  have q2 := Q.rs
  have q3 := Q.dev
  simp only [] at q1 q2 q3
  obtain ⟨va, vc, rfl, -⟩ := owns_form q1
  obtain ⟨sa, sc, rfl, -⟩ := owns_form q2
  have hP : Off w1 F G wr.heap.size := ⟨fun hf => by have := H.rs.duo.one.dev.lt _ hf; omega, fun hg => by have := H.rs.duo.two.lt _ hg; omega, by omega⟩
  have weak : ∀ (e size n : Nat) (v : Value) (xs : List Value), w2.ownsRow w1.heap.size e size v n xs → w2.ownsRow wr.heap.size e size v n xs := fun e size n v xs h => ⟨h.1, h.2.imp id fun ⟨g, cap, cur, h1, h2, h3⟩ => ⟨g, cap, cur, h1, by omega, h3⟩⟩
  have fresh : ∀ (e size n : Nat) (v : Value) (xs : List Value), w2.ownsRow w1.heap.size e size v n xs → (∀ g, v.ownBlock = some g → ¬ F6 g) → ∀ g, v.ownBlock = some g → Off w2 F6 G g ∧ wr.heap.size < g := fun e size n v xs h hn g hg => by
    obtain ⟨h1, h2, _⟩ := owns_blk h g hg
    exact ⟨⟨hn g hg, fun hG => by have := H.rs.duo.two.lt g hG; omega, h2⟩, by omega⟩
  exact ⟨va, vc, sa, sc, F6, Q.ret, R1.one q3 Q.step, h5.step Q.step hP.1, hP.one Q.step, weak _ _ _ _ _ q1, weak _ _ _ _ _ q2, fresh _ _ _ _ _ q1 Q.nb, fresh _ _ _ _ _ q2 Q.ns⟩
/-- Behind told. -/
structure H4 (A : Nat → Addr) (W w : World) (b : Nat) (F : Nat → Prop) (c : Nat) (G : Nat → Prop) (d : Dev) (T : Nat) (steps : List Stp) (k : Nat) (s : Stp) (P q2 : Nat) (fv : Value) (pm : Nat) (bv sv : Value) (LB LS : List Value) (CB CS : Nat → List Value) (vb vs : Value) : Prop where
  rs : RS A W w b F (shortD d) c G d T pm bv sv LB LS CB CS
  fine : Fine steps (k + 1) d T
  five : Five w P s fv
  op : Off w F G P
  oq : Off w F G q2 ∧ P < q2
  got : ∃ e a b' c' : Int, w.heap[q2]? = some (.cells #[.int .i64 e, vb, vs, .int .i64 a, .int .i64 b', .int .i64 c'] 38 (0, 0))
  bw : ∀ g, vb.ownBlock = some g → (Off w F G g ∧ P < g) ∧ ∃ va n vc, vb = .slice va n vc ∧ ∃ cur : Array Value, w.heap[g]? = some (.cells cur 5 (0, 0)) ∧ n ≤ cur.size ∧ ∀ j, j < n → ∃ x : Int, cur[j]? = some (.int .u8 x) ∧ 0 ≤ x ∧ x < 256
  sw : ∀ g, vs.ownBlock = some g → (Off w F G g ∧ P < g) ∧ ∃ va n vc, vs = .slice va n vc ∧ ∃ cur : Array Value, w.heap[g]? = some (.cells cur 68 (0, 0)) ∧ n * 2 ≤ cur.size
theorem H4.up {A : Nat → Addr} {W w w' : World} {b : Nat} {F : Nat → Prop} {c : Nat} {G : Nat → Prop} {d : Dev} {T : Nat} {steps : List Stp} {k : Nat} {s : Stp} {P q2 : Nat} {fv : Value} {pm : Nat} {bv sv : Value} {LB LS : List Value} {CB CS : Nat → List Value} {vb vs : Value} (h : H4 A W w b F c G d T steps k s P q2 fv pm bv sv LB LS CB CS vb vs) (hb : Below w.heap.size w w') : H4 A W w' b F c G d T steps k s P q2 fv pm bv sv LB LS CB CS vb vs := by
  obtain ⟨e, a, b', c', hg⟩ := h.got
  refine ⟨h.rs.up hb, h.fine, h.five.below hb, h.op.up hb.size, ⟨h.oq.1.up hb.size, h.oq.2⟩, ⟨e, a, b', c', (hb.block _ h.oq.1.2.2).trans hg⟩, fun g hg => ?_, fun g hg => ?_⟩
  · obtain ⟨⟨h1, h2⟩, va, n, vc, he, cur, hc, h3⟩ := h.bw g hg
    exact ⟨⟨h1.up hb.size, h2⟩, va, n, vc, he, cur, (hb.block _ h1.2.2).trans hc, h3⟩
  · obtain ⟨⟨h1, h2⟩, va, n, vc, he, cur, hc, h3⟩ := h.sw g hg
    exact ⟨⟨h1.up hb.size, h2⟩, va, n, vc, he, cur, (hb.block _ h1.2.2).trans hc, h3⟩
/-- A byte of the answer is turned. -/
theorem H4.pokeB {A : Nat → Addr} {W w : World} {b : Nat} {F : Nat → Prop} {c : Nat} {G : Nat → Prop} {d : Dev} {T : Nat} {steps : List Stp} {k : Nat} {s : Stp} {P q2 : Nat} {fv : Value} {pm : Nat} {bv sv : Value} {LB LS : List Value} {CB CS : Nat → List Value} {g n vc : Nat} {vs : Value} (h : H4 A W w b F c G d T steps k s P q2 fv pm bv sv LB LS CB CS (.slice (some ⟨g, 0, none⟩) n vc) vs) (hW : W.heap.size ≤ P) (hm : ∀ q, MKb pm bv sv LB LS q → q < P) (j : Nat) (x : Int) (hx : 0 ≤ x ∧ x < 256) : H4 A W (w.setCell ⟨g, j, none⟩ (.int .u8 x)) b F c G d T steps k s P q2 fv pm bv sv LB LS CB CS (.slice (some ⟨g, 0, none⟩) n vc) vs := by
  have hs := step_set (w := w) (g := g) (j := j) (v := .int .u8 x)
  obtain ⟨⟨o1, o2⟩, va, n', vc', he, cur, hc, h3, h4⟩ := h.bw g rfl
  simp only [Value.slice.injEq] at he
  obtain ⟨-, rfl, -⟩ := he
  have ty : ∀ (k : Nat) (c' : Array Value) (e : TypeId), w.heap[k]? = some (Obj.cells c' e (0, 0)) → e ≠ 5 → k ≠ g := fun k c' e hk he e' => by rw [e', hc] at hk; simp at hk; exact he hk.2.symm
  obtain ⟨e, a, b', c', hg⟩ := h.got
  have hsz : w.heap.size ≤ (w.setCell ⟨g, j, none⟩ (.int .u8 x)).heap.size := by simp [World.setCell]
  refine ⟨h.rs.poke hs (fun q hq => ?_), h.fine, h.five.step hs (by omega), h.op.up hsz, ⟨h.oq.1.up hsz, h.oq.2⟩, ⟨e, a, b', c', (setCell_blk (ty _ _ _ hg (by decide))).trans hg⟩, fun g' hg' => ?_, fun g' hg' => ?_⟩
  · subst hq
    exact ⟨o1.1, o1.2.1, by omega, fun hM => by have := hm q hM; omega⟩
  · simp only [Value.ownBlock, Option.some.injEq] at hg'
    subst hg'
    refine ⟨⟨o1.up hsz, o2⟩, _, n, vc, rfl, _, set_row hc, by simpa using h3, fun i hi => ?_⟩
    by_cases e : i = j
    · subst e
      exact ⟨x, by rw [Array.getElem?_setIfInBounds_self_of_lt (by omega)], hx⟩
    · rw [Array.getElem?_setIfInBounds_ne (fun h => e h.symm)]; exact h4 i hi
  · obtain ⟨⟨h1, h2⟩, va', n2, vc2, he2, cur2, hc2, h5⟩ := h.sw g' hg'
    exact ⟨⟨h1.up hsz, h2⟩, va', n2, vc2, he2, cur2, (setCell_blk (ty _ _ _ hc2 (by decide))).trans hc2, h5⟩
/-- A sector of the answer is turned. -/
theorem H4.pokeS {A : Nat → Addr} {W w : World} {b : Nat} {F : Nat → Prop} {c : Nat} {G : Nat → Prop} {d : Dev} {T : Nat} {steps : List Stp} {k : Nat} {s : Stp} {P q2 : Nat} {fv : Value} {pm : Nat} {bv sv : Value} {LB LS : List Value} {CB CS : Nat → List Value} {g n vc : Nat} {vb : Value} (h : H4 A W w b F c G d T steps k s P q2 fv pm bv sv LB LS CB CS vb (.slice (some ⟨g, 0, none⟩) n vc)) (hW : W.heap.size ≤ P) (hm : ∀ q, MKb pm bv sv LB LS q → q < P) (j : Nat) (x y : Value) : H4 A W ((w.setCell ⟨g, j * 2, none⟩ x).setCell ⟨g, j * 2 + 1, none⟩ y) b F c G d T steps k s P q2 fv pm bv sv LB LS CB CS vb (.slice (some ⟨g, 0, none⟩) n vc) := by
  have hs := (step_set (w := w) (g := g) (j := j * 2) (v := x)).trans (step_set (g := g) (j := j * 2 + 1) (v := y))
  obtain ⟨⟨o1, o2⟩, va, n', vc', he, cur, hc, h3⟩ := h.sw g rfl
  simp only [Value.slice.injEq] at he
  obtain ⟨-, rfl, -⟩ := he
  have ty : ∀ (k : Nat) (c' : Array Value) (e : TypeId), w.heap[k]? = some (Obj.cells c' e (0, 0)) → e ≠ 68 → k ≠ g := fun k c' e hk he e' => by rw [e', hc] at hk; simp at hk; exact he hk.2.symm
  obtain ⟨e, a, b', c', hg⟩ := h.got
  have hsz : w.heap.size ≤ ((w.setCell ⟨g, j * 2, none⟩ x).setCell ⟨g, j * 2 + 1, none⟩ y).heap.size := by simp [World.setCell]
  refine ⟨h.rs.poke hs (fun q hq => ?_), h.fine, h.five.step hs (by omega), h.op.up hsz, ⟨h.oq.1.up hsz, h.oq.2⟩, ⟨e, a, b', c', ((setCell_blk (ty _ _ _ hg (by decide))).trans (setCell_blk (ty _ _ _ hg (by decide)))).trans hg⟩, fun g' hg' => ?_, fun g' hg' => ?_⟩
  · subst hq
    exact ⟨o1.1, o1.2.1, by omega, fun hM => by have := hm q hM; omega⟩
  · obtain ⟨⟨h1, h2⟩, va', n2, vc2, he2, cur2, hc2, h5⟩ := h.bw g' hg'
    exact ⟨⟨h1.up hsz, h2⟩, va', n2, vc2, he2, cur2, ((setCell_blk (ty _ _ _ hc2 (by decide))).trans (setCell_blk (ty _ _ _ hc2 (by decide)))).trans hc2, h5⟩
  · simp only [Value.ownBlock, Option.some.injEq] at hg'
    subst hg'
    exact ⟨⟨o1.up hsz, o2⟩, _, n, vc, rfl, _, set_row (set_row hc), by simpa using h3⟩
theorem ap_told {A : Nat → Addr} {W w2 : World} {b c : Nat} {F6 G : Nat → Prop} {d : Dev} {T : Nat} {steps : List Stp} {k pm : Nat} {bv sv : Value} {LB LS : List Value} {CB CS : Nat → List Value} (hf : Fine steps k d T) (hS : StepsT steps) (hl : steps.length ≤ 1048576) (hk : k < steps.length) (s : Stp) (hsk : steps[k] = s) (P : Nat) (fv : Value) (hfx : FatesIn W fv s.fates) (hd : s.data.size ≤ 1048576)
    (va sa : Option Addr) (vc sc : Nat) (M : H2 A W w2 b F6 c G d T s P fv pm bv sv LB LS CB CS (.slice va (d.actF s).2.bytes.length vc) (.slice sa (d.actF s).2.secs.length sc)) (w3 : World) (hb3 : Below w2.heap.size w2 w3) (E a' b' c' : Int) (hg3 : w3.heap[w2.heap.size]? = some (.cells #[.int .i64 E, .slice va (d.actF s).2.bytes.length vc, .slice sa (d.actF s).2.secs.length sc, .int .i64 a', .int .i64 b', .int .i64 c'] 38 (0, 0))) (w' : World) (hb : Below w3.heap.size w3 w') :
    Calls Tryd.prog 23 #[.pointer (some ⟨c, 0, none⟩), .agg #[.int .i64 s.kind, .int .i64 s.sector, .int .i64 s.n, .string s.data, fv]] w' fun e w'' => ∃ ua uc ta tc G6 T6, e = .returned (.agg #[.int .i64 ((d.actF s).2.err : Int), .slice ua (d.actF s).2.bytes.length uc, .slice ta (d.actF s).2.secs.length tc, .int .i64 (d.actF s).2.a, .int .i64 (d.actF s).2.b, .int .i64 (d.actF s).2.c]) ∧
      H4 A W w'' b F6 c G6 (d.actF s).1 T6 steps k s P w2.heap.size fv pm bv sv LB LS CB CS (.slice va (d.actF s).2.bytes.length vc) (.slice sa (d.actF s).2.secs.length sc) ∧ Both w'' (d.actF s).2 (.slice va (d.actF s).2.bytes.length vc) (.slice sa (d.actF s).2.secs.length sc) (.slice ua (d.actF s).2.bytes.length uc) (.slice ta (d.actF s).2.secs.length tc) ∧
      w''.heap[w2.heap.size]? = some (.cells #[.int .i64 E, .slice va (d.actF s).2.bytes.length vc, .slice sa (d.actF s).2.secs.length sc, .int .i64 a', .int .i64 b', .int .i64 c'] 38 (0, 0)) := by
  have htold := hf.told hS hk hl (by rw [hsk]; exact hd)
  rw [hsk] at htold
  have hb2 := Below.next hb3 hb
  have R := M.rs.up hb2
  have hln := actF_lens d s R.duo.two.ok (by have := hf.pend; omega)
  refine (R.duo.told s fv hfx htold).mono ?_
  rintro e w'' ⟨ub, us, G6, T6, Q, hs, hT⟩
  have q1 := Q.rb
  have q2 := Q.rs
  obtain ⟨ua, uc, rfl, -⟩ := owns_form q1.1
  obtain ⟨ta, tc, rfl, -⟩ := owns_form q2.1
  have hnx := hf.next (T' := T6) hS hk (by rw [hsk]; exact hd) (by rw [hsk]; exact hT)
  rw [hsk] at hnx
  have oq2 : Off w' F6 G w2.heap.size := ⟨fun hF => by have := M.rs.duo.one.dev.lt _ hF; omega, fun hG => by have := M.rs.duo.two.lt _ hG; omega, Nat.lt_of_lt_of_le ((Array.getElem?_eq_some_iff.1 hg3).1) hb.size⟩
  have hgw : w''.heap[w2.heap.size]? = _ := (hs.block _ oq2.2.2 oq2.2.1).trans ((hb.block _ ((Array.getElem?_eq_some_iff.1 hg3).1)).trans hg3)
  have r1 := owns_step (owns_below M.rb hb2) hs (fun g hg => ((M.ob g hg).1.up hb2.size).2.1)
  have r2 := owns_step (owns_below M.rr hb2) hs (fun g hg => ((M.os g hg).1.up hb2.size).2.1)
  have P2 := M.op.2.2
  refine ⟨ua, uc, ta, tc, G6, T6, Q.ret, ⟨R.two Q.duo.two hs, hnx, (M.five.below hb2).step hs (M.op.up hb2.size).2.1, (M.op.up hb2.size).two hs, ⟨oq2.two hs, by omega⟩, ⟨_, _, _, _, hgw⟩, fun g hg => ⟨⟨((M.ob g hg).1.up hb2.size).two hs, (M.ob g hg).2⟩, ?_⟩, fun g hg => ⟨⟨((M.os g hg).1.up hb2.size).two hs, (M.os g hg).2⟩, ?_⟩⟩, ⟨bytesIn_own r1 hln.1, secsIn_own r2 hln.2, bytesIn_own q1.1 hln.1, secsIn_own q2.1 hln.2⟩, hgw⟩
  · obtain ⟨g0, rfl⟩ : ∃ g0, va = some ⟨g0, 0, none⟩ := by
      obtain ⟨x, y, h1, h2⟩ := owns_form r1
      simp only [Value.slice.injEq] at h1
      rcases r1.2 with ⟨h', _⟩ | ⟨g0, cap, cur, h', _⟩
      · simp only [Value.slice.injEq] at h'; rw [h'.1] at hg; simp [Value.ownBlock] at hg
      · simp only [Value.slice.injEq] at h'; exact ⟨g0, h'.1⟩
    simp only [Value.ownBlock, Option.some.injEq] at hg
    subst hg
    obtain ⟨cur, hc, h1, h2⟩ := owns_weak r1
    refine ⟨_, _, vc, rfl, cur, hc, by omega, fun j hj => ?_⟩
    rw [h2 j (by omega), u8s, List.getElem?_map, List.getElem?_eq_getElem hj]
    exact ⟨_, rfl, by simp, by have := UInt8.toNat_lt (d.actF s).2.bytes[j]; omega⟩
  · obtain ⟨g0, rfl⟩ : ∃ g0, sa = some ⟨g0, 0, none⟩ := by
      rcases r2.2 with ⟨h', _⟩ | ⟨g0, cap, cur, h', _⟩
      · simp only [Value.slice.injEq] at h'; rw [h'.1] at hg; simp [Value.ownBlock] at hg
      · simp only [Value.slice.injEq] at h'; exact ⟨g0, h'.1⟩
    simp only [Value.ownBlock, Option.some.injEq] at hg
    subst hg
    obtain ⟨cur, hc, h1, _⟩ := owns_weak r2
    exact ⟨_, _, sc, rfl, cur, hc, by omega⟩

end Go.Proofs.YtdieacdkomiooabDoor

namespace Go.Proofs.YtdieacdkomiooabDoor
open Go.RowKit Go.Maps

/-- Behind the answer's spoiling. -/
structure Y1 (A : Nat → Addr) (W w : World) (b : Nat) (F : Nat → Prop) (a : Dev) (c : Nat) (G : Nat → Prop) (d : Dev) (T pm : Nat) (bv sv : Value) (LB LS : List Value) (CB CS : Nat → List Value) (s : Stp) (P : Nat) (fv : Value) : Prop where
  rs : RS A W w b F a c G d T pm bv sv LB LS CB CS
  five : Five w P s fv
  op : Off w F G P
theorem H4.y {A : Nat → Addr} {W w : World} {b : Nat} {F : Nat → Prop} {c : Nat} {G : Nat → Prop} {d : Dev} {T : Nat} {steps : List Stp} {k : Nat} {s : Stp} {P q2 : Nat} {fv : Value} {pm : Nat} {bv sv : Value} {LB LS : List Value} {CB CS : Nat → List Value} {vb vs : Value} (h : H4 A W w b F c G d T steps k s P q2 fv pm bv sv LB LS CB CS vb vs) : Y1 A W w b F (shortD d) c G d T pm bv sv LB LS CB CS s P fv := ⟨h.rs, h.five, h.op⟩
theorem Y1.up {A : Nat → Addr} {W w w' : World} {b : Nat} {F : Nat → Prop} {a : Dev} {c : Nat} {G : Nat → Prop} {d : Dev} {T pm : Nat} {bv sv : Value} {LB LS : List Value} {CB CS : Nat → List Value} {s : Stp} {P : Nat} {fv : Value} (h : Y1 A W w b F a c G d T pm bv sv LB LS CB CS s P fv) (hb : Below w.heap.size w w') : Y1 A W w' b F a c G d T pm bv sv LB LS CB CS s P fv := ⟨h.rs.up hb, h.five.below hb, h.op.up hb.size⟩
/-- A list of bytes that was read. -/
structure KB (w : World) (base : Nat) (F G : Nat → Prop) (LB : List Value) (v : Value) (n : Nat) (xs : List Value) : Prop where
  row : w.ownsRow base 5 1 v n xs
  off : ∀ g, v.ownBlock = some g → ¬ F g ∧ ¬ G g ∧ ¬ inL LB g
theorem KB.step {w w' : World} {base : Nat} {F G X X' : Nat → Prop} {LB : List Value} {v : Value} {n : Nat} {xs : List Value} (h : KB w base F G LB v n xs) (hs : Step X X' w w') (hx : ∀ g, v.ownBlock = some g → ¬ X g) : KB w' base F G LB v n xs := ⟨owns_step h.row hs hx, h.off⟩
theorem KB.one {w w' : World} {base : Nat} {F G : Nat → Prop} {LB : List Value} {v : Value} {n : Nat} {xs : List Value} (h : KB w base F G LB v n xs) (hs : Step F F w w') : KB w' base F G LB v n xs := h.step hs fun g hg => (h.off g hg).1
theorem KB.two {w w' : World} {base : Nat} {F G : Nat → Prop} {LB : List Value} {v : Value} {n : Nat} {xs : List Value} (h : KB w base F G LB v n xs) (hs : Step G G w w') : KB w' base F G LB v n xs := h.step hs fun g hg => (h.off g hg).2.1
theorem Y1.read {A : Nat → Addr} {W w : World} {b : Nat} {F : Nat → Prop} {c : Nat} {G : Nat → Prop} {d : Dev} {T pm : Nat} {bv sv : Value} {LB LS : List Value} {CB CS : Nat → List Value} {s : Stp} {P : Nat} {fv : Value} (h : Y1 A W w b F (shortD d) c G d T pm bv sv LB LS CB CS s P fv) (x n : Int) (hn : n < 9223372036854775808) :
    Calls Tryd.prog 13 #[.pointer (some ⟨b, 0, none⟩), .int .i64 x, .int .i64 n] w fun e w' => ∃ va vc ev, e = .returned (.tuple #[.slice va (d.read x n).2.1.length vc, ev]) ∧ Y1 A W w' b F (shortD (d.read x n).1) c G d T pm bv sv LB LS CB CS s P fv ∧
      KB w' W.heap.size F G LB (.slice va (d.read x n).2.1.length vc) (d.read x n).2.1.length (u8s (d.read x n).2.1) ∧ (∀ g, (Value.slice va (d.read x n).2.1.length vc).ownBlock = some g → w.heap.size ≤ g) ∧ Step F F w w' := by
  refine (h.rs.read x n hn).mono ?_
  rintro e w' ⟨va, vc, ev, rfl, hr, hR, hs⟩
  have hW : W.heap.size ≤ w.heap.size := h.rs.duo.one.bel.size
  refine ⟨va, vc, ev, rfl, ⟨hR, h.five.step hs h.op.1, h.op.one hs⟩, ⟨⟨hr.1, hr.2.imp id fun ⟨g, cap, cur, h1, h2, h3⟩ => ⟨g, cap, cur, h1, by omega, h3⟩⟩, fun g hg => ?_⟩, fun g hg => (owns_blk hr g hg).1, hs⟩
  have hg' := (owns_blk hr g hg).1
  exact ⟨fun hf => by have := h.rs.duo.one.dev.lt g hf; omega, fun hf => by have := h.rs.duo.two.lt g hf; omega, fun hf => by have := (h.rs.mkk.rb.blk hf).2.1; omega⟩
theorem Y1.rread {A : Nat → Addr} {W w : World} {b : Nat} {F : Nat → Prop} {a : Dev} {c : Nat} {G : Nat → Prop} {d : Dev} {T pm : Nat} {bv sv : Value} {LB LS : List Value} {CB CS : Nat → List Value} {s : Stp} {P : Nat} {fv : Value} (h : Y1 A W w b F a c G d T pm bv sv LB LS CB CS s P fv) (hp : d.pend.length ≤ 5864062014805) (x n : Int) (hs : -9223372036854775808 ≤ x ∧ x < 9223372036854775808) (hn : -9223372036854775808 ≤ n ∧ n < 9223372036854775808) :
    Calls Tryd.prog 26 #[.pointer (some ⟨c, 0, none⟩), .int .i64 x, .int .i64 n] w fun e w' => ∃ v, e = .returned v ∧ Y1 A W w' b F a c G (d.read x n).1 T pm bv sv LB LS CB CS s P fv ∧ Step G G w w' := by
  refine (h.rs.rread hp x n hs hn).mono ?_
  rintro e w' ⟨v, rfl, hR, hs⟩
  exact ⟨v, rfl, ⟨hR, h.five.step hs h.op.2.1, h.op.two hs⟩, hs⟩
/-- Another list behind a push. -/
theorem KB.push {A : Nat → Addr} {W w w' : World} {b : Nat} {F : Nat → Prop} {a : Dev} {c : Nat} {G : Nat → Prop} {d : Dev} {T pm : Nat} {bv sv : Value} {LB LS : List Value} {CB CS : Nat → List Value} (hR : RS A W w b F a c G d T pm bv sv LB LS CB CS) {v v' : Value} {n : Nat} {xs : List Value} (h : KB w W.heap.size F G LB v n xs) (hs : Step (fun k => k = pm ∨ bv.ownBlock = some k) (fun k => k = pm ∨ bv.ownBlock = some k) w w') (hne : ∀ g, v.ownBlock = some g → v'.ownBlock ≠ some g) : KB w' W.heap.size F G (LB ++ [v']) v n xs := by
  refine ⟨owns_step h.row hs fun g hg => ?_, fun g hg => ⟨(h.off g hg).1, (h.off g hg).2.1, fun hi => (inL_push hi).elim (h.off g hg).2.2 (hne g hg)⟩⟩
  obtain ⟨_, _, cur, hc⟩ := owns_blk h.row g hg
  rintro (rfl | hb)
  · rw [hR.mkk.blk] at hc; simp at hc
  · obtain ⟨_, _, cur', hc'⟩ := owns_blk hR.mkk.brow g hb
    rw [hc'] at hc; simp at hc
/-- What a list of sectors is that is kept. -/
structure SecP (A : Nat → Addr) (W w : World) (b : Nat) (F : Nat → Prop) (a : Dev) (c : Nat) (G : Nat → Prop) (d : Dev) (T pm : Nat) (bv sv : Value) (LB LS : List Value) (CB CS : Nat → List Value) (va : Option Addr) (n vc : Nat) (xs : List Value) : Prop where
  rs : RS A W w b F a c G d T pm bv sv LB LS CB CS
  row : w.ownsRow W.heap.size 68 2 (.slice va n vc) n xs
  len : n ≤ 5864062014000
  ne : ∀ g, (Value.slice va n vc).ownBlock = some g → ¬ inL LS g
  off : ∀ g, (Value.slice va n vc).ownBlock = some g → ¬ F g ∧ ¬ G g
theorem RS.secs {A : Nat → Addr} {W w : World} {b : Nat} {F : Nat → Prop} {a : Dev} {c : Nat} {G : Nat → Prop} {d : Dev} {T pm : Nat} {bv sv : Value} {LB LS : List Value} {CB CS : Nat → List Value} (h : RS A W w b F a c G d T pm bv sv LB LS CB CS) {w' : World} {v : Value} {l : List Sec} (hr : w'.ownsRow w.heap.size 68 2 v l.length (secCells l)) (hl : l.length ≤ 5864062014000) (hb : Below w.heap.size w w') : ∃ va vc, v = .slice va l.length vc ∧ SecP A W w' b F a c G d T pm bv sv LB LS CB CS va l.length vc (secCells l) := by
  obtain ⟨va, vc, rfl, -⟩ := owns_form hr
  have hW : W.heap.size ≤ w.heap.size := h.duo.one.bel.size
  refine ⟨va, vc, rfl, h.up hb, ⟨hr.1, hr.2.imp id fun ⟨g, cap, cur, h1, h2, h3⟩ => ⟨g, cap, cur, h1, by omega, h3⟩⟩, hl, fun g hg hi => ?_, fun g hg => ⟨fun hf => ?_, fun hf => ?_⟩⟩
  · have := (owns_blk hr g hg).1; have := (h.mkk.rs.blk hi).2.1; omega
  · have := (owns_blk hr g hg).1; have := h.duo.one.dev.lt g hf; omega
  · have := (owns_blk hr g hg).1; have := h.duo.two.lt g hf; omega
theorem RS.durable {A : Nat → Addr} {W w : World} {b : Nat} {F : Nat → Prop} {a : Dev} {c : Nat} {G : Nat → Prop} {d : Dev} {T pm : Nat} {bv sv : Value} {LB LS : List Value} {CB CS : Nat → List Value} (h : RS A W w b F a c G d T pm bv sv LB LS CB CS) :
    Calls Tryd.prog 14 #[.pointer (some ⟨b, 0, none⟩)] w fun e w' => ∃ va vc, e = .returned (.slice va a.dur.length vc) ∧ SecP A W w' b F a c G d T pm bv sv LB LS CB CS va a.dur.length vc (secCells a.dur) ∧ Below w.heap.size w w' := by
  refine (durable_any b F a w h.duo.one.dev).mono ?_
  rintro e w' ⟨v, rfl, hr, hb⟩
  obtain ⟨va, vc, rfl, hP⟩ := h.secs hr (Nat.le_trans h.duo.one.dev.ok.dur_len (by omega)) hb
  exact ⟨va, vc, rfl, hP, hb⟩
theorem RS.pending {A : Nat → Addr} {W w : World} {b : Nat} {F : Nat → Prop} {a : Dev} {c : Nat} {G : Nat → Prop} {d : Dev} {T pm : Nat} {bv sv : Value} {LB LS : List Value} {CB CS : Nat → List Value} (h : RS A W w b F a c G d T pm bv sv LB LS CB CS) (hp : a.pend.length ≤ 5864062014000) :
    Calls Tryd.prog 15 #[.pointer (some ⟨b, 0, none⟩)] w fun e w' => ∃ va vc, e = .returned (.slice va a.pend.length vc) ∧ SecP A W w' b F a c G d T pm bv sv LB LS CB CS va a.pend.length vc (secCells a.pend) ∧ Below w.heap.size w w' := by
  refine (pending_any b F a w h.duo.one.dev (by omega)).mono ?_
  rintro e w' ⟨v, rfl, hr, hb⟩
  obtain ⟨va, vc, rfl, hP⟩ := h.secs hr hp hb
  exact ⟨va, vc, rfl, hP, hb⟩
/-- A list of sectors is kept. -/
theorem SecP.push {A : Nat → Addr} {W w : World} {b : Nat} {F : Nat → Prop} {a : Dev} {c : Nat} {G : Nat → Prop} {d : Dev} {T pm : Nat} {bv sv : Value} {LB LS : List Value} {CB CS : Nat → List Value} {va : Option Addr} {n vc : Nat} {xs : List Value} (h : SecP A W w b F a c G d T pm bv sv LB LS CB CS va n vc xs) (hl : LS.length ≤ 1073741824) :
    ∃ a' c' w', (Builtin.append_ #[62, 62] 62 #[sv, .slice (some ⟨w.heap.size, 0, none⟩) 1 1]).run Tryd.prog (w.alloc (.cells #[.slice va n vc] 22)) = .ok (.slice a' (LS.length + 1) c') w' ∧ w'.cell? ⟨pm, 1, none⟩ = some sv ∧ w'.frozen? ⟨pm, 1, none⟩ = false ∧ (w.alloc (.cells #[.slice va n vc] 22)).cell? ⟨pm, 1, none⟩ = some sv ∧ w.cell? ⟨pm, 1, none⟩ = some sv ∧
      RS A W (w'.setCell ⟨pm, 1, none⟩ (.slice a' (LS.length + 1) c')) b F a c G d T pm bv (.slice a' (LS.length + 1) c') LB (LS ++ [.slice va n vc]) CB (fun i => if i = LS.length then xs else CS i) := by
  obtain ⟨a', c', w', hr, hp, hR, _⟩ := h.rs.pushS h.row h.len h.ne h.off hl
  have h0 : w.cell? ⟨pm, 1, none⟩ = some sv := by rw [cell_of_row _ _ _ _ _ _ h.rs.mkk.blk]; rfl
  exact ⟨a', c', w', hr, by rw [cell_of_row _ _ _ _ _ _ hp]; rfl, frozen_cells hp, cell_below (below_new w _) h0, h0, hR⟩
/-- A list of bytes is kept. -/
theorem KB.keep {A : Nat → Addr} {W w : World} {b : Nat} {F : Nat → Prop} {a : Dev} {c : Nat} {G : Nat → Prop} {d : Dev} {T pm : Nat} {bv sv : Value} {LB LS : List Value} {CB CS : Nat → List Value} {v : Value} {n : Nat} {xs : List Value} (h : KB w W.heap.size F G LB v n xs) (hR : RS A W w b F a c G d T pm bv sv LB LS CB CS) (hn : n ≤ 524288) (hl : LB.length ≤ 1073741824) :
    ∃ a' c' w', (Builtin.append_ #[61, 61] 61 #[bv, .slice (some ⟨w.heap.size, 0, none⟩) 1 1]).run Tryd.prog (w.alloc (.cells #[v] 36)) = .ok (.slice a' (LB.length + 1) c') w' ∧ w'.cell? ⟨pm, 0, none⟩ = some bv ∧ w'.frozen? ⟨pm, 0, none⟩ = false ∧ w.cell? ⟨pm, 0, none⟩ = some bv ∧
      RS A W (w'.setCell ⟨pm, 0, none⟩ (.slice a' (LB.length + 1) c')) b F a c G d T pm (.slice a' (LB.length + 1) c') sv (LB ++ [v]) LS (fun i => if i = LB.length then xs else CB i) CS ∧ Step (fun k => k = pm ∨ bv.ownBlock = some k) (fun k => k = pm ∨ bv.ownBlock = some k) w (w'.setCell ⟨pm, 0, none⟩ (.slice a' (LB.length + 1) c')) := by
  obtain ⟨a', c', w', hr, hp, hR', hs⟩ := hR.pushB h.row (by omega) (fun g hg => (h.off g hg).2.2) (fun g hg => ⟨(h.off g hg).1, (h.off g hg).2.1⟩) hl
  exact ⟨a', c', w', hr, by rw [cell_of_row _ _ _ _ _ _ hp]; rfl, frozen_cells hp, by rw [cell_of_row _ _ _ _ _ _ hR.mkk.blk]; rfl, hR', hs⟩
/-- Before the first round. -/
theorem RS.init {A : Nat → Addr} {W w : World} {b : Nat} {F : Nat → Prop} {a : Dev} {c : Nat} {G : Nat → Prop} {d : Dev} {T : Nat} (h : Duo A W w b F a c G d T) : RS A W (w.alloc (.cells #[.slice none 0 0, .slice none 0 0] 64)) b F a c G d T w.heap.size (.slice none 0 0) (.slice none 0 0) [] [] (fun _ => []) (fun _ => []) := by
  refine ⟨h.up (below_new _ _), ⟨heap_alloc_new w _, h.one.bel.size, World.ownsRow_nil _ _ _ _, World.ownsRow_nil _ _ _ _, ⟨fun i v hv => by simp at hv, fun i j v u g hv => by simp at hv⟩, ⟨fun i v hv => by simp at hv, fun i j v u g hv => by simp at hv⟩⟩, ?_⟩
  rintro q (rfl | hq | hq | ⟨v, hv, _⟩ | ⟨v, hv, _⟩)
  · exact ⟨fun hf => by have := h.one.dev.lt _ hf; omega, fun hf => by have := h.two.lt _ hf; omega⟩
  · simp [Value.ownBlock] at hq
  · simp [Value.ownBlock] at hq
  · cases hv
  · cases hv
/-- The end: all lists are filled, and the devices are as they were. -/
theorem AP.full {A : Nat → Addr} {W w : World} {b c : Nat} {F G : Nat → Prop} {d : Dev} {T : Nat} {steps : List Stp} {k pm : Nat} {bv sv : Value} {LB LS : List Value} {CB CS : Nat → List Value} (h : AP A W w b F c G d T steps k pm bv sv LB LS CB CS) (hk : k ≤ 1048576) :
    Calls Tryd.prog 27 #[.pointer (some ⟨pm, 0, none⟩)] w fun e w' => e = .returned (.bool true) ∧ Duo A W w' b F (shortD d) c G d T := by
  have h1 := h.lb
  have h2 := h.ls
  have M := h.rs.mkk
  refine (full_any W.heap.size pm bv sv LB LS CB CS w ⟨M.blk, M.brow, M.srow, M.rb, M.rs, Step.refl _ _, fun k hk => hk.elim (fun h => (M.rb.blk h).2.1) (fun h => (M.rs.blk h).2.1), h.rs.duo.one.bel.size⟩ (by omega) (by omega)).mono ?_
  rintro e w' ⟨rfl, hs⟩
  refine ⟨rfl, h.rs.duo.poke hs fun k hk => ?_⟩
  have hm : MKb pm bv sv LB LS k := hk.elim (fun h => .inr (.inr (.inr (.inl h)))) (fun h => .inr (.inr (.inr (.inr h))))
  exact ⟨(h.rs.nf k hm).1, (h.rs.nf k hm).2, (M.lt hm).1⟩
/-- A call within a region that draws its order. -/
theorem step_dur {ops : Array Oper} {o : Oper} {a : Act} {K : Act → World → Prop} {Q : Exit → Act → World → Prop} {E : Prop} (w : World) (hgd : o.guard = none) (x : Operand) (v0 : Value)
    (ho : o.op = .call { callee := .value (.func 14), args := #[x], argTypes := #[29] }) (hx : a.eval x = v0)
    (h : Calls Tryd.prog 14 #[v0] w fun e w' => ∃ v, e = .returned v ∧ K (a.put o.dst v) w') :
    if Region.wanted o (yielded ops a.tmps) = true then Oper.wp Tryd.prog o a w K Q else E := by
  have hw : Region.wanted o (yielded ops a.tmps) = true := by simp [Region.wanted, hgd]
  rw [if_pos hw]
  have hrun : (execOp a.eval o).run Tryd.prog w = .ok (.enter 14 #[v0]) w := by
    have he : execOp a.eval o = callFunc 14 #[v0] := by
      obtain ⟨dst, op, ty, pos, after, guard⟩ := o
      simp only [] at ho
      subst ho
      have hy : execOp a.eval { dst := dst, op := .call { callee := .value (.func 14), args := #[x], argTypes := #[29] }, type := ty, pos := pos, after := after, guard := guard } = callFunc 14 (#[] ++ #[x].map a.eval ++ #[]) := rfl
      rw [hy]
      simp [hx]
    rw [he]
    simp [callFunc, go_sem, Tryd.func14, Tryd.f14]
  unfold Oper.wp
  rw [hrun]
  refine h.mono ?_
  rintro e w' ⟨v, rfl, hk⟩
  exact hk
theorem step_pend {ops : Array Oper} {o : Oper} {a : Act} {K : Act → World → Prop} {Q : Exit → Act → World → Prop} {E : Prop} (w : World) (hgd : o.guard = none) (x : Operand) (v0 : Value)
    (ho : o.op = .call { callee := .value (.func 15), args := #[x], argTypes := #[29] }) (hx : a.eval x = v0)
    (h : Calls Tryd.prog 15 #[v0] w fun e w' => ∃ v, e = .returned v ∧ K (a.put o.dst v) w') :
    if Region.wanted o (yielded ops a.tmps) = true then Oper.wp Tryd.prog o a w K Q else E := by
  have hw : Region.wanted o (yielded ops a.tmps) = true := by simp [Region.wanted, hgd]
  rw [if_pos hw]
  have hrun : (execOp a.eval o).run Tryd.prog w = .ok (.enter 15 #[v0]) w := by
    have he : execOp a.eval o = callFunc 15 #[v0] := by
      obtain ⟨dst, op, ty, pos, after, guard⟩ := o
      simp only [] at ho
      subst ho
      have hy : execOp a.eval { dst := dst, op := .call { callee := .value (.func 15), args := #[x], argTypes := #[29] }, type := ty, pos := pos, after := after, guard := guard } = callFunc 15 (#[] ++ #[x].map a.eval ++ #[]) := rfl
      rw [hy]
      simp [hx]
    rw [he]
    simp [callFunc, go_sem, Tryd.func15, Tryd.f15]
  unfold Oper.wp
  rw [hrun]
  refine h.mono ?_
  rintro e w' ⟨v, rfl, hk⟩
  exact hk
theorem step_append_ss {ops : Array Oper} {o : Oper} {a : Act} {K : Act → World → Prop} {Q : Exit → Act → World → Prop} {E : Prop} (w : World) (hgd : o.guard = none) (s x : Operand)
    (ho : o.op = .call { callee := .builtin .append, args := #[s, x], argTypes := #[62, 62] }) (hty : o.type = 62) (vs vx : Value) (hs : a.eval s = vs) (hx : a.eval x = vx) (v' : Value) (w' : World) (hr : (Builtin.append_ #[62, 62] 62 #[vs, vx]).run Tryd.prog w = .ok v' w')
    (hK : K (a.put o.dst v') w') :
    if Region.wanted o (yielded ops a.tmps) = true then Oper.wp Tryd.prog o a w K Q else E := by
  have hw : Region.wanted o (yielded ops a.tmps) = true := by simp [Region.wanted, hgd]
  rw [if_pos hw]
  unfold Oper.wp execOp
  simp only [ho, hty, resolve, invoke, builtin, Sem.run_bind, Sem.run_pure, Result.andThen_ok, List.map_toArray, List.map_cons, List.map_nil, hs, hx, hr]
  exact hK

end Go.Proofs.YtdieacdkomiooabDoor
