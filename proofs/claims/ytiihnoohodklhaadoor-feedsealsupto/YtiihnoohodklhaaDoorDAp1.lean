import Derived.Test.YtiihnoohodklhaaDoorAP
import Derived.Test.YtiihnoohodklhaaDoorDRng
import Derived.Deep.DeepAppendRoom
import Derived.ArgAppend
namespace Go.Proofs.YtiihnoohodklhaaDoor
open Go.RowKit

/-! Lists of changes that lie apart: each in a block of its own. -/
theorem cho_same {w w' : World} {base : Nat} {v : Value} {l : List Ch} (h : ChO w base v l) (hv : ∀ k, v.ownBlock = some k → w'.heap[k]? = w.heap[k]?) : ChO w' base v l := by
  refine ⟨h.1, ?_⟩
  rcases h.2 with h' | ⟨g, cap, cur, h', h1, h2, hr⟩
  · exact .inl h'
  · exact .inr ⟨g, cap, cur, h', h1, (hv g (by rw [h']; rfl)).trans h2, hr⟩
theorem ChO.cnt {w : World} {base n cap : Nat} {a : Option Addr} {l : List Ch} (h : ChO w base (.slice a n cap) l) : n = l.length := by
  obtain ⟨a', c', he⟩ := h.form
  simp only [Value.slice.injEq] at he
  exact he.2.1
theorem chs_take (l : List Ch) : ∀ k, chs (l.take k) = (chs l).take (k * 5) := by
  induction l with
  | nil => intro k; simp [chs]
  | cons p l ih =>
    intro k
    cases k with
    | zero => simp [chs]
    | succ k =>
      rw [List.take_succ_cons, chs_cons, chs_cons, ih, show (k + 1) * 5 = (chC p).length + k * 5 by simp [chC]; omega, List.take_length_add_append]
theorem cho_prefix {w : World} {base g m c k : Nat} {L : List Ch} (h : ChO w base (.slice (some ⟨g, 0, none⟩) m c) L) (hk : k ≤ m) : ChO w base (.slice (some ⟨g, 0, none⟩) k c) (L.take k) := by
  have hm := h.cnt
  have hl : (L.take k).length = k := by rw [List.length_take]; omega
  rcases h.2 with ⟨h', _⟩ | ⟨g', cap, cur, h', hb, hg, hnc, hcm, hcs, htk⟩
  · cases h'
  · have e := Value.slice.inj h'
    have e1 : g' = g := by have := e.1; simp at this; exact this.symm
    have e2 : cap = c := e.2.2.symm
    subst e1 e2
    unfold ChO
    rw [hl]
    refine ⟨by rw [chs_length, hl], .inr ⟨g', cap, cur, rfl, hb, hg, by omega, hcm, hcs, ?_⟩⟩
    rw [chs_take, ← htk, List.take_take, Nat.min_eq_left (by omega)]
theorem chs_set (p : Ch) : ∀ (l : List Ch) (k : Nat), k < l.length → (((((chs l).set (k * 5) (.string p.1)).set (k * 5 + 1) (.bool p.2.had)).set (k * 5 + 2) (.bool p.2.has)).set (k * 5 + 3) (.string p.2.old)).set (k * 5 + 4) (.string p.2.new) = chs (l.set k p)
  | [], k, h => by simp at h
  | q :: l, 0, _ => by
    rw [List.set_cons_zero, chs_cons, chs_cons]
    rfl
  | q :: l, k + 1, h => by
    rw [List.set_cons_succ, chs_cons, chs_cons, ← chs_set p l k (by simpa using h), show (k + 1) * 5 = k * 5 + 1 + 1 + 1 + 1 + 1 by omega]
    simp only [chC, List.cons_append, List.nil_append, List.set_cons_succ]
theorem ChO.wrote5 {w : World} {base g n cap : Nat} {l : List Ch} (h : ChO w base (.slice (some ⟨g, 0, none⟩) n cap) l) (k : Nat) (hk : k < l.length) (p : Ch) :
    ChO (((((w.setCell ⟨g, k * 5, none⟩ (.string p.1)).setCell ⟨g, k * 5 + 1, none⟩ (.bool p.2.had)).setCell ⟨g, k * 5 + 2, none⟩ (.bool p.2.has)).setCell ⟨g, k * 5 + 3, none⟩ (.string p.2.old)).setCell ⟨g, k * 5 + 4, none⟩ (.string p.2.new)) base (.slice (some ⟨g, 0, none⟩) n cap) (l.set k p) := by
  obtain rfl := h.cnt
  unfold ChO at h
  have := (World.ownsRow.stored (World.ownsRow.stored (World.ownsRow.stored (World.ownsRow.stored (World.ownsRow.stored h (k * 5) (.string p.1)).1 (k * 5 + 1) (.bool p.2.had)).1 (k * 5 + 2) (.bool p.2.has)).1 (k * 5 + 3) (.string p.2.old)).1 (k * 5 + 4) (.string p.2.new)).1
  rw [chs_set p l k hk] at this
  unfold ChO; rw [List.length_set]; exact this
/-- A list is grown by one change: in its own block, or in a new one; what it was reads as it did. -/
theorem grow_ch {w : World} {n c : Nat} {a : Option Addr} {l : List Ch} {base : Nat} (p : Ch) (t : TypeId) (h : ChO w base (.slice a n c) l) (hn : n ≤ 1200000000000) (hbase : base ≤ w.heap.size) :
    ∃ a' c' w', (Builtin.append_ #[23, 23] 23 #[.slice a n c, .slice (some ⟨w.heap.size, 0, none⟩) 1 1]).run Tryd.prog (w.alloc (.cells (chC p).toArray t)) = .ok (.slice a' (n + 1) c') w' ∧ ChO w' base (.slice a' (n + 1) c') (l ++ [p]) ∧
      ((∃ g, a = some ⟨g, 0, none⟩ ∧ a' = a ∧ c' = c ∧ w.heap.size ≤ w'.heap.size ∧ w'.os = w.os ∧ w'.tape = w.tape ∧ w'.output = w.output ∧ ∀ k, k < w.heap.size → k ≠ g → w'.heap[k]? = w.heap[k]?) ∨ (Below w.heap.size w w' ∧ ∃ g, a' = some ⟨g, 0, none⟩ ∧ w.heap.size ≤ g)) := by
  obtain ⟨i0, hi, hz, hsz, hby⟩ := info_parts infoC
  obtain rfl := h.cnt
  have hb := below_new w (.cells (chC p).toArray t)
  have h2 := h.below hb
  have hlit := chR_lit w p t
  have hnews : ∀ j u, (chs [p])[j]? = some u → (w.alloc (.cells (chC p).toArray t)).cell? ((⟨w.heap.size, 0, none⟩ : Addr).add j) = some u := fun j u hj => by
    have hbx := boxed_new w (chC p).toArray t
    have hj' : j < 5 := by have := (List.getElem?_eq_some_iff.1 hj).1; rw [chs_length] at this; simpa using this
    rw [add_plain', Nat.zero_add]
    have e := hbx.2 j (by simpa [chC] using hj')
    rw [e]
    have : (chs [p])[j]? = ((chC p).toArray.toList)[j]? := by simp [chs]
    rw [this, List.getElem?_eq_getElem (by simpa [chC] using hj')] at hj
    exact hj
  unfold ChO at h2
  rcases h2.2 with ⟨h', h0⟩ | ⟨g, cap, cur, h', hbg, hg, hnc, hcm, hcs, htk⟩
  · obtain ⟨a', c', w', hr, ho, hgr⟩ := append_chs base _ _ l [p] _ (h.below hb) hlit (by simp; omega) (by simp; omega)
    simp only [Value.slice.injEq] at h'
    obtain ⟨rfl, hl0, rfl⟩ := h'
    have hbw : Below w.heap.size w w' := hb.grown hgr (by simp) (fun j hj => by cases hj)
    refine ⟨a', c', w', hr, ho, .inr ⟨hbw, ?_⟩⟩
    have hl : l = [] := List.length_eq_zero_iff.1 hl0
    subst hl
    obtain ⟨v', w2, hr2, ho2, _, _⟩ := run_append_own (P := Tryd.prog) (w.alloc (.cells (chC p).toArray t)) w.heap.size 23 23 39 i0 _ 5 56 Tryd.underlying23 hi hz hsz hby rfl (by decide) (.slice none 0 0) 0 [] (World.ownsRow_nil _ _ _ _) ⟨w.heap.size, 0, none⟩ 1 1 (chs [p]) rfl hnews (chs_one [p]) (by decide) (by decide) (by simp)
    have e := hr.symm.trans hr2
    simp only [Result.ok.injEq] at e
    obtain ⟨rfl, rfl⟩ := e
    obtain ⟨g', c'', he, hb', _⟩ := World.ownsRow.form ho2 (by decide)
    simp only [Value.slice.injEq] at he
    exact ⟨g', he.1, hb'⟩
  · simp only [Value.slice.injEq] at h'
    obtain ⟨rfl, -, rfl⟩ := h'
    by_cases hroom : l.length + 1 ≤ c
    · obtain ⟨w', hr, ho, hgr⟩ := run_append_own_spare (P := Tryd.prog) (w.alloc (.cells (chC p).toArray t)) base 23 23 39 i0 5 Tryd.underlying23 hi hsz g l.length c (chs l) h2 ⟨w.heap.size, 0, none⟩ 1 1 (chs [p]) rfl hnews (chs_one [p]) hroom
      refine ⟨_, c, w', hr, ?_, .inl ⟨g, rfl, rfl, rfl, Nat.le_trans hb.size hgr.size, hgr.os.trans hb.os, hgr.tape.trans hb.tape, hgr.output.trans hb.output, fun k hk hn => (hgr.block k (Nat.lt_of_lt_of_le hk hb.size) (fun e => hn (by simpa using e))).trans (hb.block k hk)⟩⟩
      unfold ChO
      rw [chs_append, List.length_append]
      exact ho
    · obtain ⟨v', w', hr, ho, hgr⟩ := run_append_arg_grows (P := Tryd.prog) (w.alloc (.cells (chC p).toArray t)) 23 23 39 i0 _ 5 56 Tryd.underlying23 hi hz hsz hby rfl (by decide) ⟨g, 0, none⟩ l.length c (chs l) (chs_length l) (fun j u hj => by
        have hj' := (List.getElem?_eq_some_iff.1 hj).1
        rw [chs_length] at hj'
        rw [add_plain', Nat.zero_add, World.ownsRow.cellAt h2 j hj']; exact hj) ⟨w.heap.size, 0, none⟩ 1 1 (chs [p]) rfl hnews (by omega) (by unfold maxLen; omega) (by omega)
      obtain ⟨g', c', rfl, hb', hl'⟩ := World.ownsRow.form ho (by omega)
      have hbw : Below w.heap.size w w' := hb.grown hgr (by simp) (fun j hj => by cases hj)
      refine ⟨_, c', w', hr, ?_, .inr ⟨hbw, g', rfl, by simp at hb'; omega⟩⟩
      have ho' : ChO w' (w.alloc (.cells (chC p).toArray t)).heap.size (.slice (some ⟨g', 0, none⟩) (l.length + 1) c') (l ++ [p]) := by
        unfold ChO
        rw [chs_append, List.length_append]
        exact ho
      exact ho'.mono (by simp; omega)

/-- Lists that are named by one: vs the slices, f what they hold. -/
structure ApS (base G K : Nat) (vs : Nat → Value) (f : Nat → List Ch) (w : World) : Prop where
  own : ∀ j, j < K → ChO w base (vs j) (f j)
  row : ∀ j, j < K → w.cell? ⟨G, j, none⟩ = some (vs j)
  gk : ∃ o, w.heap[G]? = some o ∧ ofT tCH o = false
  apart : ∀ i j k, i < K → j < K → i ≠ j → (vs i).ownBlock = some k → (vs j).ownBlock ≠ some k
section
variable {base G K : Nat} {vs : Nat → Value} {f : Nat → List Ch} {w w' : World}
theorem ApS.lt (h : ApS base G K vs f w) {i k : Nat} (hi : i < K) (hk : (vs i).ownBlock = some k) : base ≤ k ∧ k < w.heap.size := (h.own i hi).blk k hk
theorem ApS.notG (h : ApS base G K vs f w) {i k : Nat} (hi : i < K) (hk : (vs i).ownBlock = some k) : k ≠ G := fun e => by
  subst e
  obtain ⟨o, ho, ht⟩ := h.gk
  obtain ⟨cs, rfl⟩ := (h.own i hi).kind k o hk ho
  simp [ofT, tCH] at ht
theorem ApS.gLt (h : ApS base G K vs f w) : G < w.heap.size := by
  obtain ⟨o, ho, _⟩ := h.gk
  exact (Array.getElem?_eq_some_iff.1 ho).1
theorem ApS.below (h : ApS base G K vs f w) (hb : Below w.heap.size w w') : ApS base G K vs f w' :=
  ⟨fun j hj => (h.own j hj).below hb, fun j hj => (World.cell?_of_block (a := ⟨G, j, none⟩) (hb.block G h.gLt)).trans (h.row j hj), (by obtain ⟨o, ho, ht⟩ := h.gk; exact ⟨o, (hb.block G h.gLt).trans ho, ht⟩), h.apart⟩
/-- One list's block alone is turned. -/
theorem ApS.one (h : ApS base G K vs f w) {i b : Nat} (hi : i < K) (hbk : (vs i).ownBlock = some b) (l : List Ch) (ho : ChO w' base (vs i) l) (hblk : ∀ k, k < w.heap.size → k ≠ b → w'.heap[k]? = w.heap[k]?) : ApS base G K vs (fun j => if j = i then l else f j) w' := by
  have hG := hblk G h.gLt (fun e => h.notG hi hbk e.symm)
  refine ⟨fun j hj => ?_, fun j hj => (World.cell?_of_block (a := ⟨G, j, none⟩) hG).trans (h.row j hj), (by obtain ⟨o, ho, ht⟩ := h.gk; exact ⟨o, hG.trans ho, ht⟩), h.apart⟩
  by_cases e : j = i
  · subst e; rw [if_pos rfl]; exact ho
  · rw [if_neg e]
    exact cho_same (h.own j hj) (fun k hk => hblk k (h.lt hj hk).2 (fun e2 => h.apart j i k hj hi e hk (e2 ▸ hbk)))
/-- What lies below B is as it was. -/
theorem ApS.keep (h : ApS base G K vs f w) (B : Nat) (hG : G < B) (hO : ∀ j k, j < K → (vs j).ownBlock = some k → k < B) (hblk : ∀ k, k < B → w'.heap[k]? = w.heap[k]?) : ApS base G K vs f w' :=
  ⟨fun j hj => cho_same (h.own j hj) (fun k hk => hblk k (hO j k hj hk)), fun j hj => (World.cell?_of_block (a := ⟨G, j, none⟩) (hblk G hG)).trans (h.row j hj), (by obtain ⟨o, ho, ht⟩ := h.gk; exact ⟨o, (hblk G hG).trans ho, ht⟩), h.apart⟩
theorem ApS.eq (h : ApS base G K vs f w) {f' : Nat → List Ch} (he : ∀ j, j < K → f j = f' j) : ApS base G K vs f' w := ⟨fun j hj => by rw [← he j hj]; exact h.own j hj, h.row, h.gk, h.apart⟩
/-- A list that grows out of one of them; V: the world ahead of that. -/
structure GrC (base G K : Nat) (vs : Nat → Value) (f : Nat → List Ch) (V w : World) (i m q : Nat) (a : Option Addr) (c : Nat) (x : Ch) : Prop where
  own : ChO w base (.slice a (m + q) c) (f i ++ List.replicate q x)
  whr : vs i = .slice a m c ∨ ∃ b, a = some ⟨b, 0, none⟩ ∧ V.heap.size ≤ b
  aps : ApS base G K vs f w
  ap0 : ApS base G K vs f V
  but : But base (ofT tCH) V w
theorem GrC.init {V : World} {i m c : Nat} {a : Option Addr} {x : Ch} (h : ApS base G K vs f V) (hi : i < K) (hv : vs i = .slice a m c) : GrC base G K vs f V V i m 0 a c x :=
  ⟨by have := h.own i hi; rw [hv] at this; simpa using this, .inl hv, h, h, But.refl _ _ _⟩
theorem GrC.below {V w w' : World} {i m q c : Nat} {a : Option Addr} {x : Ch} (h : GrC base G K vs f V w i m q a c x) (hb : Below w.heap.size w w') : GrC base G K vs f V w' i m q a c x :=
  ⟨h.own.below hb, h.whr, h.aps.below hb, h.ap0, h.but.trans (But.of_below hb)⟩
theorem GrC.step {V w : World} {i m q c : Nat} {a : Option Addr} {x : Ch} (t : TypeId) (h : GrC base G K vs f V w i m q a c x) (hi : i < K) (hm : (f i).length = m) (hn : m + q ≤ 1200000000000) (hbase : base ≤ w.heap.size) :
    ∃ a' c' w', (Builtin.append_ #[23, 23] 23 #[.slice a (m + q) c, .slice (some ⟨w.heap.size, 0, none⟩) 1 1]).run Tryd.prog (w.alloc (.cells (chC x).toArray t)) = .ok (.slice a' (m + q + 1) c') w' ∧ GrC base G K vs f V w' i m (q + 1) a' c' x := by
  obtain ⟨a', c', w', hr, ho, hcase⟩ := grow_ch x t h.own hn hbase
  have ho' : ChO w' base (.slice a' (m + (q + 1)) c') (f i ++ List.replicate (q + 1) x) := by
    rw [List.replicate_succ', ← List.append_assoc, ← Nat.add_assoc]; exact ho
  refine ⟨a', c', w', hr, ?_⟩
  rcases hcase with ⟨b, rfl, rfl, rfl, hsz, hos, htp, hout, hblk⟩ | ⟨hb, b, rfl, hg⟩
  · have hbk : (Value.slice (some ⟨b, 0, none⟩) (m + q) c').ownBlock = some b := rfl
    have hbut : But base (ofT tCH) w w' := ⟨hos, htp, hout, hsz, fun k o hk hno => (hblk k (Array.getElem?_eq_some_iff.1 hk).1 (fun e => by
      subst e
      obtain ⟨cs, rfl⟩ := h.own.kind k o hbk hk
      exact hno ⟨(h.own.blk k hbk).1, by simp [ofT, tCH]⟩)).trans hk⟩
    rcases h.whr with he | ⟨b', he, hb'⟩
    · have hvk : (vs i).ownBlock = some b := by rw [he]; rfl
      have hpre := cho_prefix ho' (k := m) (by omega)
      rw [List.take_append_of_le_length (by omega), List.take_of_length_le (by omega), ← he] at hpre
      refine ⟨ho', .inl he, (h.aps.one hi hvk (f i) hpre hblk).eq (fun j _ => by by_cases e : j = i <;> simp [e]), h.ap0, h.but.trans hbut⟩
    · have hbb : b = b' := by simpa using he
      subst hbb
      exact ⟨ho', .inr ⟨b, rfl, hb'⟩, h.aps.keep V.heap.size h.ap0.gLt (fun j k hj hk => (h.ap0.lt hj hk).2) (fun k hk => hblk k (Nat.lt_of_lt_of_le hk h.but.size) (by omega)), h.ap0, h.but.trans hbut⟩
  · exact ⟨ho', .inr ⟨b, rfl, Nat.le_trans h.but.size hg⟩, h.aps.below hb, h.ap0, h.but.trans (But.of_below hb)⟩
end
/-- The mark of the list of that number. -/
def markC (i : Nat) : Ch := (⟨#[109, UInt8.ofNat i]⟩, ⟨false, false, nilB, nilB⟩)
def moreC : Ch := (⟨#[109, 111, 114, 101]⟩, ⟨false, false, nilB, nilB⟩)
/-- What the lists hold when those ahead of i are full of marks, and k of the list i are. -/
def apD (cs : Nat → List Ch) (i k : Nat) (j : Nat) : List Ch := if j < i then List.replicate (cs j).length (markC j) else if j = i then List.replicate k (markC i) ++ (cs i).drop k else cs j
theorem apD_zero (cs : Nat → List Ch) (j : Nat) : apD cs 0 0 j = cs j := by
  unfold apD
  rw [if_neg (by omega)]
  split
  · rename_i h; subst h; simp
  · rfl
theorem apD_next (cs : Nat → List Ch) (i j : Nat) : apD cs i (cs i).length j = apD cs (i + 1) 0 j := by
  unfold apD
  by_cases h : j < i
  · rw [if_pos h, if_pos (by omega)]
  · rw [if_neg h]
    by_cases e : j = i
    · subst e; rw [if_pos rfl, if_pos (by omega)]; simp
    · rw [if_neg e, if_neg (by omega)]
      split
      · rename_i h'; subst h'; simp
      · rfl
theorem apD_len (cs : Nat → List Ch) (i k j : Nat) (hk : k ≤ (cs i).length) : (apD cs i k j).length = (cs j).length := by
  unfold apD
  split
  · simp
  · split
    · rename_i h; subst h; simp; omega
    · rfl
theorem apD_at (cs : Nat → List Ch) (i k : Nat) : apD cs i k i = List.replicate k (markC i) ++ (cs i).drop k := by
  unfold apD; rw [if_neg (by omega), if_pos rfl]
theorem apD_set (cs : Nat → List Ch) (i k : Nat) (hk : k < (cs i).length) (j : Nat) : (if j = i then (apD cs i k i).set k (markC i) else apD cs i k j) = apD cs i (k + 1) j := by
  by_cases e : j = i
  · subst e
    rw [if_pos rfl, apD_at, apD_at, List.set_append_right _ _ (by simp), List.length_replicate, Nat.sub_self, List.drop_eq_getElem_cons hk, List.set_cons_zero, List.replicate_succ', List.append_assoc]
    rfl
  · rw [if_neg e]
    unfold apD
    rw [if_neg e, if_neg e]
theorem apD_full (cs : Nat → List Ch) (K j : Nat) (hj : j < K) : apD cs K 0 j = List.replicate (cs j).length (markC j) := by
  unfold apD; rw [if_pos hj]
end Go.Proofs.YtiihnoohodklhaaDoor
