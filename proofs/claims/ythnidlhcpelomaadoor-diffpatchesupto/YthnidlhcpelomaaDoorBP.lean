import Derived.Test.YthnidlhcpelomaaDoorDAp2
import Derived.Test.YthnidlhcpelomaaDoorPP
import Derived.Test.YthnidlhcpelomaaDoorPS
import Derived.Deep.RegionHeld3
import Derived.BigQuiet
namespace Go.Proofs.YthnidlhcpelomaaDoor
open Go.RowKit

/-! Lists of pairs that lie apart: each in a block of its own. -/
theorem prs_set (p : Pr) : ∀ (l : List Pr) (k : Nat), ((prs l).set (k * 2) (.string p.1)).set (k * 2 + 1) (.string p.2) = prs (l.set k p)
  | [], k => by simp [prs]
  | q :: l, 0 => by
    rw [List.set_cons_zero, prs_cons, prs_cons]
    rfl
  | q :: l, k + 1 => by
    rw [List.set_cons_succ, prs_cons, prs_cons, ← prs_set p l k, show (k + 1) * 2 = k * 2 + 1 + 1 by omega]
    simp only [List.set_cons_succ]
theorem PrO.cnt {w : World} {base n cap : Nat} {a : Option Addr} {l : List Pr} (h : PrO w base (.slice a n cap) l) : n = l.length := by
  obtain ⟨a', c', he⟩ := h.form
  simp only [Value.slice.injEq] at he
  exact he.2.1
/-- A pair is stored. -/
theorem PrO.wrote {w : World} {base g n cap : Nat} {l : List Pr} (h : PrO w base (.slice (some ⟨g, 0, none⟩) n cap) l) (k : Nat) (p : Pr) :
    PrO ((w.setCell ⟨g, k * 2, none⟩ (.string p.1)).setCell ⟨g, k * 2 + 1, none⟩ (.string p.2)) base (.slice (some ⟨g, 0, none⟩) n cap) (l.set k p) := by
  obtain rfl := h.cnt
  unfold PrO at h
  have := (World.ownsRow.stored (World.ownsRow.stored h (k * 2) (.string p.1)).1 (k * 2 + 1) (.string p.2)).1
  rw [prs_set] at this
  unfold PrO; rw [List.length_set]; exact this
theorem PrO.anyb {w : World} {base : Nat} {v : Value} {l : List Pr} (h : PrO w base v l) (hl : 0 < l.length) : ∃ g c, v = .slice (some ⟨g, 0, none⟩) l.length c ∧ base ≤ g ∧ g < w.heap.size ∧ l.length ≤ c := by
  rcases h.2 with ⟨_, h0⟩ | ⟨g, cap, cur, rfl, h1, h2, h3, _⟩
  · omega
  · exact ⟨g, cap, rfl, h1, (h.blk g rfl).2, h3⟩
theorem pro_same {w w' : World} {base : Nat} {v : Value} {l : List Pr} (h : PrO w base v l) (hv : ∀ k, v.ownBlock = some k → w'.heap[k]? = w.heap[k]?) : PrO w' base v l := by
  refine ⟨h.1, ?_⟩
  rcases h.2 with h' | ⟨g, cap, cur, h', h1, h2, hr⟩
  · exact .inl h'
  · exact .inr ⟨g, cap, cur, h', h1, (hv g (by rw [h']; rfl)).trans h2, hr⟩
theorem prs_take (l : List Pr) : ∀ k, prs (l.take k) = (prs l).take (k * 2) := by
  induction l with
  | nil => intro k; simp [prs]
  | cons p l ih =>
    intro k
    cases k with
    | zero => simp [prs]
    | succ k =>
      rw [List.take_succ_cons, prs_cons, prs_cons, ih, show (k + 1) * 2 = k * 2 + 1 + 1 by omega, List.take_succ_cons, List.take_succ_cons]
theorem pro_prefix {w : World} {base g m c k : Nat} {L : List Pr} (h : PrO w base (.slice (some ⟨g, 0, none⟩) m c) L) (hk : k ≤ m) : PrO w base (.slice (some ⟨g, 0, none⟩) k c) (L.take k) := by
  have hm := h.cnt
  have hl : (L.take k).length = k := by rw [List.length_take]; omega
  rcases h.2 with ⟨h', _⟩ | ⟨g', cap, cur, h', hb, hg, hnc, hcm, hcs, htk⟩
  · cases h'
  · have e := Value.slice.inj h'
    have e1 : g' = g := by have := e.1; simp at this; exact this.symm
    have e2 : cap = c := e.2.2.symm
    subst e1 e2
    unfold PrO
    rw [hl]
    refine ⟨by rw [prs_length, hl], .inr ⟨g', cap, cur, rfl, hb, hg, by omega, hcm, hcs, ?_⟩⟩
    rw [prs_take, ← htk, List.take_take, Nat.min_eq_left (by omega)]
/-- A list is grown by one pair: in its own block, or in a new one; what it was reads as it did. -/
theorem grow_pr {w : World} {n c : Nat} {a : Option Addr} {l : List Pr} {base : Nat} (p : Pr) (t : TypeId) (h : PrO w base (.slice a n c) l) (hn : n ≤ 4398046511100) (hbase : base ≤ w.heap.size) :
    ∃ a' c' w', (Builtin.append_ #[22, 22] 22 #[.slice a n c, .slice (some ⟨w.heap.size, 0, none⟩) 1 1]).run Tryd.prog (w.alloc (.cells #[.string p.1, .string p.2] t)) = .ok (.slice a' (n + 1) c') w' ∧ PrO w' base (.slice a' (n + 1) c') (l ++ [p]) ∧
      ((∃ g, a = some ⟨g, 0, none⟩ ∧ a' = a ∧ c' = c ∧ w.heap.size ≤ w'.heap.size ∧ w'.os = w.os ∧ w'.tape = w.tape ∧ w'.output = w.output ∧ ∀ k, k < w.heap.size → k ≠ g → w'.heap[k]? = w.heap[k]?) ∨ (Below w.heap.size w w' ∧ ∃ g, a' = some ⟨g, 0, none⟩ ∧ w.heap.size ≤ g)) := by
  obtain ⟨i0, hi, hz, hsz, hby⟩ := info_parts infoP
  obtain rfl := h.cnt
  have hb := below_new w (.cells #[.string p.1, .string p.2] t)
  have h2 := h.below hb
  have hlit := prR_lit w p t
  have hnews : ∀ j u, (prs [p])[j]? = some u → (w.alloc (.cells #[.string p.1, .string p.2] t)).cell? ((⟨w.heap.size, 0, none⟩ : Addr).add j) = some u := fun j u hj => by
    have hbx := boxed_new w #[.string p.1, .string p.2] t
    have hj' : j < 2 := by have := (List.getElem?_eq_some_iff.1 hj).1; rw [prs_length] at this; simpa using this
    rw [add_plain', Nat.zero_add]
    have e := hbx.2 j hj'
    rw [e]
    have : (prs [p])[j]? = (#[Value.string p.1, .string p.2].toList)[j]? := by simp [prs]
    rw [this, List.getElem?_eq_getElem hj'] at hj
    exact hj
  unfold PrO at h2
  rcases h2.2 with ⟨h', h0⟩ | ⟨g, cap, cur, h', hbg, hg, hnc, hcm, hcs, htk⟩
  · obtain ⟨a', c', w', hr, ho, hgr⟩ := append_prs base _ _ l [p] _ (h.below hb) hlit (by simp; omega) (by simp; omega)
    simp only [Value.slice.injEq] at h'
    obtain ⟨rfl, hl0, rfl⟩ := h'
    have hbw : Below w.heap.size w w' := hb.grown hgr (by simp) (fun j hj => by cases hj)
    refine ⟨a', c', w', hr, ho, .inr ⟨hbw, ?_⟩⟩
    have hl : l = [] := List.length_eq_zero_iff.1 hl0
    subst hl
    obtain ⟨v', w2, hr2, ho2, _, _⟩ := run_append_own (P := Tryd.prog) (w.alloc (.cells #[.string p.1, .string p.2] t)) w.heap.size 22 22 28 i0 _ 2 32 Tryd.underlying22 hi hz hsz hby rfl (by decide) (.slice none 0 0) 0 [] (World.ownsRow_nil _ _ _ _) ⟨w.heap.size, 0, none⟩ 1 1 (prs [p]) rfl hnews (prs_one [p]) (by decide) (by decide) (by simp)
    have e := hr.symm.trans hr2
    simp only [Result.ok.injEq] at e
    obtain ⟨rfl, rfl⟩ := e
    obtain ⟨g', c'', he, hb', _⟩ := World.ownsRow.form ho2 (by decide)
    simp only [Value.slice.injEq] at he
    exact ⟨g', he.1, hb'⟩
  · simp only [Value.slice.injEq] at h'
    obtain ⟨rfl, -, rfl⟩ := h'
    by_cases hroom : l.length + 1 ≤ c
    · obtain ⟨w', hr, ho, hgr⟩ := run_append_own_spare (P := Tryd.prog) (w.alloc (.cells #[.string p.1, .string p.2] t)) base 22 22 28 i0 2 Tryd.underlying22 hi hsz g l.length c (prs l) h2 ⟨w.heap.size, 0, none⟩ 1 1 (prs [p]) rfl hnews (prs_one [p]) hroom
      refine ⟨_, c, w', hr, ?_, .inl ⟨g, rfl, rfl, rfl, Nat.le_trans hb.size hgr.size, hgr.os.trans hb.os, hgr.tape.trans hb.tape, hgr.output.trans hb.output, fun k hk hn => (hgr.block k (Nat.lt_of_lt_of_le hk hb.size) (fun e => hn (by simpa using e))).trans (hb.block k hk)⟩⟩
      unfold PrO
      rw [prs_append, List.length_append]
      exact ho
    · obtain ⟨v', w', hr, ho, hgr⟩ := run_append_arg_grows (P := Tryd.prog) (w.alloc (.cells #[.string p.1, .string p.2] t)) 22 22 28 i0 _ 2 32 Tryd.underlying22 hi hz hsz hby rfl (by decide) ⟨g, 0, none⟩ l.length c (prs l) (prs_length l) (fun j u hj => by
        have hj' := (List.getElem?_eq_some_iff.1 hj).1
        rw [prs_length] at hj'
        rw [add_plain', Nat.zero_add, World.ownsRow.cellAt h2 j hj']; exact hj) ⟨w.heap.size, 0, none⟩ 1 1 (prs [p]) rfl hnews (by omega) (by unfold maxLen; omega) (by omega)
      obtain ⟨g', c', rfl, hb', hl'⟩ := World.ownsRow.form ho (by omega)
      have hbw : Below w.heap.size w w' := hb.grown hgr (by simp) (fun j hj => by cases hj)
      refine ⟨_, c', w', hr, ?_, .inr ⟨hbw, g', rfl, by simp at hb'; omega⟩⟩
      have ho' : PrO w' (w.alloc (.cells #[.string p.1, .string p.2] t)).heap.size (.slice (some ⟨g', 0, none⟩) (l.length + 1) c') (l ++ [p]) := by
        unfold PrO
        rw [prs_append, List.length_append]
        exact ho
      exact ho'.mono (by simp; omega)
/-- Lists that are named by one: vs the slices, f what they hold. -/
structure ApQ (base G K : Nat) (vs : Nat → Value) (f : Nat → List Pr) (w : World) : Prop where
  own : ∀ j, j < K → PrO w base (vs j) (f j)
  row : ∀ j, j < K → w.cell? ⟨G, j, none⟩ = some (vs j)
  gk : ∃ o, w.heap[G]? = some o ∧ ofT tPR o = false
  apart : ∀ i j k, i < K → j < K → i ≠ j → (vs i).ownBlock = some k → (vs j).ownBlock ≠ some k
section
variable {base G K : Nat} {vs : Nat → Value} {f : Nat → List Pr} {w w' : World}
theorem ApQ.lt (h : ApQ base G K vs f w) {i k : Nat} (hi : i < K) (hk : (vs i).ownBlock = some k) : base ≤ k ∧ k < w.heap.size := (h.own i hi).blk k hk
theorem ApQ.notG (h : ApQ base G K vs f w) {i k : Nat} (hi : i < K) (hk : (vs i).ownBlock = some k) : k ≠ G := fun e => by
  subst e
  obtain ⟨o, ho, ht⟩ := h.gk
  obtain ⟨cs, rfl⟩ := (h.own i hi).kind k o hk ho
  simp [ofT, tPR] at ht
theorem ApQ.gLt (h : ApQ base G K vs f w) : G < w.heap.size := by
  obtain ⟨o, ho, _⟩ := h.gk
  exact (Array.getElem?_eq_some_iff.1 ho).1
theorem ApQ.below (h : ApQ base G K vs f w) (hb : Below w.heap.size w w') : ApQ base G K vs f w' :=
  ⟨fun j hj => (h.own j hj).below hb, fun j hj => (World.cell?_of_block (a := ⟨G, j, none⟩) (hb.block G h.gLt)).trans (h.row j hj), (by obtain ⟨o, ho, ht⟩ := h.gk; exact ⟨o, (hb.block G h.gLt).trans ho, ht⟩), h.apart⟩
/-- One list's block alone is turned. -/
theorem ApQ.one (h : ApQ base G K vs f w) {i b : Nat} (hi : i < K) (hbk : (vs i).ownBlock = some b) (l : List Pr) (ho : PrO w' base (vs i) l) (hblk : ∀ k, k < w.heap.size → k ≠ b → w'.heap[k]? = w.heap[k]?) : ApQ base G K vs (fun j => if j = i then l else f j) w' := by
  have hG := hblk G h.gLt (fun e => h.notG hi hbk e.symm)
  refine ⟨fun j hj => ?_, fun j hj => (World.cell?_of_block (a := ⟨G, j, none⟩) hG).trans (h.row j hj), (by obtain ⟨o, ho, ht⟩ := h.gk; exact ⟨o, hG.trans ho, ht⟩), h.apart⟩
  by_cases e : j = i
  · subst e; rw [if_pos rfl]; exact ho
  · rw [if_neg e]
    exact pro_same (h.own j hj) (fun k hk => hblk k (h.lt hj hk).2 (fun e2 => h.apart j i k hj hi e hk (e2 ▸ hbk)))
/-- What lies below B is as it was. -/
theorem ApQ.keep (h : ApQ base G K vs f w) (B : Nat) (hG : G < B) (hO : ∀ j k, j < K → (vs j).ownBlock = some k → k < B) (hblk : ∀ k, k < B → w'.heap[k]? = w.heap[k]?) : ApQ base G K vs f w' :=
  ⟨fun j hj => pro_same (h.own j hj) (fun k hk => hblk k (hO j k hj hk)), fun j hj => (World.cell?_of_block (a := ⟨G, j, none⟩) (hblk G hG)).trans (h.row j hj), (by obtain ⟨o, ho, ht⟩ := h.gk; exact ⟨o, (hblk G hG).trans ho, ht⟩), h.apart⟩
theorem ApQ.eq (h : ApQ base G K vs f w) {f' : Nat → List Pr} (he : ∀ j, j < K → f j = f' j) : ApQ base G K vs f' w := ⟨fun j hj => by rw [← he j hj]; exact h.own j hj, h.row, h.gk, h.apart⟩
/-- A list that grows out of one of them; V: the world ahead of that. -/
structure GrQ (base G K : Nat) (vs : Nat → Value) (f : Nat → List Pr) (V w : World) (i m q : Nat) (a : Option Addr) (c : Nat) (x : Pr) : Prop where
  own : PrO w base (.slice a (m + q) c) (f i ++ List.replicate q x)
  whr : vs i = .slice a m c ∨ ∃ b, a = some ⟨b, 0, none⟩ ∧ V.heap.size ≤ b
  aps : ApQ base G K vs f w
  ap0 : ApQ base G K vs f V
  but : But base (ofT tPR) V w
theorem GrQ.init {V : World} {i m c : Nat} {a : Option Addr} {x : Pr} (h : ApQ base G K vs f V) (hi : i < K) (hv : vs i = .slice a m c) : GrQ base G K vs f V V i m 0 a c x :=
  ⟨by have := h.own i hi; rw [hv] at this; simpa using this, .inl hv, h, h, But.refl _ _ _⟩
theorem GrQ.below {V w w' : World} {i m q c : Nat} {a : Option Addr} {x : Pr} (h : GrQ base G K vs f V w i m q a c x) (hb : Below w.heap.size w w') : GrQ base G K vs f V w' i m q a c x :=
  ⟨h.own.below hb, h.whr, h.aps.below hb, h.ap0, h.but.trans (But.of_below hb)⟩
theorem GrQ.step {V w : World} {i m q c : Nat} {a : Option Addr} {x : Pr} (t : TypeId) (h : GrQ base G K vs f V w i m q a c x) (hi : i < K) (hm : (f i).length = m) (hn : m + q ≤ 1200000000000) (hbase : base ≤ w.heap.size) :
    ∃ a' c' w', (Builtin.append_ #[22, 22] 22 #[.slice a (m + q) c, .slice (some ⟨w.heap.size, 0, none⟩) 1 1]).run Tryd.prog (w.alloc (.cells #[.string x.1, .string x.2] t)) = .ok (.slice a' (m + q + 1) c') w' ∧ GrQ base G K vs f V w' i m (q + 1) a' c' x := by
  obtain ⟨a', c', w', hr, ho, hcase⟩ := grow_pr x t h.own (by omega) hbase
  have ho' : PrO w' base (.slice a' (m + (q + 1)) c') (f i ++ List.replicate (q + 1) x) := by
    rw [List.replicate_succ', ← List.append_assoc, ← Nat.add_assoc]; exact ho
  refine ⟨a', c', w', hr, ?_⟩
  rcases hcase with ⟨b, rfl, rfl, rfl, hsz, hos, htp, hout, hblk⟩ | ⟨hb, b, rfl, hg⟩
  · have hbk : (Value.slice (some ⟨b, 0, none⟩) (m + q) c').ownBlock = some b := rfl
    have hbut : But base (ofT tPR) w w' := ⟨hos, htp, hout, hsz, fun k o hk hno => (hblk k (Array.getElem?_eq_some_iff.1 hk).1 (fun e => by
      subst e
      obtain ⟨cs, rfl⟩ := h.own.kind k o hbk hk
      exact hno ⟨(h.own.blk k hbk).1, by simp [ofT, tPR]⟩)).trans hk⟩
    rcases h.whr with he | ⟨b', he, hb'⟩
    · have hvk : (vs i).ownBlock = some b := by rw [he]; rfl
      have hpre := pro_prefix ho' (k := m) (by omega)
      rw [List.take_append_of_le_length (by omega), List.take_of_length_le (by omega), ← he] at hpre
      refine ⟨ho', .inl he, (h.aps.one hi hvk (f i) hpre hblk).eq (fun j _ => by by_cases e : j = i <;> simp [e]), h.ap0, h.but.trans hbut⟩
    · have hbb : b = b' := by simpa using he
      subst hbb
      exact ⟨ho', .inr ⟨b, rfl, hb'⟩, h.aps.keep V.heap.size h.ap0.gLt (fun j k hj hk => (h.ap0.lt hj hk).2) (fun k hk => hblk k (Nat.lt_of_lt_of_le hk h.but.size) (by omega)), h.ap0, h.but.trans hbut⟩
  · exact ⟨ho', .inr ⟨b, rfl, Nat.le_trans h.but.size hg⟩, h.aps.below hb, h.ap0, h.but.trans (But.of_below hb)⟩
end
/-- The mark of the list of that number. -/
def markP (i : Nat) : Pr := (⟨#[109, UInt8.ofNat i]⟩, nilB)
def moreP : Pr := (⟨#[109, 111, 114, 101]⟩, nilB)
/-- What the lists hold when those ahead of i are full of marks, and k of the list i are. -/
def apP (cs : Nat → List Pr) (i k : Nat) (j : Nat) : List Pr := if j < i then List.replicate (cs j).length (markP j) else if j = i then List.replicate k (markP i) ++ (cs i).drop k else cs j
theorem apP_zero (cs : Nat → List Pr) (j : Nat) : apP cs 0 0 j = cs j := by
  unfold apP
  rw [if_neg (by omega)]
  split
  · rename_i h; subst h; simp
  · rfl
theorem apP_next (cs : Nat → List Pr) (i j : Nat) : apP cs i (cs i).length j = apP cs (i + 1) 0 j := by
  unfold apP
  by_cases h : j < i
  · rw [if_pos h, if_pos (by omega)]
  · rw [if_neg h]
    by_cases e : j = i
    · subst e; rw [if_pos rfl, if_pos (by omega)]; simp
    · rw [if_neg e, if_neg (by omega)]
      split
      · rename_i h'; subst h'; simp
      · rfl
theorem apP_len (cs : Nat → List Pr) (i k j : Nat) (hk : k ≤ (cs i).length) : (apP cs i k j).length = (cs j).length := by
  unfold apP
  split
  · simp
  · split
    · rename_i h; subst h; simp; omega
    · rfl
theorem apP_at (cs : Nat → List Pr) (i k : Nat) : apP cs i k i = List.replicate k (markP i) ++ (cs i).drop k := by
  unfold apP; rw [if_neg (by omega), if_pos rfl]
theorem apP_set (cs : Nat → List Pr) (i k : Nat) (hk : k < (cs i).length) (j : Nat) : (if j = i then (apP cs i k i).set k (markP i) else apP cs i k j) = apP cs i (k + 1) j := by
  by_cases e : j = i
  · subst e
    rw [if_pos rfl, apP_at, apP_at, List.set_append_right _ _ (by simp), List.length_replicate, Nat.sub_self, List.drop_eq_getElem_cons hk, List.set_cons_zero, List.replicate_succ', List.append_assoc]
    rfl
  · rw [if_neg e]
    unfold apP
    rw [if_neg e, if_neg e]
theorem apP_full (cs : Nat → List Pr) (K j : Nat) (hj : j < K) : apP cs K 0 j = List.replicate (cs j).length (markP j) := by
  unfold apP; rw [if_pos hj]
end Go.Proofs.YthnidlhcpelomaaDoor

namespace Go.Proofs.YthnidlhcpelomaaDoor
open Go.RowKit
attribute [local go_sem ↓] Go.wp_at_zero Go.wp_at_succ

theorem PrO.spotP {w : World} {base g n cap : Nat} {l : List Pr} (h : PrO w base (.slice (some ⟨g, 0, none⟩) n cap) l) (k : Nat) (hk : k < l.length) : (w.cell? ⟨g, k * 2, none⟩ = some (.string l[k].1) ∧ w.cell? ⟨g, k * 2 + 1, none⟩ = some (.string l[k].2)) ∧ ∀ o, w.frozen? ⟨g, o, none⟩ = false := by
  obtain rfl := h.cnt
  unfold PrO at h
  obtain ⟨h1, h2⟩ := prs_get l k hk
  exact ⟨⟨by rw [World.ownsRow.cellAt h _ (by omega)]; exact h1, by rw [World.ownsRow.cellAt h _ (by omega)]; exact h2⟩, fun o => World.ownsRow.frozenAt h o⟩
theorem sole_wroteP (w : World) (g o : Nat) (p : Pr) : Sole g w ((w.setCell ⟨g, o, none⟩ (.string p.1)).setCell ⟨g, o + 1, none⟩ (.string p.2)) := (Sole.set g o w _).trans (Sole.set g (o + 1) _ _)
theorem but_soleP {base g n c : Nat} {l : List Pr} {w w' : World} (h : Sole g w w') (ho : PrO w base (.slice (some ⟨g, 0, none⟩) n c) l) : But base (ofT tPR) w w' :=
  ⟨h.os, h.tape, h.output, h.size, fun k o hk hno => (h.block k (Array.getElem?_eq_some_iff.1 hk).1 (fun e => by
    subst e
    obtain ⟨cs, rfl⟩ := ho.kind k o rfl hk
    exact hno ⟨(ho.blk k rfl).1, by simp [ofT, tPR]⟩)).trans hk⟩
set_option maxRecDepth 100000 in
set_option maxHeartbeats 16000000 in
theorem apartp_any (base G K cap : Nat) (vs : Nat → Value) (cs : Nat → List Pr) (w : World) (hK : K ≤ 5) (hlen : ∀ j, j < K → (cs j).length ≤ 1099511627776) (hA : ApQ base G K vs cs w) (hbase : base ≤ w.heap.size) :
    Calls Tryd.prog 26 #[.slice (some ⟨G, 0, none⟩) K cap] w fun e w' => e = .returned (.bool true) ∧ But base (ofT tPR) w w' := by
  have HA := hide hA
  have HL := hide hlen
  have HBASE := hide hbase
  have KI : (K : Int) ≤ 5 := by omega
  obtain ⟨Q, hQ⟩ : ∃ Q : Ending → World → Prop, Q = fun e w' => e = .returned (.bool true) ∧ But base (ofT tPR) w w' := ⟨_, rfl⟩
  rw [← hQ]
  have HQ := hide hQ
  clear hA hlen hbase hQ
  go_enter Tryd.func26, Tryd.ntmps26
  go_wp2_with fail
  go_loopw [3] (fun i wr => ∃ k : Nat, k ≤ K ∧ i = .int .i64 k ∧ ApQ base G K vs (apP cs k 0) wr ∧ But base (ofT tPR) w wr) (fun i _ => K - (intOf i).toNat)
  case atStart => exact ⟨0, Nat.zero_le _, rfl, HA.out.eq (fun j _ => (apP_zero cs j).symm), But.refl _ _ _⟩
  case round =>
    obtain ⟨i, hi, rfl, hap, hbut⟩ := hrel
    have HAP := hide hap
    have HBU := hide hbut
    clear hap hbut
    by_cases hiK : i < K
    · have hiI : (i : Int) < (K : Int) := by omega
      have hi5 : i < 5 := by omega
      have i0 : (0 : Int) ≤ (i : Int) := by omega
      obtain ⟨a, c, hvi⟩ : ∃ a c, vs i = .slice a (cs i).length c := by
        obtain ⟨a, c, h⟩ := (HA.out.own i hiK).form
        exact ⟨a, c, h⟩
      obtain ⟨m, hm⟩ : ∃ m, m = (cs i).length := ⟨_, rfl⟩
      rw [← hm] at hvi
      have hmM : m ≤ 1099511627776 := by rw [hm]; exact HL.out i hiK
      have HM := hide hm
      have HVI := hide hvi
      have HIK := hide hiK
      clear hm hvi hiK
      generalize wr = W1 at *
      go_wp2_with fail
      go_loopw [4] (fun kk wr => ∃ k : Nat, k ≤ m ∧ kk = .int .i64 k ∧ ApQ base G K vs (apP cs i k) wr ∧ But base (ofT tPR) w wr) (fun kk _ => m - (intOf kk).toNat)
      case atStart => exact ⟨0, Nat.zero_le _, rfl, HAP.out, HBU.out⟩
      case round =>
        clear HAP HBU
        obtain ⟨k, hk, rfl, hap, hbut⟩ := hrel
        have hci : wr.cell? ⟨G, i, none⟩ = some (.slice a m c) := by rw [← HVI.out]; exact hap.row i HIK.out
        by_cases hkm : k < m
        · have hll : (apP cs i k i).length = m := by rw [HM.out]; exact apP_len cs i k i (by rw [← HM.out]; omega)
          have ho := hap.own i HIK.out
          rw [HVI.out] at ho
          obtain ⟨g, c', he, hbg, hgw, hlc⟩ := ho.anyb (by omega)
          obtain ⟨rfl, -, rfl⟩ : a = some ⟨g, 0, none⟩ ∧ m = (apP cs i k i).length ∧ c = c' := by simpa using he
          obtain ⟨⟨c0, c1⟩, hfz⟩ := ho.spotP k (by omega)
          obtain ⟨x, hx⟩ : ∃ x, x = (apP cs i k i)[k]'(by omega) := ⟨_, rfl⟩
          rw [← hx] at c0 c1
          have hne : ¬ G = g := fun e => hap.notG HIK.out (k := g) (by rw [HVI.out]; rfl) e.symm
          have hne2 : ¬ g = G := fun e => hne e.symm
          have hwu : IntKind.u8.wrap (i : Int) = (i : Int) := by rw [IntKind.wrap_u8]; omega
          have hcv := mB_conv wr i (by omega)
          have hbn := below_new wr (.cells #[.int .u8 109, .int .u8 (i : Int)] 5)
          have y := cell_bel hbn hci
          have y0 := cell_bel hbn c0
          have y1 := cell_bel hbn c1
          have hf2 : ∀ o, (wr.alloc (.cells #[.int .u8 109, .int .u8 (i : Int)] 5)).frozen? ⟨g, o, none⟩ = false := fun o => ((ho.below hbn).spotP k (by omega)).2 o
          have z0 := hf2 (k * 2)
          have z1 := hf2 (k * 2 + 1)
          have q0 := hfz (k * 2)
          have q1 := hfz (k * 2 + 1)
          have hkI : (k : Int) < (m : Int) := by omega
          have k0 : (0 : Int) ≤ (k : Int) := by omega
          have HAP := hide hap
          have HBU := hide hbut
          have HO := hide ho
          have HLL := hide hll
          clear hap hbut ho hll hbn hfz hf2 he hlc hx hgw hbg
          go_wp2_with fail
          go_region
          have hbn := below_new wr (.cells #[.int .u8 109, .int .u8 (i : Int)] 5)
          have ho2 := HO.out.below hbn
          have hw5 := ho2.wrote k (markP i)
          have hs5 := sole_wroteP (wr.alloc (.cells #[.int .u8 109, .int .u8 (i : Int)] 5)) g (k * 2) (markP i)
          have hb5 := but_soleP hs5 ho2
          have hap5 := ((HAP.out.below hbn).one HIK.out (b := g) (by rw [HVI.out]; rfl) _ (by rw [HVI.out]; exact hw5) hs5.block).eq (fun j _ => apP_set cs i k (by have := HM.out; omega) j)
          simp only [markP, nilB] at hap5 hb5
          obtain ⟨W3, hW3⟩ : ∃ W3, (((wr.alloc (.cells #[.int .u8 109, .int .u8 (i : Int)] 5)).setCell ⟨g, k * 2, none⟩ (.string (mB i))).setCell ⟨g, k * 2 + 1, none⟩ (.string ⟨#[]⟩)) = W3 := ⟨_, rfl⟩
          rw [show (⟨#[109, UInt8.ofNat i]⟩ : ByteArray) = mB i from rfl, hW3] at hap5 hb5
          rw [hW3]
          have HAP3 := hide (hap5.below (below_drewN' (Below.refl W3.heap.size W3) 1))
          have HBU3 := hide ((HBU.out.trans (But.of_below hbn)).trans (hb5.trans (But.of_below (below_drewN' (Below.refl W3.heap.size W3) 1))))
          clear hbn ho2 hw5 hs5 hb5 hap5 hW3 y y0 y1 z0 z1 q0 q1 c0 c1 hcv hci HO HLL HAP HBU
          go_wp2
          go_roundw
          case rel => exact ⟨k + 1, by omega, by go_num, HAP3.out, HBU3.out⟩
          case measure => simp [intOf]; omega
        · have hkm' : k = m := by omega
          subst hkm'
          have hkI : ¬ (k : Int) < (k : Int) := by omega
          have HAP2 : Hid (ApQ base G K vs (apP cs (i + 1) 0) wr) := hap.eq (fun j _ => by have := HM.out; rw [this]; exact apP_next cs i j)
          have HBU2 := hide hbut
          clear hap hbut
          go_wp2
          go_roundw
          case rel => have := HIK.out; exact ⟨i + 1, by omega, by go_num, HAP2.out, HBU2.out⟩
          case measure => have := HIK.out; simp [intOf]; omega
    · have hiK2 : i = K := by omega
      subst hiK2
      have hiI : ¬ (i : Int) < (i : Int) := by omega
      obtain ⟨F, hF⟩ : ∃ F, F = apP cs i 0 := ⟨_, rfl⟩
      rw [← hF] at HAP
      have HF : Hid (∀ j, j < i → F j = List.replicate (cs j).length (markP j)) := fun j hj => by rw [hF]; exact apP_full cs i j hj
      have HFL : Hid (∀ j, j < i → (F j).length = (cs j).length) := fun j hj => by rw [HF.out j hj]; simp
      clear hF hiK hi
      generalize wr = W0 at *
      go_wp2_with fail
      go_loopw [5, 6] (fun gv iv wr => ∃ x gs : Nat, x ≤ i ∧ iv = .int .i64 x ∧ gv = .int .i64 gs ∧ 64 * x ≤ gs ∧ gs ≤ x * 1099511627840 ∧ ApQ base G i vs F wr ∧ But base (ofT tPR) w wr) (fun _ iv _ => i - (intOf iv).toNat)
      case atStart => exact ⟨0, 0, Nat.zero_le _, rfl, rfl, by omega, by omega, HAP.out, HBU.out⟩
      case round =>
        clear HAP HBU
        obtain ⟨x, gs, hx, rfl, rfl, hg1, hg2, hap, hbut⟩ := hrel
        have HAP := hide hap
        have HBU := hide hbut
        have HG12 : Hid (64 * x ≤ gs ∧ gs ≤ x * 1099511627840) := ⟨hg1, hg2⟩
        clear hg1 hg2 hbut
        by_cases hxi : x < i
        · have hxI : (x : Int) < (i : Int) := by omega
          have x0 : (0 : Int) ≤ (x : Int) := by omega
          have hci := hap.row x hxi
          obtain ⟨a, c, hvi⟩ : ∃ a c, vs x = .slice a (cs x).length c := by
            obtain ⟨a, c, h⟩ := (hap.own x hxi).form
            rw [HFL.out x hxi] at h
            exact ⟨a, c, h⟩
          obtain ⟨m, hm⟩ : ∃ m, m = (cs x).length := ⟨_, rfl⟩
          rw [← hm] at hvi
          rw [hvi] at hci
          have hmM : m ≤ 1099511627776 := by rw [hm]; exact HL.out x hxi
          have HM : Hid ((F x).length = m) := by show _ = _; rw [HFL.out x hxi, hm]
          have HGI := hide (GrQ.init (x := moreP) hap hxi hvi)
          have HXI := hide hxi
          have hbw : base ≤ wr.heap.size := by have := HBASE.out; have := HBU.out.size; omega
          have HBW := hide hbw
          clear hap hm hvi hxi hbw
          generalize wr = W1 at *
          go_wp2_with fail
          clear hci
          go_loopw [7, 8] (fun mv kv wr => ∃ (q c' : Nat) (a' : Option Addr), q ≤ 64 ∧ kv = .int .i64 q ∧ mv = .slice a' (m + q) c' ∧ GrQ base G i vs F W1 wr x m q a' c' moreP) (fun _ kv _ => 64 - (intOf kv).toNat)
          case atStart => exact ⟨0, c, a, Nat.zero_le _, rfl, rfl, HGI.out⟩
          case round =>
            clear HGI
            obtain ⟨q, c', a', hq, rfl, rfl, hgr⟩ := hrel
            by_cases hq64 : q < 64
            · have hqI : (q : Int) < 64 := by omega
              obtain ⟨a2, c2, w2, hrun, hgr2⟩ := hgr.step 28 HXI.out HM.out (by omega) (by have := HBW.out; have := hgr.but.size; omega)
              have hrun' : (Builtin.append_ #[22, 22] 22 #[.slice a' (m + q) c', .slice (some ⟨wr.heap.size, 0, none⟩) 1 1]).run Tryd.prog (wr.alloc (.cells #[.string ⟨#[109, 111, 114, 101]⟩, .string ⟨#[]⟩] 28)) = .ok (.slice a2 (m + q + 1) c2) w2 := hrun
              have HRUN := hide hrun'
              have HGR := hide hgr2
              have HQ6 := hide hq64
              clear hrun hrun' hgr hgr2 hq64
              go_wp2_with (first | (at_builtin; refine wpList_append_run 22 rfl _ _ rfl rfl _ _ rfl rfl _ _ HRUN.out ?_))
              go_wp2
              go_roundw
              case rel => have := HQ6.out; exact ⟨q + 1, c2, a2, by omega, by go_num, rfl, HGR.out⟩
              case measure => have := HQ6.out; simp [intOf]; omega
            · have hq2 : q = 64 := by omega
              subst hq2
              have hqI : ¬ ((64 : Nat) : Int) < 64 := by omega
              have HAP2 := hide hgr.aps
              have HBU2 := hide (HBU.out.trans hgr.but)
              have hwr : IntKind.i64.wrap ((gs : Int) + ((m + 64 : Nat) : Int)) = ((gs + (m + 64) : Nat) : Int) := by
                have := HG12.out; have := HXI.out; rw [IntKind.wrap_i64]; omega
              have hwr2 : wrap64 ((gs : Int) + ((m + 64 : Nat) : Int)) = ((gs + (m + 64) : Nat) : Int) := by
                have := HG12.out; have := HXI.out; unfold wrap64; omega
              have HGN : Hid (64 * (x + 1) ≤ gs + (m + 64) ∧ gs + (m + 64) ≤ (x + 1) * 1099511627840) := by have := HG12.out; exact ⟨by omega, by omega⟩
              generalize hmm : m + 64 = mm at hwr hwr2 HGN ⊢
              generalize gs + mm = gs2 at hwr hwr2 HGN ⊢
              clear hgr hmm
              go_wp2
              go_roundw
              case rel => have := HXI.out; exact ⟨x + 1, gs2, by omega, by go_num, rfl, HGN.out.1, HGN.out.2, HAP2.out, HBU2.out⟩
              case measure => have := HXI.out; simp [intOf]; omega
        · have hxi2 : x = i := by omega
          subst hxi2
          have hxI : ¬ (x : Int) < (x : Int) := by omega
          clear hap hxi hx
          generalize wr = W1 at *
          go_wp2_with fail
          go_loopw [9] (fun iv wr => ∃ y : Nat, y ≤ x ∧ iv = .int .i64 y ∧ ApQ base G x vs F wr ∧ But base (ofT tPR) w wr) (fun iv _ => x - (intOf iv).toNat)
          case atStart => exact ⟨0, Nat.zero_le _, rfl, HAP.out, HBU.out⟩
          case round =>
            clear HAP HBU
            obtain ⟨y, hy, rfl, hap, hbut⟩ := hrel
            have HAP := hide hap
            have HBU := hide hbut
            clear hap hbut
            by_cases hyx : y < x
            · have hyI : (y : Int) < (x : Int) := by omega
              have y00 : (0 : Int) ≤ (y : Int) := by omega
              have hy5 : y < 5 := by omega
              obtain ⟨a, c, hvi⟩ : ∃ a c, vs y = .slice a (cs y).length c := by
                obtain ⟨a, c, h⟩ := (HAP.out.own y hyx).form
                rw [HFL.out y hyx] at h
                exact ⟨a, c, h⟩
              obtain ⟨m, hm⟩ : ∃ m, m = (cs y).length := ⟨_, rfl⟩
              rw [← hm] at hvi
              have hmM : m ≤ 1099511627776 := by rw [hm]; exact HL.out y hyx
              have HM : Hid (F y = List.replicate m (markP y)) := by show _ = _; rw [HF.out y hyx, hm]
              have HVI := hide hvi
              have HYX := hide hyx
              clear hm hvi hyx
              generalize wr = W2 at *
              go_wp2_with fail
              go_loopw [10] (fun kk wr => ∃ k : Nat, k ≤ m ∧ kk = .int .i64 k ∧ ApQ base G x vs F wr ∧ But base (ofT tPR) w wr) (fun kk _ => m - (intOf kk).toNat)
              case atStart => exact ⟨0, Nat.zero_le _, rfl, HAP.out, HBU.out⟩
              case round =>
                clear HAP HBU
                obtain ⟨k, hk, rfl, hap, hbut⟩ := hrel
                have hci : wr.cell? ⟨G, y, none⟩ = some (.slice a m c) := by rw [← HVI.out]; exact hap.row y HYX.out
                by_cases hkm : k < m
                · have ho := hap.own y HYX.out
                  rw [HVI.out, HM.out] at ho
                  obtain ⟨g, c', he, hbg, hgw, hlc⟩ := ho.anyb (by simp; omega)
                  obtain ⟨rfl, -, rfl⟩ : a = some ⟨g, 0, none⟩ ∧ m = (List.replicate m (markP y)).length ∧ c = c' := by simpa using he
                  obtain ⟨⟨c0, c1⟩, _⟩ := ho.spotP k (by simp; omega)
                  simp only [List.getElem_replicate, markP, nilB] at c0 c1
                  rw [show (⟨#[109, UInt8.ofNat y]⟩ : ByteArray) = mB y from rfl] at c0
                  have hwu : IntKind.u8.wrap (y : Int) = (y : Int) := by rw [IntKind.wrap_u8]; omega
                  have hcv := mB_conv wr y (by omega)
                  have hbn := below_new wr (.cells #[.int .u8 109, .int .u8 (y : Int)] 5)
                  have yy := cell_bel hbn hci
                  have y0 := cell_bel hbn c0
                  have y1 := cell_bel hbn c1
                  have hkI : (k : Int) < (m : Int) := by omega
                  have k0 : (0 : Int) ≤ (k : Int) := by omega
                  have hns := fun W => pr_nself W (mB y) ⟨#[]⟩
                  have HAP2 := hide (hap.below (below_drewN' hbn 1))
                  have HBU2 := hide (hbut.trans (But.of_below (below_drewN' hbn 1)))
                  clear hap hbut ho hbn he hlc hgw hbg
                  go_wp2_with fail
                  go_region
                  clear yy y0 y1 c0 c1 hcv hci hns
                  go_wp2
                  go_roundw
                  case rel => exact ⟨k + 1, by omega, by go_num, HAP2.out, HBU2.out⟩
                  case measure => simp [intOf]; omega
                · have hkI : ¬ (k : Int) < (m : Int) := by omega
                  have HAP2 := hide hap
                  have HBU2 := hide hbut
                  clear hap hbut
                  go_wp2
                  go_roundw
                  case rel => have := HYX.out; exact ⟨y + 1, by omega, by go_num, HAP2.out, HBU2.out⟩
                  case measure => have := HYX.out; simp [intOf]; omega
            · have hyI : ¬ (y : Int) < (x : Int) := by omega
              have hw64 : IntKind.i64.wrap (64 * (x : Int)) = ((64 * x : Nat) : Int) := by rw [IntKind.wrap_i64]; omega
              have hw64' : wrap64 (64 * (x : Int)) = ((64 * x : Nat) : Int) := by unfold wrap64; omega
              have hge : (gs : Int) ≥ ((64 * x : Nat) : Int) := by have := HG12.out; omega
              have hge2 : ((64 * x : Nat) : Int) ≤ (gs : Int) := hge
              have hge3 : 64 * x ≤ gs := HG12.out.1
              generalize 64 * x = x64 at *
              go_wp2
              rw [HQ.out]
              exact ⟨rfl, HBU.out⟩
end Go.Proofs.YthnidlhcpelomaaDoor
